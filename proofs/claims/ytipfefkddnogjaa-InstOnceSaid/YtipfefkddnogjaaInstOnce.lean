/-
  Proved here: of any word, what is decoded is an instruction whose word is that word, and what is no instruction's word gives the form error and the zero instruction: the law answers true for every input, without a condition.
-/
import Derived.Test.YtipfefkddnogjaaRows
import Derived.Test.YtipfefkddnogjaaOnceB
import Derived.Test.YtipfefkddnogjaaAwake
import Derived.WalkKit
import Derived.ProofKit
import Derived.OpenShut
namespace Go.Proofs.Ytipfefkddnogjaa.instOnce
open Go.ChangeShapes Go.WideShapes Go.ChangeAt Go.RowKit
set_option linter.unusedVariables false      -- a walk need not use every 'w<i>' (that an integer argument fits its kind)

theorem own : ownKnob Try.prog.godebug = none := by kernel_rfl

set_option maxRecDepth 100000 in
set_option maxHeartbeats 8000000 in
theorem once_no (u : Int) (u0 : 0 ≤ u) (u1 : u ≤ 4294967295) (hk : findI u = 0) (w : World) :
    Calls Try.prog 5 #[.int .u32 u] w fun e w' => e = .returned (.bool true) ∧ Grown w w' := by
  have K16 := Lib.hid (fun w => c16_none u u0 u1 hk w)
  clear hk
  go_enter Try.func5, Try.ntmps5
  go_wp2_with (first
    | (go_at_call 16; (with_reducible refine (K16.out _).mono ?_); rintro e w1 ⟨rfl, hg⟩; have HG := Lib.hid hg; clear hg)
    | (go_at_call 13; (with_reducible refine (c13 _).mono ?_); rintro e w2 ⟨rfl, hg⟩
       have z0 := grown_cell hg (row_cell w1 zero34 23 0 (.int .i64 0) rfl)
       have z1 := grown_cell hg (row_cell w1 zero34 23 1 (.int .i64 0) rfl)
       have z2 := grown_cell hg (row_cell w1 zero34 23 2 (.int .i64 0) rfl)
       have z3 := grown_cell hg (row_cell w1 zero34 23 3 (.int .i64 0) rfl)
       have z4 := grown_cell hg (row_cell w1 zero34 23 4 (.int .i64 0) rfl)
       have HG2 := Lib.hid (grown_trans (HG.out.alloc _ _) hg)
       clear hg))
  go_ret
  exact ⟨rfl, HG2.out⟩
set_option maxRecDepth 100000 in
set_option maxHeartbeats 8000000 in
theorem once_yes (u : Int) (u0 : 0 ≤ u) (u1 : u ≤ 4294967295) (k : Nat) (hk : findI u = k) (k0 : k ≠ 0) (w : World) :
    Calls Try.prog 5 #[.int .u32 u] w fun e w' => e = .returned (.bool true) ∧ Grown w w' := by
  obtain ⟨hlt, m⟩ := find_mt u0 u1 hk k0
  obtain ⟨d1, d2⟩ := dec_once u0 u1 hlt k0 m
  have K16 := fun w => c16_some u u0 u1 k hk k0 w
  have K11 := fun w => c11_yes (k : Int) _ _ _ _ w (by rw [ix_nat hlt]; exact d1)
  have K14 := fun w => c14 (k : Int) (regV u 7 (uRd (fm k))) (regV u 15 (uRs1 (fm k))) (regV u 20 (uRs2 (fm k))) (gathS (fm k) u) w
  rw [d2] at K11
  rw [ix_nat hlt, d1] at K14
  clear m d1 d2 hk k0
  generalize gathS (fm k) u = T at *
  generalize regV u 7 (uRd (fm k)) = A at *
  generalize regV u 15 (uRs1 (fm k)) = B at *
  generalize regV u 20 (uRs2 (fm k)) = C at *
  have H16 := Lib.hid K16
  have H11 := Lib.hid K11
  have H14 := Lib.hid K14
  clear K16 K11 K14
  go_enter Try.func5, Try.ntmps5
  go_wp2_with (first
    | (go_at_call 16; (with_reducible refine (H16.out _).mono ?_); rintro e w1 ⟨rfl, hg⟩
       have HG := Lib.hid hg; clear hg
       have z0 := Lib.hid (row_cell w1 #[.int .i64 k, .int .i64 A, .int .i64 B, .int .i64 C, .int .i64 T] 23 0 (.int .i64 k) rfl)
       have z1 := Lib.hid (row_cell w1 #[.int .i64 k, .int .i64 A, .int .i64 B, .int .i64 C, .int .i64 T] 23 1 (.int .i64 A) rfl)
       have z2 := Lib.hid (row_cell w1 #[.int .i64 k, .int .i64 A, .int .i64 B, .int .i64 C, .int .i64 T] 23 2 (.int .i64 B) rfl)
       have z3 := Lib.hid (row_cell w1 #[.int .i64 k, .int .i64 A, .int .i64 B, .int .i64 C, .int .i64 T] 23 3 (.int .i64 C) rfl)
       have z4 := Lib.hid (row_cell w1 #[.int .i64 k, .int .i64 A, .int .i64 B, .int .i64 C, .int .i64 T] 23 4 (.int .i64 T) rfl))
    | (go_at_call 11; (with_reducible refine (H11.out _).mono ?_); rintro e w2 ⟨rfl, hg⟩
       replace z0 := Lib.hid (grown_cell hg z0.out)
       replace z1 := Lib.hid (grown_cell hg z1.out)
       replace z2 := Lib.hid (grown_cell hg z2.out)
       replace z3 := Lib.hid (grown_cell hg z3.out)
       replace z4 := Lib.hid (grown_cell hg z4.out)
       replace HG := Lib.hid (grown_trans (HG.out.alloc _ _) hg); clear hg)
    | (go_at_call 13; (with_reducible refine (c13 _).mono ?_); rintro e w3 ⟨rfl, hg⟩
       have a0 := grown_cell hg z0.out
       have a1 := grown_cell hg z1.out
       have a2 := grown_cell hg z2.out
       have a3 := grown_cell hg z3.out
       have a4 := grown_cell hg z4.out
       replace HG := Lib.hid (grown_trans HG.out hg); clear hg)
    | (go_at_call 14; (with_reducible refine (H14.out _).mono ?_); rintro e w4 ⟨rfl, hg⟩
       replace HG := Lib.hid (grown_trans HG.out hg); clear hg))
  go_ret
  exact ⟨rfl, HG.out⟩
theorem walk (a0 : Int) (w0 : (Lit.int .u32 a0).wf = true) (w : World) :
    Calls Try.prog 5 #[.int .u32 a0] w fun e w' => e = .returned (.bool true) ∧ Grown w w' := by
  obtain ⟨u0, u1⟩ := wf_u32 w0
  by_cases h : findI a0 = 0
  · exact once_no a0 u0 u1 h w
  · exact once_yes a0 u0 u1 _ rfl h w

/-! ### THE ROW's STEP: WRITTEN OUT: LEAVE IT -/
set_option maxRecDepth 100000 in
theorem lifted (os : Os) (started : os.Started) (H : Type) (enc : TypeId × Value → H) :
    ReturnsInHanded {} Try.checked os 5 .any (Rows.instOnceSpec.pre6 enc Try.prog Try.f5 Rows.instOnceRow.domain false) (Rows.instOnceSpec.post enc Try.prog Try.f5 false true false false) := by
  refine returnsInHanded_of_change (C := Try.checked) own started (by kernel_rfl) Try.func5
    (ChangeSpec.witness6 (enc := enc) (C := Try.checked) false ⟨#[], #[.int .u32 0], []⟩ 8 (by kernel_rfl) (by kernel_rfl) (by kernel_rfl) (by kernel_rfl)) ?_
  intro W base args ds gs before hval0 hW hcnd _
  have hval : ∀ (j : Nat) t v, Try.f5.params[j]? = some t → args[j]? = some v → Value.okWide Try.prog W .any base t v := hval0
  have hW' := hW
  obtain ⟨p, q, hA0, hV, rfl, hfz, hnd⟩ := hW
  have hA : DataW.TrodAll enc Try.prog W 0 (fun _ => true) true Try.f5.params.toList args.toList ds p := hA0
  rw [Try.params5] at hA hval
  obtain ⟨v0, vs0, d0, ds0, p0, q0, hargs, rfl, rfl, h0, r0⟩ := trodAll_cons hA
  obtain ⟨rfl, rfl, rfl⟩ := trodAll_nil r0
  obtain rfl : args = #[v0] := by cases args; simp_all
  obtain ⟨rfl, rfl⟩ := trodVars_none hV
  obtain ⟨a0, rfl, rfl, rfl, w0⟩ := open_int Try.underlying24 (hval 0 24 v0 rfl rfl) h0
  clear hA0 hval0
  simp only [List.append_nil] at hW'
  refine (walk a0 w0 W).mono fun e W' ⟨he, hg⟩ => ?_
  subst he
  exact ⟨_, rfl, post_of_same (pa := []) (pv := []) hW' (fun _ _ _ => (trodAll_cons_mk (shut_bool Try.underlying4 _) trodAll_mk0)) (fun sp _ => (trodAll_cons_mk (shut_int Try.underlying24 w0) trodAll_mk0)) (fun _ _ => rfl) rfl
    (hg.frame _) hg.2.1 (ok_one (by kernel_rfl) rfl (okWide_bool_mk Try.underlying4 _))⟩

theorem over : Rows.instOnceRow.holds Try.pinned (OpenSpec.ofChange Rows.instOnceSpec) :=
  OpenClaim.holds_of_wide 5 Try.f5 rfl rfl rfl rfl rfl rfl rfl ⟨rfl, rfl, rfl, rfl, rfl⟩ rfl rfl rfl rfl rfl (by kernel_rfl) Try.func5 (by kernel_rfl)
    (of_decide_eq_true (by kernel_rfl)) (by unfold Func.isWrapper; first | (rw [if_pos (by decide +kernel)]; kernel_rfl) | (rw [if_neg (by decide +kernel)]; exact ⟨rfl, rfl⟩))
    (fun os started H enc _ => lifted os started H enc)

/-- ████ THE STATEMENT ████ -/
theorem proved : Rows.InstOnceSaid :=
  over
end Go.Proofs.Ytipfefkddnogjaa.instOnce
