/-
  Proved here: of any word, which instruction it is, or that it is none, is that of the document: the law answers true for every input, without a condition.
-/
import Derived.Test.YtipfefkddnogjaaRows
import Derived.Test.YtipfefkddnogjaaRefG
import Derived.Test.YtipfefkddnogjaaAwake
import Derived.WalkKit
import Derived.ProofKit
import Derived.OpenShut
namespace Go.Proofs.Ytipfefkddnogjaa.instDecodes
open Go.ChangeShapes Go.WideShapes Go.ChangeAt Go.RowKit
set_option linter.unusedVariables false      -- a walk need not use every 'w<i>' (that an integer argument fits its kind)

theorem own : ownKnob Try.prog.godebug = none := by kernel_rfl

set_option maxRecDepth 100000 in
set_option maxHeartbeats 8000000 in
theorem dec_law (u k A B C T E : Int) (w : World)
    (K16 : Hid (∀ w, Calls Try.prog 16 #[.int .u32 u] w fun e w' => e = .returned (.tuple #[.agg #[.int .i64 k, .int .i64 A, .int .i64 B, .int .i64 C, .int .i64 T], .int .i64 E]) ∧ Grown w w'))
    (K17 : Hid (∀ w, Calls Try.prog 17 #[.int .u32 u] w fun e w' => e = .returned (.tuple #[.agg #[.int .i64 k, .int .i64 A, .int .i64 B, .int .i64 C, .int .i64 T], .int .i64 E]) ∧ Grown w w')) :
    Calls Try.prog 4 #[.int .u32 u] w fun e w' => e = .returned (.bool true) ∧ Grown w w' := by
  go_enter Try.func4, Try.ntmps4
  go_wp2_with (first
    | (go_at_call 16; (with_reducible refine (K16.out _).mono ?_); rintro e w1 ⟨rfl, hg⟩
       have HG := Lib.hid hg; clear hg
       have z0 := Lib.hid (row_cell w1 #[.int .i64 k, .int .i64 A, .int .i64 B, .int .i64 C, .int .i64 T] 23 0 (.int .i64 k) rfl)
       have z1 := Lib.hid (row_cell w1 #[.int .i64 k, .int .i64 A, .int .i64 B, .int .i64 C, .int .i64 T] 23 1 (.int .i64 A) rfl)
       have z2 := Lib.hid (row_cell w1 #[.int .i64 k, .int .i64 A, .int .i64 B, .int .i64 C, .int .i64 T] 23 2 (.int .i64 B) rfl)
       have z3 := Lib.hid (row_cell w1 #[.int .i64 k, .int .i64 A, .int .i64 B, .int .i64 C, .int .i64 T] 23 3 (.int .i64 C) rfl)
       have z4 := Lib.hid (row_cell w1 #[.int .i64 k, .int .i64 A, .int .i64 B, .int .i64 C, .int .i64 T] 23 4 (.int .i64 T) rfl))
    | (go_at_call 17; (with_reducible refine (K17.out _).mono ?_); rintro e w2 ⟨rfl, hg⟩
       replace z0 := Lib.hid (grown_cell hg z0.out)
       replace z1 := Lib.hid (grown_cell hg z1.out)
       replace z2 := Lib.hid (grown_cell hg z2.out)
       replace z3 := Lib.hid (grown_cell hg z3.out)
       replace z4 := Lib.hid (grown_cell hg z4.out)
       replace HG := Lib.hid (grown_trans (HG.out.alloc _ _) hg); clear hg)
    | (go_at_call 13; (with_reducible refine (c13 _).mono ?_); rintro e w3 ⟨rfl, hg⟩
       have ha := (Grown.refl w2).alloc #[.int .i64 k, .int .i64 A, .int .i64 B, .int .i64 C, .int .i64 T] 30
       have a0 := grown_cell hg (grown_cell ha z0.out)
       have a1 := grown_cell hg (grown_cell ha z1.out)
       have a2 := grown_cell hg (grown_cell ha z2.out)
       have a3 := grown_cell hg (grown_cell ha z3.out)
       have a4 := grown_cell hg (grown_cell ha z4.out)
       have b0 := grown_cell hg (row_cell w2 #[.int .i64 k, .int .i64 A, .int .i64 B, .int .i64 C, .int .i64 T] 30 0 (.int .i64 k) rfl)
       have b1 := grown_cell hg (row_cell w2 #[.int .i64 k, .int .i64 A, .int .i64 B, .int .i64 C, .int .i64 T] 30 1 (.int .i64 A) rfl)
       have b2 := grown_cell hg (row_cell w2 #[.int .i64 k, .int .i64 A, .int .i64 B, .int .i64 C, .int .i64 T] 30 2 (.int .i64 B) rfl)
       have b3 := grown_cell hg (row_cell w2 #[.int .i64 k, .int .i64 A, .int .i64 B, .int .i64 C, .int .i64 T] 30 3 (.int .i64 C) rfl)
       have b4 := grown_cell hg (row_cell w2 #[.int .i64 k, .int .i64 A, .int .i64 B, .int .i64 C, .int .i64 T] 30 4 (.int .i64 T) rfl)
       have HG2 := Lib.hid (grown_trans (HG.out.alloc _ _) hg)
       clear hg ha))
  go_ret
  exact ⟨rfl, HG2.out⟩
theorem walk (a0 : Int) (w0 : (Lit.int .u32 a0).wf = true) (w : World) :
    Calls Try.prog 4 #[.int .u32 a0] w fun e w' => e = .returned (.bool true) ∧ Grown w w' := by
  obtain ⟨u0, u1⟩ := wf_u32 w0
  by_cases h : findI a0 = 0
  · exact dec_law a0 0 0 0 0 0 3 w (Lib.hid fun w => c16_none a0 u0 u1 h w) (Lib.hid fun w => (c17 a0 u0 u1 w).mono fun e w' ⟨he, hg⟩ => ⟨by rw [he, decV_none h], hg⟩)
  · exact dec_law a0 _ _ _ _ _ 0 w (Lib.hid fun w => c16_some a0 u0 u1 _ rfl h w) (Lib.hid fun w => (c17 a0 u0 u1 w).mono fun e w' ⟨he, hg⟩ => ⟨by rw [he, decV_some rfl h], hg⟩)

/-! ### THE ROW's STEP: WRITTEN OUT: LEAVE IT -/
set_option maxRecDepth 100000 in
theorem lifted (os : Os) (started : os.Started) (H : Type) (enc : TypeId × Value → H) :
    ReturnsInHanded {} Try.checked os 4 .any (Rows.instDecodesSpec.pre6 enc Try.prog Try.f4 Rows.instDecodesRow.domain false) (Rows.instDecodesSpec.post enc Try.prog Try.f4 false true false false) := by
  refine returnsInHanded_of_change (C := Try.checked) own started (by kernel_rfl) Try.func4
    (ChangeSpec.witness6 (enc := enc) (C := Try.checked) false ⟨#[], #[.int .u32 0], []⟩ 8 (by kernel_rfl) (by kernel_rfl) (by kernel_rfl) (by kernel_rfl)) ?_
  intro W base args ds gs before hval0 hW hcnd _
  have hval : ∀ (j : Nat) t v, Try.f4.params[j]? = some t → args[j]? = some v → Value.okWide Try.prog W .any base t v := hval0
  have hW' := hW
  obtain ⟨p, q, hA0, hV, rfl, hfz, hnd⟩ := hW
  have hA : DataW.TrodAll enc Try.prog W 0 (fun _ => true) true Try.f4.params.toList args.toList ds p := hA0
  rw [Try.params4] at hA hval
  obtain ⟨v0, vs0, d0, ds0, p0, q0, hargs, rfl, rfl, h0, r0⟩ := trodAll_cons hA
  obtain ⟨rfl, rfl, rfl⟩ := trodAll_nil r0
  obtain rfl : args = #[v0] := by cases args; simp_all
  obtain ⟨rfl, rfl⟩ := trodVars_none hV
  obtain ⟨a0, rfl, rfl, rfl, w0⟩ := open_int Try.underlying24 (hval 0 24 v0 rfl rfl) h0
  clear hA0 hval0
  simp only [List.append_nil] at hW'
  refine (walk a0 w0 W).mono fun e W' ⟨he, hg⟩ => ?_
  subst he
  exact ⟨_, rfl, post_of_same (pa := []) (pv := []) hW' (fun _ _ _ => (trodAll_cons_mk (shut_bool Try.underlying4 _) trodAll_mk0)) (fun sp _ => (trodAll_cons_mk (shut_int Try.underlying24 w0) trodAll_mk0)) (fun _ _ => rfl) rfl
    (hg.frame _) hg.2.1 (ok_one (by kernel_rfl) rfl (okWide_bool_mk Try.underlying4 _))⟩

theorem over : Rows.instDecodesRow.holds Try.pinned (OpenSpec.ofChange Rows.instDecodesSpec) :=
  OpenClaim.holds_of_wide 4 Try.f4 rfl rfl rfl rfl rfl rfl rfl ⟨rfl, rfl, rfl, rfl, rfl⟩ rfl rfl rfl rfl rfl (by kernel_rfl) Try.func4 (by kernel_rfl)
    (of_decide_eq_true (by kernel_rfl)) (by unfold Func.isWrapper; first | (rw [if_pos (by decide +kernel)]; kernel_rfl) | (rw [if_neg (by decide +kernel)]; exact ⟨rfl, rfl⟩))
    (fun os started H enc _ => lifted os started H enc)

/-- ████ THE STATEMENT ████ -/
theorem proved : Rows.InstDecodesSaid :=
  over
end Go.Proofs.Ytipfefkddnogjaa.instDecodes
