/-
  Proved here: of any five numbers, whether they are an instruction, its word, and the argument error where they are none, are those of the document: the law answers true for every input, without a condition.
-/
import Derived.Test.YtipfefkddnogjaaRows
import Derived.Test.YtipfefkddnogjaaInst
import Derived.Test.YtipfefkddnogjaaRefE
import Derived.WalkKit
import Derived.ProofKit
import Derived.OpenShut
namespace Go.Proofs.Ytipfefkddnogjaa.instEncodes
open Go.ChangeShapes Go.WideShapes Go.ChangeAt Go.RowKit
set_option linter.unusedVariables false      -- a walk need not use every 'w<i>' (that an integer argument fits its kind)

theorem own : ownKnob Try.prog.godebug = none := by kernel_rfl

set_option maxRecDepth 100000 in
set_option maxHeartbeats 8000000 in
theorem enc_law (op rd r1 r2 imm A E : Int) (R : Bool) (w : World)
    (K11 : Hid (∀ w, Calls Try.prog 11 #[.agg #[.int .i64 op, .int .i64 rd, .int .i64 r1, .int .i64 r2, .int .i64 imm]] w fun e w' => e = .returned (.tuple #[.int .u32 A, .int .i64 E]) ∧ Grown w w'))
    (K12 : Hid (∀ w, Calls Try.prog 12 #[.agg #[.int .i64 op, .int .i64 rd, .int .i64 r1, .int .i64 r2, .int .i64 imm]] w fun e w' => e = .returned (.tuple #[.int .u32 A, .int .i64 E]) ∧ Grown w w'))
    (K14 : Hid (∀ w, Calls Try.prog 14 #[.agg #[.int .i64 op, .int .i64 rd, .int .i64 r1, .int .i64 r2, .int .i64 imm]] w fun e w' => e = .returned (.bool R) ∧ Grown w w'))
    (K15 : Hid (∀ w, Calls Try.prog 15 #[.agg #[.int .i64 op, .int .i64 rd, .int .i64 r1, .int .i64 r2, .int .i64 imm]] w fun e w' => e = .returned (.bool R) ∧ Grown w w')) :
    Calls Try.prog 3 #[.agg #[.int .i64 op, .int .i64 rd, .int .i64 r1, .int .i64 r2, .int .i64 imm]] w fun e w' => e = .returned (.bool true) ∧ Grown w w' := by
  have z0 := Lib.hid (row_cell w #[.int .i64 op, .int .i64 rd, .int .i64 r1, .int .i64 r2, .int .i64 imm] 23 0 (.int .i64 op) rfl)
  have z1 := Lib.hid (row_cell w #[.int .i64 op, .int .i64 rd, .int .i64 r1, .int .i64 r2, .int .i64 imm] 23 1 (.int .i64 rd) rfl)
  have z2 := Lib.hid (row_cell w #[.int .i64 op, .int .i64 rd, .int .i64 r1, .int .i64 r2, .int .i64 imm] 23 2 (.int .i64 r1) rfl)
  have z3 := Lib.hid (row_cell w #[.int .i64 op, .int .i64 rd, .int .i64 r1, .int .i64 r2, .int .i64 imm] 23 3 (.int .i64 r2) rfl)
  have z4 := Lib.hid (row_cell w #[.int .i64 op, .int .i64 rd, .int .i64 r1, .int .i64 r2, .int .i64 imm] 23 4 (.int .i64 imm) rfl)
  have HG := Lib.hid ((Grown.refl w).alloc #[.int .i64 op, .int .i64 rd, .int .i64 r1, .int .i64 r2, .int .i64 imm] 23)
  go_enter Try.func3, Try.ntmps3
  go_wp2_with (first
    | (go_at_call 11; (with_reducible refine (K11.out _).mono ?_); rintro e w1 ⟨rfl, hg⟩
       have a0 := grown_cell hg z0.out
       have a1 := grown_cell hg z1.out
       have a2 := grown_cell hg z2.out
       have a3 := grown_cell hg z3.out
       have a4 := grown_cell hg z4.out
       replace HG := Lib.hid (grown_trans HG.out hg); clear hg)
    | (go_at_call 12; (with_reducible refine (K12.out _).mono ?_); rintro e w2 ⟨rfl, hg⟩
       have b0 := grown_cell hg a0
       have b1 := grown_cell hg a1
       have b2 := grown_cell hg a2
       have b3 := grown_cell hg a3
       have b4 := grown_cell hg a4
       replace HG := Lib.hid (grown_trans HG.out hg); clear hg a0 a1 a2 a3 a4))
  clear z0 z1 z2 z3 z4
  generalize w.heap.size = b at *
  have G0 := HG.out
  clear HG
  go_region_held3 (fun w' => Grown w w' ∧ w'.cell? ⟨b, 0, none⟩ = some (.int .i64 op) ∧ w'.cell? ⟨b, 1, none⟩ = some (.int .i64 rd) ∧ w'.cell? ⟨b, 2, none⟩ = some (.int .i64 r1) ∧ w'.cell? ⟨b, 3, none⟩ = some (.int .i64 r2) ∧ w'.cell? ⟨b, 4, none⟩ = some (.int .i64 imm))
      (first | exact ⟨G0, b0, b1, b2, b3, b4⟩ | assumption | exact keep5 (by assumption) (by assumption))
      (first
        | (go_at_call 13; refine (c13 _).mono ?_; rintro e w' ⟨rfl, hg⟩)
        | (go_at_call 14; refine (K14.out _).mono ?_; rintro e w' ⟨rfl, hg⟩)
        | (go_at_call 15; refine (K15.out _).mono ?_; rintro e w' ⟨rfl, hg⟩))
  have HG : Hid (Grown w w') := Lib.hid (keepG5 (by assumption))
  clear G0 b0 b1 b2 b3 b4
  go_wp2
  go_ret
  exact ⟨rfl, HG.out⟩
theorem walk (op rd r1 r2 imm : Int) (w : World) :
    Calls Try.prog 3 #[.agg #[.int .i64 op, .int .i64 rd, .int .i64 r1, .int .i64 r2, .int .i64 imm]] w fun e w' => e = .returned (.bool true) ∧ Grown w w' := by
  have K14 := c14 op rd r1 r2 imm
  have K15 := c15 op rd r1 r2 imm
  cases h : fitsB rd r1 r2 imm (fm (ix op)) with
  | false => exact enc_law op rd r1 r2 imm 0 1 _ w (Lib.hid fun w => c11_no op rd r1 r2 imm w h) (Lib.hid fun w => c12_no op rd r1 r2 imm h w) (Lib.hid K14) (Lib.hid K15)
  | true =>
    obtain ⟨e0, e1, _⟩ := enc_back h
    have hk := ix_lt op
    have S := enc_sum hk h
    have A := fun w => c11_yes op rd r1 r2 imm w h
    have B := fun w => c12_yes (ix op) hk e0 rd r1 r2 imm h w
    rw [← S, e1] at B
    exact enc_law op rd r1 r2 imm _ 0 _ w (Lib.hid A) (Lib.hid B) (Lib.hid K14) (Lib.hid K15)

/-! ### THE ROW's STEP: WRITTEN OUT: LEAVE IT -/
set_option maxRecDepth 100000 in
theorem lifted (os : Os) (started : os.Started) (H : Type) (enc : TypeId × Value → H) :
    ReturnsInHanded {} Try.checked os 3 .any (Rows.instEncodesSpec.pre6 enc Try.prog Try.f3 Rows.instEncodesRow.domain false) (Rows.instEncodesSpec.post enc Try.prog Try.f3 false true false false) := by
  refine returnsInHanded_of_change (C := Try.checked) own started (by kernel_rfl) Try.func3
    (ChangeSpec.witness6 (enc := enc) (C := Try.checked) false ⟨#[], #[.agg #[.int .i64 0, .int .i64 0, .int .i64 0, .int .i64 0, .int .i64 0]], []⟩ 8 (by kernel_rfl) (by kernel_rfl) (by kernel_rfl) (by kernel_rfl)) ?_
  intro W base args ds gs before hval0 hW hcnd _
  have hval : ∀ (j : Nat) t v, Try.f3.params[j]? = some t → args[j]? = some v → Value.okWide Try.prog W .any base t v := hval0
  have hW' := hW
  obtain ⟨p, q, hA0, hV, rfl, hfz, hnd⟩ := hW
  have hA : DataW.TrodAll enc Try.prog W 0 (fun _ => true) true Try.f3.params.toList args.toList ds p := hA0
  rw [Try.params3] at hA hval
  obtain ⟨v0, vs0, d0, ds0, p0, q0, hargs, rfl, rfl, h0, r0⟩ := trodAll_cons hA
  obtain ⟨rfl, rfl, rfl⟩ := trodAll_nil r0
  obtain rfl : args = #[v0] := by cases args; simp_all
  obtain ⟨rfl, rfl⟩ := trodVars_none hV
  obtain ⟨x0, x1, x2, x3, x4, rfl, rfl, rfl, w0, w1, w2, w3, w4⟩ := open_inst (hval 0 23 v0 rfl rfl) h0
  clear hA0 hval0
  simp only [List.append_nil] at hW'
  refine (walk x0 x1 x2 x3 x4 W).mono fun e W' ⟨he, hg⟩ => ?_
  subst he
  exact ⟨_, rfl, post_of_same (pa := []) (pv := []) hW' (fun _ _ _ => (trodAll_cons_mk (shut_bool Try.underlying4 _) trodAll_mk0)) (fun sp _ => (trodAll_cons_mk (shut_inst w0 w1 w2 w3 w4) trodAll_mk0)) (fun _ _ => rfl) rfl
    (hg.frame _) hg.2.1 (ok_one (by kernel_rfl) rfl (okWide_bool_mk Try.underlying4 _))⟩

theorem over : Rows.instEncodesRow.holds Try.pinned (OpenSpec.ofChange Rows.instEncodesSpec) :=
  OpenClaim.holds_of_wide 3 Try.f3 rfl rfl rfl rfl rfl rfl rfl ⟨rfl, rfl, rfl, rfl, rfl⟩ rfl rfl rfl rfl rfl (by kernel_rfl) Try.func3 (by kernel_rfl)
    (of_decide_eq_true (by kernel_rfl)) (by unfold Func.isWrapper; first | (rw [if_pos (by decide +kernel)]; kernel_rfl) | (rw [if_neg (by decide +kernel)]; exact ⟨rfl, rfl⟩))
    (fun os started H enc _ => lifted os started H enc)

/-- ████ THE STATEMENT ████ -/
theorem proved : Rows.InstEncodesSaid :=
  over
end Go.Proofs.Ytipfefkddnogjaa.instEncodes
