/-
  Items (layer 5): the contract of Right.
-/
import Derived.Test.YtfnlhammjallfaaAsmB
namespace Go.Proofs.Ytfnlhammjallfaa
open Go.RowKit
set_option linter.unusedVariables false
set_option linter.unusedSimpArgs false
theorem right_k (op rd r1 r2 imm : Int) (b : Bool) (h : fitsB rd r1 r2 imm (fm (ix op)) = b) : Hid (∀ w, Calls Try.prog 26 #[.agg #[.int .i64 op, .int .i64 rd, .int .i64 r1, .int .i64 r2, .int .i64 imm]] w fun e w' => e = .returned (.bool b) ∧ Grown w w') :=
  Lib.hid (fun w => by rw [← h]; exact c26 op rd r1 r2 imm w)
theorem form_k (op : Int) (f : Int) (h : fm (ix op) = f) : Hid (∀ w, Calls Try.prog 28 #[.int .i64 op] w fun e w' => e = .returned (.int .u8 f) ∧ Grown w w') :=
  Lib.hid (fun w => by rw [← h]; exact c28 op w)
set_option maxRecDepth 100000 in
set_option maxHeartbeats 4000000 in
theorem right1 (op rd r1 r2 imm lab : Int) (w : World) :
    Calls Try.prog 10 #[.agg #[.int .i64 1, .int .i64 op, .int .i64 rd, .int .i64 r1, .int .i64 r2, .int .i64 imm, .int .i64 lab]] w fun e w' => e = .returned (.bool (fitsB rd r1 r2 imm (fm (ix op)) && lab == 0)) ∧ Grown w w' := by
  have HG := Lib.hid ((Grown.refl w).alloc #[.int .i64 1, .int .i64 op, .int .i64 rd, .int .i64 r1, .int .i64 r2, .int .i64 imm, .int .i64 lab] 25)
  have z6 := row_cell w #[.int .i64 1, .int .i64 op, .int .i64 rd, .int .i64 r1, .int .i64 r2, .int .i64 imm, .int .i64 lab] 25 6 (.int .i64 lab) rfl
  cases hF : fitsB rd r1 r2 imm (fm (ix op))
  all_goals
    have K := right_k op rd r1 r2 imm _ hF
    clear hF
    go_enter Try.func10, Try.ntmps10
    go_wp2_with (first
      | (go_at_call 26; (with_reducible refine (K.out _).mono ?_); rintro e w2 ⟨rfl, hg⟩; have z := grown_cell hg z6; have HH := Lib.hid (grown_trans HG.out hg); clear hg))
    go_ret
    exact ⟨by simp, HH.out⟩
set_option maxRecDepth 100000 in
set_option maxHeartbeats 4000000 in
theorem right2 (op rd r1 r2 imm lab : Int) (w : World) :
    Calls Try.prog 10 #[.agg #[.int .i64 2, .int .i64 op, .int .i64 rd, .int .i64 r1, .int .i64 r2, .int .i64 imm, .int .i64 lab]] w fun e w' => e = .returned (.bool ((op == 0 && rd == 0 && r1 == 0 && r2 == 0 && imm == 0) && labB lab)) ∧ Grown w w' := by
  have HG := Lib.hid ((Grown.refl w).alloc #[.int .i64 2, .int .i64 op, .int .i64 rd, .int .i64 r1, .int .i64 r2, .int .i64 imm, .int .i64 lab] 25)
  go_enter Try.func10, Try.ntmps10
  go_wp2_with (go_at_call 27; (with_reducible refine (c27 _ _).mono ?_); rintro e w2 ⟨rfl, rfl⟩)
  all_goals go_ret
  all_goals exact ⟨ret_bool (by simp_all), (Grown.refl w).alloc _ _⟩
set_option maxRecDepth 100000 in
set_option maxHeartbeats 8000000 in
theorem right3 (op rd r1 r2 imm lab : Int) (w : World) :
    Calls Try.prog 10 #[.agg #[.int .i64 3, .int .i64 op, .int .i64 rd, .int .i64 r1, .int .i64 r2, .int .i64 imm, .int .i64 lab]] w fun e w' => e = .returned (.bool (fitsB rd r1 r2 imm (fm (ix op)) && fm (ix op) == 66 && imm == 0 && labB lab)) ∧ Grown w w' := by
  have HG := Lib.hid ((Grown.refl w).alloc #[.int .i64 3, .int .i64 op, .int .i64 rd, .int .i64 r1, .int .i64 r2, .int .i64 imm, .int .i64 lab] 25)
  have y1 := Lib.hid (row_cell w #[.int .i64 3, .int .i64 op, .int .i64 rd, .int .i64 r1, .int .i64 r2, .int .i64 imm, .int .i64 lab] 25 1 (.int .i64 op) rfl)
  have y5 := Lib.hid (row_cell w #[.int .i64 3, .int .i64 op, .int .i64 rd, .int .i64 r1, .int .i64 r2, .int .i64 imm, .int .i64 lab] 25 5 (.int .i64 imm) rfl)
  have y6 := Lib.hid (row_cell w #[.int .i64 3, .int .i64 op, .int .i64 rd, .int .i64 r1, .int .i64 r2, .int .i64 imm, .int .i64 lab] 25 6 (.int .i64 lab) rfl)
  cases hF : fitsB rd r1 r2 imm (fm (ix op))
  · have K := right_k op rd r1 r2 imm _ hF
    clear hF
    go_enter Try.func10, Try.ntmps10
    go_wp2_with (first
      | (go_at_call 26; (with_reducible refine (K.out _).mono ?_); rintro e w2 ⟨rfl, hg⟩; have HH := Lib.hid (grown_trans HG.out hg); clear hg))
    go_ret
    exact ⟨by simp, HH.out⟩
  · have K := right_k op rd r1 r2 imm _ hF
    clear hF
    obtain ⟨f, hf⟩ : ∃ f, fm (ix op) = f := ⟨_, rfl⟩
    have KF := form_k op f hf
    rw [hf]
    clear hf
    cases h1 : (f == 66) <;> cases h2 : (imm == 0)
    all_goals
      go_enter Try.func10, Try.ntmps10
      go_wp2_with (first
        | (go_at_call 26; (with_reducible refine (K.out _).mono ?_); rintro e w2 ⟨rfl, hg⟩; have z1 := grown_cell hg y1.out; have z5 := grown_cell hg y5.out; have z6 := grown_cell hg y6.out; have HH := Lib.hid (grown_trans HG.out hg); clear hg)
        | (go_at_call 28; (with_reducible refine (KF.out _).mono ?_); rintro e w3 ⟨rfl, hg⟩; have z5 := grown_cell hg z5; have z6 := grown_cell hg z6; replace HH := Lib.hid (grown_trans HH.out hg); clear hg)
        | (go_at_call 27; (with_reducible refine (c27 _ _).mono ?_); rintro e w4 ⟨rfl, rfl⟩))
      go_ret
      exact ⟨by simp, HH.out⟩
set_option maxRecDepth 100000 in
set_option maxHeartbeats 8000000 in
theorem right4 (op rd r1 r2 imm lab : Int) (w : World) :
    Calls Try.prog 10 #[.agg #[.int .i64 4, .int .i64 op, .int .i64 rd, .int .i64 r1, .int .i64 r2, .int .i64 imm, .int .i64 lab]] w fun e w' => e = .returned (.bool (fitsB rd r1 r2 imm (fm (ix op)) && op == 3 && imm == 0 && labB lab)) ∧ Grown w w' := by
  have HG := Lib.hid ((Grown.refl w).alloc #[.int .i64 4, .int .i64 op, .int .i64 rd, .int .i64 r1, .int .i64 r2, .int .i64 imm, .int .i64 lab] 25)
  have y1 := Lib.hid (row_cell w #[.int .i64 4, .int .i64 op, .int .i64 rd, .int .i64 r1, .int .i64 r2, .int .i64 imm, .int .i64 lab] 25 1 (.int .i64 op) rfl)
  have y5 := Lib.hid (row_cell w #[.int .i64 4, .int .i64 op, .int .i64 rd, .int .i64 r1, .int .i64 r2, .int .i64 imm, .int .i64 lab] 25 5 (.int .i64 imm) rfl)
  have y6 := Lib.hid (row_cell w #[.int .i64 4, .int .i64 op, .int .i64 rd, .int .i64 r1, .int .i64 r2, .int .i64 imm, .int .i64 lab] 25 6 (.int .i64 lab) rfl)
  cases hF : fitsB rd r1 r2 imm (fm (ix op))
  · have K := right_k op rd r1 r2 imm _ hF
    clear hF
    go_enter Try.func10, Try.ntmps10
    go_wp2_with (first
      | (go_at_call 26; (with_reducible refine (K.out _).mono ?_); rintro e w2 ⟨rfl, hg⟩; have HH := Lib.hid (grown_trans HG.out hg); clear hg))
    go_ret
    exact ⟨by simp, HH.out⟩
  · have K := right_k op rd r1 r2 imm _ hF
    clear hF
    cases h1 : (op == 3) <;> cases h2 : (imm == 0)
    all_goals
      go_enter Try.func10, Try.ntmps10
      go_wp2_with (first
        | (go_at_call 26; (with_reducible refine (K.out _).mono ?_); rintro e w2 ⟨rfl, hg⟩; have z1 := grown_cell hg y1.out; have z5 := grown_cell hg y5.out; have z6 := grown_cell hg y6.out; have HH := Lib.hid (grown_trans HG.out hg); clear hg)
        | (go_at_call 27; (with_reducible refine (c27 _ _).mono ?_); rintro e w4 ⟨rfl, rfl⟩))
      go_ret
      exact ⟨by simp, HH.out⟩
theorem lui0 (rd : Int) (w : World) : Calls Try.prog 50 #[.int .i64 rd, .int .u32 0] w fun e w' => e = .returned (.agg #[.int .i64 1, .int .i64 rd, .int .i64 0, .int .i64 0, .int .i64 0]) ∧ Grown w w' :=
  c50 rd 0 (by omega) (by omega) w
set_option maxRecDepth 100000 in
set_option maxHeartbeats 8000000 in
theorem c29 (op rd r1 r2 imm : Int) (w : World) :
    Calls Try.prog 29 #[.agg #[.int .i64 op, .int .i64 rd, .int .i64 r1, .int .i64 r2, .int .i64 imm]] w fun e w' => e = .returned (.bool (conB op rd r1 r2 imm)) ∧ Grown w w' := by
  have HG := Lib.hid (((Grown.refl w).alloc #[.int .i64 op, .int .i64 rd, .int .i64 r1, .int .i64 r2, .int .i64 imm] 23).alloc #[.int .i64 0, .int .i64 rd, .int .i64 0, .int .i64 0, .int .i64 imm] 23)
  have y4 := Lib.hid (grown_cell ((Grown.refl _).alloc #[.int .i64 0, .int .i64 rd, .int .i64 0, .int .i64 0, .int .i64 imm] 23) (row_cell w #[.int .i64 op, .int .i64 rd, .int .i64 r1, .int .i64 r2, .int .i64 imm] 23 4 (.int .i64 imm) rfl))
  unfold conB
  by_cases h0 : op = 0 ∧ r1 = 0 ∧ r2 = 0
  · obtain ⟨rfl, rfl, rfl⟩ := h0
    cases hF : fitsB rd 0 0 0 85
    · have K := right_k 1 rd 0 0 0 false hF
      clear hF
      go_enter Try.func29, Try.ntmps29
      go_wp2_with (first
        | (go_at_call 50; (with_reducible refine (lui0 _ _).mono ?_); rintro e w2 ⟨rfl, hg⟩; have z4 := grown_cell hg y4.out; have HH := Lib.hid (grown_trans HG.out hg); clear hg)
        | (go_at_call 26; (with_reducible refine (K.out _).mono ?_); rintro e w3 ⟨rfl, hg⟩; have z4 := grown_cell hg z4; replace HH := Lib.hid (grown_trans HH.out hg); clear hg))
      go_ret
      exact ⟨by simp, HH.out⟩
    · have K := right_k 1 rd 0 0 0 true hF
      clear hF
      by_cases h1 : -2147483648 ≤ imm
      all_goals
        go_enter Try.func29, Try.ntmps29
        go_wp2_with (first
          | (go_at_call 50; (with_reducible refine (lui0 _ _).mono ?_); rintro e w2 ⟨rfl, hg⟩; have z4 := grown_cell hg y4.out; have HH := Lib.hid (grown_trans HG.out hg); clear hg)
          | (go_at_call 26; (with_reducible refine (K.out _).mono ?_); rintro e w3 ⟨rfl, hg⟩; have z4 := grown_cell hg z4; replace HH := Lib.hid (grown_trans HH.out hg); clear hg))
        go_ret
        exact ⟨ret_bool (by simp [h1] <;> omega), HH.out⟩
  · go_enter Try.func29, Try.ntmps29
    go_wp2_with (first
      | (go_at_call 50; exfalso; simp_all; done))
    all_goals go_ret
    all_goals exact ⟨ret_bool (by simp_all), ((Grown.refl w).alloc _ _).alloc _ _⟩
set_option maxRecDepth 100000 in
set_option maxHeartbeats 8000000 in
theorem right5 (op rd r1 r2 imm lab : Int) (w : World) :
    Calls Try.prog 10 #[.agg #[.int .i64 5, .int .i64 op, .int .i64 rd, .int .i64 r1, .int .i64 r2, .int .i64 imm, .int .i64 lab]] w fun e w' => e = .returned (.bool (conB op rd r1 r2 imm && lab == 0)) ∧ Grown w w' := by
  have HG := Lib.hid ((Grown.refl w).alloc #[.int .i64 5, .int .i64 op, .int .i64 rd, .int .i64 r1, .int .i64 r2, .int .i64 imm, .int .i64 lab] 25)
  have z6 := row_cell w #[.int .i64 5, .int .i64 op, .int .i64 rd, .int .i64 r1, .int .i64 r2, .int .i64 imm, .int .i64 lab] 25 6 (.int .i64 lab) rfl
  have K := Lib.hid (c29 op rd r1 r2 imm)
  cases hF : conB op rd r1 r2 imm
  all_goals
    rw [hF] at K
    clear hF
    go_enter Try.func10, Try.ntmps10
    go_wp2_with (first
      | (go_at_call 29; (with_reducible refine (K.out _).mono ?_); rintro e w2 ⟨rfl, hg⟩; have z := grown_cell hg z6; have HH := Lib.hid (grown_trans HG.out hg); clear hg))
    go_ret
    exact ⟨by simp, HH.out⟩
set_option maxRecDepth 100000 in
theorem right0 (k op rd r1 r2 imm lab : Int) (h1 : (k == 1) = false) (h2 : (k == 2) = false) (h3 : (k == 3) = false) (h4 : (k == 4) = false) (h5 : (k == 5) = false) (w : World) :
    Calls Try.prog 10 #[.agg #[.int .i64 k, .int .i64 op, .int .i64 rd, .int .i64 r1, .int .i64 r2, .int .i64 imm, .int .i64 lab]] w fun e w' => e = .returned (.bool false) ∧ Grown w w' := by
  have HG := Lib.hid ((Grown.refl w).alloc #[.int .i64 k, .int .i64 op, .int .i64 rd, .int .i64 r1, .int .i64 r2, .int .i64 imm, .int .i64 lab] 25)
  go_enter Try.func10, Try.ntmps10
  go_wp2
  go_ret
  exact ⟨rfl, HG.out⟩
theorem c10 (x : It) (w : World) :
    Calls Try.prog 10 #[.agg #[.int .i64 x.k, .int .i64 x.op, .int .i64 x.rd, .int .i64 x.r1, .int .i64 x.r2, .int .i64 x.imm, .int .i64 x.lab]] w fun e w' => e = .returned (.bool (rightB x)) ∧ Grown w w' := by
  obtain ⟨k, op, rd, r1, r2, imm, lab⟩ := x
  by_cases h1 : k = 1
  · subst h1; exact right1 op rd r1 r2 imm lab w
  by_cases h2 : k = 2
  · subst h2; exact right2 op rd r1 r2 imm lab w
  by_cases h3 : k = 3
  · subst h3; exact right3 op rd r1 r2 imm lab w
  by_cases h4 : k = 4
  · subst h4; exact right4 op rd r1 r2 imm lab w
  by_cases h5 : k = 5
  · subst h5; exact right5 op rd r1 r2 imm lab w
  have e : rightB ⟨k, op, rd, r1, r2, imm, lab⟩ = false := by unfold rightB; simp [h1, h2, h3, h4, h5]
  rw [e]
  exact right0 k op rd r1 r2 imm lab (by simpa using h1) (by simpa using h2) (by simpa using h3) (by simpa using h4) (by simpa using h5) w
end Go.Proofs.Ytfnlhammjallfaa
