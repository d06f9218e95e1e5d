/-
  Items (layer 5): the document's own answer on which items there are.
-/
import Derived.Test.YtnjlcimeaoedcaaQAsmZ
import Derived.Test.YtnjlcimeaoedcaaQRefD
namespace Go.Proofs.Ytnjlcimeaoedcaa
open Go.RowKit
set_option linter.unusedVariables false
set_option linter.unusedSimpArgs false
def brB (op : Int) : Bool := decide (5 ≤ op) && decide (op ≤ 10)
theorem c72 (op : Int) (w : World) :
    Calls Try.prog 72 #[.int .i64 op] w fun e w' => e = .returned (.bool (brB op)) ∧ w = w' := by
  by_cases h : 5 ≤ op
  all_goals
    go_enter Try.func72, Try.ntmps72
    go_wp2
    go_ret
    exact ⟨ret_bool (by unfold brB; simp [h] <;> omega), rfl⟩
theorem br_form (op : Int) : (fm (ix op) == 66) = brB op := by
  rw [fm_ix]
  unfold formF brB
  rw [Bool.eq_iff_iff]
  simp only [beq_iff_eq, Bool.and_eq_true, decide_eq_true_eq]
  constructor
  · intro h
    repeat' split at h
    all_goals first | omega | (exfalso; omega)
  · intro h
    rw [if_neg (by omega), if_neg (by omega), if_neg (by omega), if_pos (by omega)]
theorem c49 (op : Int) (w : World) :
    Calls Try.prog 49 #[.int .i64 op] w fun e w' => e = .returned (.int .i64 (contr op)) ∧ w = w' := by
  have KB := Lib.hid (c72 op)
  cases hb : brB op
  · have hc : contr op = 0 := by
      unfold brB at hb
      simp only [Bool.and_eq_false_iff, decide_eq_false_iff_not] at hb
      unfold contr
      repeat' split
      all_goals first | rfl | omega
    have HC := Lib.hid hc
    rw [hb] at KB
    clear hb hc
    go_enter Try.func49, Try.ntmps49
    go_wp2_with (go_at_call 72; (with_reducible refine (KB.out _).mono ?_); rintro e w3 ⟨rfl, rfl⟩)
    go_ret
    exact ⟨by rw [HC.out]; rfl, rfl⟩
  · have hv : op = 5 ∨ op = 6 ∨ op = 7 ∨ op = 8 ∨ op = 9 ∨ op = 10 := by unfold brB at hb; simp at hb; omega
    rw [hb] at KB
    clear hb
    rcases hv with rfl | rfl | rfl | rfl | rfl | rfl
    all_goals
      go_enter Try.func49, Try.ntmps49
      go_wp2_with (go_at_call 72; (with_reducible refine (KB.out _).mono ?_); rintro e w3 ⟨rfl, rfl⟩)
      go_ret
      exact ⟨rfl, rfl⟩
theorem ref_k (op rd r1 r2 imm : Int) (b : Bool) (h : fitsB rd r1 r2 imm (fm (ix op)) = b) : Hid (∀ w, Calls Try.prog 71 #[.agg #[.int .i64 op, .int .i64 rd, .int .i64 r1, .int .i64 r2, .int .i64 imm]] w fun e w' => e = .returned (.bool b) ∧ Grown w w') :=
  Lib.hid (fun w => by rw [← h]; exact rv15 op rd r1 r2 imm w)
set_option maxRecDepth 100000 in
set_option maxHeartbeats 4000000 in
theorem rr1 (op rd r1 r2 imm lab : Int)  (w : World) :
    Calls Try.prog 46 #[.agg #[.int .i64 1, .int .i64 op, .int .i64 rd, .int .i64 r1, .int .i64 r2, .int .i64 imm, .int .i64 lab]] w fun e w' => e = .returned (.bool (fitsB rd r1 r2 imm (fm (ix op)) && lab == 0)) ∧ Grown w w' := by
  have HG := Lib.hid (((Grown.refl w).alloc #[.int .i64 1, .int .i64 op, .int .i64 rd, .int .i64 r1, .int .i64 r2, .int .i64 imm, .int .i64 lab] 70).alloc #[.int .i64 op, .int .i64 rd, .int .i64 r1, .int .i64 r2, .int .i64 imm] 68)
  have y0 : Hid (((w.alloc (.cells #[.int .i64 1, .int .i64 op, .int .i64 rd, .int .i64 r1, .int .i64 r2, .int .i64 imm, .int .i64 lab] 70)).alloc (.cells #[.int .i64 op, .int .i64 rd, .int .i64 r1, .int .i64 r2, .int .i64 imm] 68)).cell? ⟨w.heap.size + 1, 0, none⟩ = some (.int .i64 op)) := Lib.hid (by simp)
  have y1 : Hid (((w.alloc (.cells #[.int .i64 1, .int .i64 op, .int .i64 rd, .int .i64 r1, .int .i64 r2, .int .i64 imm, .int .i64 lab] 70)).alloc (.cells #[.int .i64 op, .int .i64 rd, .int .i64 r1, .int .i64 r2, .int .i64 imm] 68)).cell? ⟨w.heap.size + 1, 1, none⟩ = some (.int .i64 rd)) := Lib.hid (by simp)
  have y2 : Hid (((w.alloc (.cells #[.int .i64 1, .int .i64 op, .int .i64 rd, .int .i64 r1, .int .i64 r2, .int .i64 imm, .int .i64 lab] 70)).alloc (.cells #[.int .i64 op, .int .i64 rd, .int .i64 r1, .int .i64 r2, .int .i64 imm] 68)).cell? ⟨w.heap.size + 1, 2, none⟩ = some (.int .i64 r1)) := Lib.hid (by simp)
  have y3 : Hid (((w.alloc (.cells #[.int .i64 1, .int .i64 op, .int .i64 rd, .int .i64 r1, .int .i64 r2, .int .i64 imm, .int .i64 lab] 70)).alloc (.cells #[.int .i64 op, .int .i64 rd, .int .i64 r1, .int .i64 r2, .int .i64 imm] 68)).cell? ⟨w.heap.size + 1, 3, none⟩ = some (.int .i64 r2)) := Lib.hid (by simp)
  have y4 : Hid (((w.alloc (.cells #[.int .i64 1, .int .i64 op, .int .i64 rd, .int .i64 r1, .int .i64 r2, .int .i64 imm, .int .i64 lab] 70)).alloc (.cells #[.int .i64 op, .int .i64 rd, .int .i64 r1, .int .i64 r2, .int .i64 imm] 68)).cell? ⟨w.heap.size + 1, 4, none⟩ = some (.int .i64 imm)) := Lib.hid (by simp)
  have y6 : Hid (((w.alloc (.cells #[.int .i64 1, .int .i64 op, .int .i64 rd, .int .i64 r1, .int .i64 r2, .int .i64 imm, .int .i64 lab] 70)).alloc (.cells #[.int .i64 op, .int .i64 rd, .int .i64 r1, .int .i64 r2, .int .i64 imm] 68)).cell? ⟨w.heap.size, 6, none⟩ = some (.int .i64 lab)) := Lib.hid (grown_cell ((Grown.refl _).alloc #[.int .i64 op, .int .i64 rd, .int .i64 r1, .int .i64 r2, .int .i64 imm] 68) (row_cell w #[.int .i64 1, .int .i64 op, .int .i64 rd, .int .i64 r1, .int .i64 r2, .int .i64 imm, .int .i64 lab] 70 6 (.int .i64 lab) rfl))
  cases hF : fitsB rd r1 r2 imm (fm (ix op))
  all_goals
    have K := ref_k op rd r1 r2 imm _ hF
    clear hF
    go_enter Try.func46, Try.ntmps46
    go_wp2_with (first
      | (go_at_call 71; (with_reducible refine (K.out _).mono ?_); rintro e w2 ⟨rfl, hg⟩; have z6 := grown_cell hg y6.out; have z4 := grown_cell hg y4.out; have HH := Lib.hid (grown_trans HG.out hg); clear hg))
    go_ret
    exact ⟨by simp, HH.out⟩
theorem con_is (op rd r1 r2 imm : Int) : conB op rd r1 r2 imm = (op == 0 && r1 == 0 && r2 == 0 && decide (0 ≤ rd) && decide (rd ≤ 31) && decide (-2147483648 ≤ imm) && decide (imm ≤ 4294967295)) := by
  unfold conB
  have e : fitsB rd 0 0 0 85 = (decide (0 ≤ rd) && decide (rd ≤ 31)) := by
    by_cases h : 0 ≤ rd ∧ rd ≤ 31
    · rw [show fitsB rd 0 0 0 85 = true from fit_lui (rd := rd) (imm := 0) h (by omega)]
      simp [h]
    · have : regB rd (uRd 85) = false := by simp [regB, uRd]; omega
      unfold fitsB
      rw [this]
      simp
      omega
  rw [e, ← Bool.and_assoc]
set_option maxRecDepth 100000 in
set_option maxHeartbeats 4000000 in
theorem rr5 (op rd r1 r2 imm lab : Int)  (w : World) :
    Calls Try.prog 46 #[.agg #[.int .i64 5, .int .i64 op, .int .i64 rd, .int .i64 r1, .int .i64 r2, .int .i64 imm, .int .i64 lab]] w fun e w' => e = .returned (.bool (conB op rd r1 r2 imm && lab == 0)) ∧ Grown w w' := by
  have HG := Lib.hid (((Grown.refl w).alloc #[.int .i64 5, .int .i64 op, .int .i64 rd, .int .i64 r1, .int .i64 r2, .int .i64 imm, .int .i64 lab] 70).alloc #[.int .i64 op, .int .i64 rd, .int .i64 r1, .int .i64 r2, .int .i64 imm] 68)
  rw [con_is]
  by_cases h0 : lab = 0
  case neg =>
    have b0 : (lab == 0) = false := by simpa using h0
    go_enter Try.func46, Try.ntmps46
    go_wp2
    all_goals go_ret
    all_goals exact ⟨ret_bool (by first | (simp [h0]; done) | (simp; intros; omega) | (simp_all; done) | (simp_all; omega)), (((Grown.refl w).alloc _ _).alloc _ _)⟩
  subst h0
  by_cases h1 : op = 0
  case neg =>
    have b1 : (op == 0) = false := by simpa using h1
    go_enter Try.func46, Try.ntmps46
    go_wp2
    all_goals go_ret
    all_goals exact ⟨ret_bool (by first | (simp [h1]; done) | (simp; intros; omega) | (simp_all; done) | (simp_all; omega)), (((Grown.refl w).alloc _ _).alloc _ _)⟩
  subst h1
  by_cases h2 : r1 = 0
  case neg =>
    have b2 : (r1 == 0) = false := by simpa using h2
    go_enter Try.func46, Try.ntmps46
    go_wp2
    all_goals go_ret
    all_goals exact ⟨ret_bool (by first | (simp [h2]; done) | (simp; intros; omega) | (simp_all; done) | (simp_all; omega)), (((Grown.refl w).alloc _ _).alloc _ _)⟩
  subst h2
  by_cases h3 : r2 = 0
  case neg =>
    have b3 : (r2 == 0) = false := by simpa using h3
    go_enter Try.func46, Try.ntmps46
    go_wp2
    all_goals go_ret
    all_goals exact ⟨ret_bool (by first | (simp [h3]; done) | (simp; intros; omega) | (simp_all; done) | (simp_all; omega)), (((Grown.refl w).alloc _ _).alloc _ _)⟩
  subst h3
  by_cases h4 : 0 ≤ rd
  case neg =>
    go_enter Try.func46, Try.ntmps46
    go_wp2
    all_goals go_ret
    all_goals exact ⟨ret_bool (by first | (simp [h4]; done) | (simp; intros; omega) | (simp_all; done) | (simp_all; omega)), (((Grown.refl w).alloc _ _).alloc _ _)⟩
  by_cases h5 : rd ≤ 31
  case neg =>
    go_enter Try.func46, Try.ntmps46
    go_wp2
    all_goals go_ret
    all_goals exact ⟨ret_bool (by first | (simp [h5]; done) | (simp; intros; omega) | (simp_all; done) | (simp_all; omega)), (((Grown.refl w).alloc _ _).alloc _ _)⟩
  by_cases h6 : -2147483648 ≤ imm
  case neg =>
    go_enter Try.func46, Try.ntmps46
    go_wp2
    all_goals go_ret
    all_goals exact ⟨ret_bool (by first | (simp [h6]; done) | (simp; intros; omega) | (simp_all; done) | (simp_all; omega)), (((Grown.refl w).alloc _ _).alloc _ _)⟩
  go_enter Try.func46, Try.ntmps46
  go_wp2
  all_goals go_ret
  all_goals exact ⟨ret_bool (by first | (simp [h4, h5, h6]; done) | (simp; omega) | (simp; intros; omega) | (simp_all; done) | (simp_all; omega)), (((Grown.refl w).alloc _ _).alloc _ _)⟩
set_option maxRecDepth 100000 in
set_option maxHeartbeats 4000000 in
theorem rr2 (op rd r1 r2 imm lab : Int)  (w : World) :
    Calls Try.prog 46 #[.agg #[.int .i64 2, .int .i64 op, .int .i64 rd, .int .i64 r1, .int .i64 r2, .int .i64 imm, .int .i64 lab]] w fun e w' => e = .returned (.bool ((op == 0 && rd == 0 && r1 == 0 && r2 == 0 && imm == 0) && labB lab)) ∧ Grown w w' := by
  have HG := Lib.hid (((Grown.refl w).alloc #[.int .i64 2, .int .i64 op, .int .i64 rd, .int .i64 r1, .int .i64 r2, .int .i64 imm, .int .i64 lab] 70).alloc #[.int .i64 op, .int .i64 rd, .int .i64 r1, .int .i64 r2, .int .i64 imm] 68)
  by_cases l0 : lab < 0
  · have hl : labB lab = false := by unfold labB; simp; omega
    rw [hl]
    clear hl
    go_enter Try.func46, Try.ntmps46
    go_wp2
    all_goals go_ret
    all_goals exact ⟨by simp, HG.out⟩
  by_cases l1 : 4095 < lab
  · have hl : labB lab = false := by unfold labB; simp; omega
    rw [hl]
    clear hl
    go_enter Try.func46, Try.ntmps46
    go_wp2
    all_goals go_ret
    all_goals exact ⟨by simp, HG.out⟩
  have hl : labB lab = true := by unfold labB; simp; omega
  rw [hl]
  clear hl
  go_enter Try.func46, Try.ntmps46
  go_wp2
  all_goals go_ret
  all_goals exact ⟨ret_bool (by simp_all), ((((Grown.refl w).alloc _ _).alloc _ _).alloc _ _)⟩
set_option maxRecDepth 100000 in
set_option maxHeartbeats 4000000 in
theorem rr3 (op rd r1 r2 imm lab : Int)  (w : World) :
    Calls Try.prog 46 #[.agg #[.int .i64 3, .int .i64 op, .int .i64 rd, .int .i64 r1, .int .i64 r2, .int .i64 imm, .int .i64 lab]] w fun e w' => e = .returned (.bool (fitsB rd r1 r2 imm (fm (ix op)) && fm (ix op) == 66 && imm == 0 && labB lab)) ∧ Grown w w' := by
  have HG := Lib.hid (((Grown.refl w).alloc #[.int .i64 3, .int .i64 op, .int .i64 rd, .int .i64 r1, .int .i64 r2, .int .i64 imm, .int .i64 lab] 70).alloc #[.int .i64 op, .int .i64 rd, .int .i64 r1, .int .i64 r2, .int .i64 imm] 68)
  have y0 : Hid (((w.alloc (.cells #[.int .i64 3, .int .i64 op, .int .i64 rd, .int .i64 r1, .int .i64 r2, .int .i64 imm, .int .i64 lab] 70)).alloc (.cells #[.int .i64 op, .int .i64 rd, .int .i64 r1, .int .i64 r2, .int .i64 imm] 68)).cell? ⟨w.heap.size + 1, 0, none⟩ = some (.int .i64 op)) := Lib.hid (by simp)
  have y1 : Hid (((w.alloc (.cells #[.int .i64 3, .int .i64 op, .int .i64 rd, .int .i64 r1, .int .i64 r2, .int .i64 imm, .int .i64 lab] 70)).alloc (.cells #[.int .i64 op, .int .i64 rd, .int .i64 r1, .int .i64 r2, .int .i64 imm] 68)).cell? ⟨w.heap.size + 1, 1, none⟩ = some (.int .i64 rd)) := Lib.hid (by simp)
  have y2 : Hid (((w.alloc (.cells #[.int .i64 3, .int .i64 op, .int .i64 rd, .int .i64 r1, .int .i64 r2, .int .i64 imm, .int .i64 lab] 70)).alloc (.cells #[.int .i64 op, .int .i64 rd, .int .i64 r1, .int .i64 r2, .int .i64 imm] 68)).cell? ⟨w.heap.size + 1, 2, none⟩ = some (.int .i64 r1)) := Lib.hid (by simp)
  have y3 : Hid (((w.alloc (.cells #[.int .i64 3, .int .i64 op, .int .i64 rd, .int .i64 r1, .int .i64 r2, .int .i64 imm, .int .i64 lab] 70)).alloc (.cells #[.int .i64 op, .int .i64 rd, .int .i64 r1, .int .i64 r2, .int .i64 imm] 68)).cell? ⟨w.heap.size + 1, 3, none⟩ = some (.int .i64 r2)) := Lib.hid (by simp)
  have y4 : Hid (((w.alloc (.cells #[.int .i64 3, .int .i64 op, .int .i64 rd, .int .i64 r1, .int .i64 r2, .int .i64 imm, .int .i64 lab] 70)).alloc (.cells #[.int .i64 op, .int .i64 rd, .int .i64 r1, .int .i64 r2, .int .i64 imm] 68)).cell? ⟨w.heap.size + 1, 4, none⟩ = some (.int .i64 imm)) := Lib.hid (by simp)
  have y6 : Hid (((w.alloc (.cells #[.int .i64 3, .int .i64 op, .int .i64 rd, .int .i64 r1, .int .i64 r2, .int .i64 imm, .int .i64 lab] 70)).alloc (.cells #[.int .i64 op, .int .i64 rd, .int .i64 r1, .int .i64 r2, .int .i64 imm] 68)).cell? ⟨w.heap.size, 6, none⟩ = some (.int .i64 lab)) := Lib.hid (grown_cell ((Grown.refl _).alloc #[.int .i64 op, .int .i64 rd, .int .i64 r1, .int .i64 r2, .int .i64 imm] 68) (row_cell w #[.int .i64 3, .int .i64 op, .int .i64 rd, .int .i64 r1, .int .i64 r2, .int .i64 imm, .int .i64 lab] 70 6 (.int .i64 lab) rfl))
  by_cases l0 : lab < 0
  · have hl : labB lab = false := by unfold labB; simp; omega
    rw [hl]
    clear hl
    go_enter Try.func46, Try.ntmps46
    go_wp2
    all_goals go_ret
    all_goals exact ⟨by simp, HG.out⟩
  by_cases l1 : 4095 < lab
  · have hl : labB lab = false := by unfold labB; simp; omega
    rw [hl]
    clear hl
    go_enter Try.func46, Try.ntmps46
    go_wp2
    all_goals go_ret
    all_goals exact ⟨by simp, HG.out⟩
  have hl : labB lab = true := by unfold labB; simp; omega
  rw [hl]
  clear hl
  rw [br_form]
  have KB := Lib.hid (c72 op)
  cases hb : brB op
  · rw [hb] at KB
    clear hb
    go_enter Try.func46, Try.ntmps46
    go_wp2_with (first
        | (go_at_call 72; (with_reducible refine (KB.out _).mono ?_); rintro e w3 ⟨rfl, rfl⟩))
    all_goals go_ret
    all_goals exact ⟨by simp, HG.out⟩
  · rw [hb] at KB
    clear hb
    cases hF : fitsB rd r1 r2 imm (fm (ix op))
    · have K := ref_k op rd r1 r2 imm _ hF
      clear hF
      go_enter Try.func46, Try.ntmps46
      go_wp2_with (first
          | (go_at_call 72; (with_reducible refine (KB.out _).mono ?_); rintro e w3 ⟨rfl, rfl⟩)
          | (go_at_call 71; (with_reducible refine (K.out _).mono ?_); rintro e w2 ⟨rfl, hg⟩; have z6 := grown_cell hg y6.out; have z4 := grown_cell hg y4.out; have HH := Lib.hid (grown_trans HG.out hg); clear hg))
      all_goals go_ret
      all_goals exact ⟨by simp, HH.out⟩
    · have K := ref_k op rd r1 r2 imm _ hF
      clear hF
      cases h2 : (imm == 0)
      · skip
        go_enter Try.func46, Try.ntmps46
        go_wp2_with (first
            | (go_at_call 72; (with_reducible refine (KB.out _).mono ?_); rintro e w3 ⟨rfl, rfl⟩)
            | (go_at_call 71; (with_reducible refine (K.out _).mono ?_); rintro e w2 ⟨rfl, hg⟩; have z6 := grown_cell hg y6.out; have z4 := grown_cell hg y4.out; have HH := Lib.hid (grown_trans HG.out hg); clear hg))
        all_goals go_ret
        all_goals exact ⟨by simp, HH.out⟩
      · skip
        go_enter Try.func46, Try.ntmps46
        go_wp2_with (first
            | (go_at_call 72; (with_reducible refine (KB.out _).mono ?_); rintro e w3 ⟨rfl, rfl⟩)
            | (go_at_call 71; (with_reducible refine (K.out _).mono ?_); rintro e w2 ⟨rfl, hg⟩; have z6 := grown_cell hg y6.out; have z4 := grown_cell hg y4.out; have HH := Lib.hid (grown_trans HG.out hg); clear hg))
        all_goals go_ret
        all_goals exact ⟨by simp, HH.out⟩
set_option maxRecDepth 100000 in
set_option maxHeartbeats 4000000 in
theorem rr4 (op rd r1 r2 imm lab : Int)  (w : World) :
    Calls Try.prog 46 #[.agg #[.int .i64 4, .int .i64 op, .int .i64 rd, .int .i64 r1, .int .i64 r2, .int .i64 imm, .int .i64 lab]] w fun e w' => e = .returned (.bool (fitsB rd r1 r2 imm (fm (ix op)) && op == 3 && imm == 0 && labB lab)) ∧ Grown w w' := by
  have HG := Lib.hid (((Grown.refl w).alloc #[.int .i64 4, .int .i64 op, .int .i64 rd, .int .i64 r1, .int .i64 r2, .int .i64 imm, .int .i64 lab] 70).alloc #[.int .i64 op, .int .i64 rd, .int .i64 r1, .int .i64 r2, .int .i64 imm] 68)
  have y0 : Hid (((w.alloc (.cells #[.int .i64 4, .int .i64 op, .int .i64 rd, .int .i64 r1, .int .i64 r2, .int .i64 imm, .int .i64 lab] 70)).alloc (.cells #[.int .i64 op, .int .i64 rd, .int .i64 r1, .int .i64 r2, .int .i64 imm] 68)).cell? ⟨w.heap.size + 1, 0, none⟩ = some (.int .i64 op)) := Lib.hid (by simp)
  have y1 : Hid (((w.alloc (.cells #[.int .i64 4, .int .i64 op, .int .i64 rd, .int .i64 r1, .int .i64 r2, .int .i64 imm, .int .i64 lab] 70)).alloc (.cells #[.int .i64 op, .int .i64 rd, .int .i64 r1, .int .i64 r2, .int .i64 imm] 68)).cell? ⟨w.heap.size + 1, 1, none⟩ = some (.int .i64 rd)) := Lib.hid (by simp)
  have y2 : Hid (((w.alloc (.cells #[.int .i64 4, .int .i64 op, .int .i64 rd, .int .i64 r1, .int .i64 r2, .int .i64 imm, .int .i64 lab] 70)).alloc (.cells #[.int .i64 op, .int .i64 rd, .int .i64 r1, .int .i64 r2, .int .i64 imm] 68)).cell? ⟨w.heap.size + 1, 2, none⟩ = some (.int .i64 r1)) := Lib.hid (by simp)
  have y3 : Hid (((w.alloc (.cells #[.int .i64 4, .int .i64 op, .int .i64 rd, .int .i64 r1, .int .i64 r2, .int .i64 imm, .int .i64 lab] 70)).alloc (.cells #[.int .i64 op, .int .i64 rd, .int .i64 r1, .int .i64 r2, .int .i64 imm] 68)).cell? ⟨w.heap.size + 1, 3, none⟩ = some (.int .i64 r2)) := Lib.hid (by simp)
  have y4 : Hid (((w.alloc (.cells #[.int .i64 4, .int .i64 op, .int .i64 rd, .int .i64 r1, .int .i64 r2, .int .i64 imm, .int .i64 lab] 70)).alloc (.cells #[.int .i64 op, .int .i64 rd, .int .i64 r1, .int .i64 r2, .int .i64 imm] 68)).cell? ⟨w.heap.size + 1, 4, none⟩ = some (.int .i64 imm)) := Lib.hid (by simp)
  have y6 : Hid (((w.alloc (.cells #[.int .i64 4, .int .i64 op, .int .i64 rd, .int .i64 r1, .int .i64 r2, .int .i64 imm, .int .i64 lab] 70)).alloc (.cells #[.int .i64 op, .int .i64 rd, .int .i64 r1, .int .i64 r2, .int .i64 imm] 68)).cell? ⟨w.heap.size, 6, none⟩ = some (.int .i64 lab)) := Lib.hid (grown_cell ((Grown.refl _).alloc #[.int .i64 op, .int .i64 rd, .int .i64 r1, .int .i64 r2, .int .i64 imm] 68) (row_cell w #[.int .i64 4, .int .i64 op, .int .i64 rd, .int .i64 r1, .int .i64 r2, .int .i64 imm, .int .i64 lab] 70 6 (.int .i64 lab) rfl))
  by_cases l0 : lab < 0
  · have hl : labB lab = false := by unfold labB; simp; omega
    rw [hl]
    clear hl
    go_enter Try.func46, Try.ntmps46
    go_wp2
    all_goals go_ret
    all_goals exact ⟨by simp, HG.out⟩
  by_cases l1 : 4095 < lab
  · have hl : labB lab = false := by unfold labB; simp; omega
    rw [hl]
    clear hl
    go_enter Try.func46, Try.ntmps46
    go_wp2
    all_goals go_ret
    all_goals exact ⟨by simp, HG.out⟩
  have hl : labB lab = true := by unfold labB; simp; omega
  rw [hl]
  clear hl
  by_cases h3 : op = 3
  case neg =>
    have b3 : (op == 3) = false := by simpa using h3
    rw [b3]
    go_enter Try.func46, Try.ntmps46
    go_wp2
    all_goals go_ret
    all_goals exact ⟨by simp, (((Grown.refl w).alloc _ _).alloc _ _)⟩
  have b3 : (op == 3) = true := by simpa using h3
  rw [b3]
  cases hF : fitsB rd r1 r2 imm (fm (ix op))
  · have K := ref_k op rd r1 r2 imm _ hF
    clear hF h3
    go_enter Try.func46, Try.ntmps46
    go_wp2_with (first
        | (go_at_call 71; (with_reducible refine (K.out _).mono ?_); rintro e w2 ⟨rfl, hg⟩; have z6 := grown_cell hg y6.out; have z4 := grown_cell hg y4.out; have HH := Lib.hid (grown_trans HG.out hg); clear hg))
    all_goals go_ret
    all_goals exact ⟨by simp, HH.out⟩
  · have K := ref_k op rd r1 r2 imm _ hF
    clear hF h3
    cases h2 : (imm == 0)
    · skip
      go_enter Try.func46, Try.ntmps46
      go_wp2_with (first
          | (go_at_call 71; (with_reducible refine (K.out _).mono ?_); rintro e w2 ⟨rfl, hg⟩; have z6 := grown_cell hg y6.out; have z4 := grown_cell hg y4.out; have HH := Lib.hid (grown_trans HG.out hg); clear hg))
      all_goals go_ret
      all_goals exact ⟨by simp, HH.out⟩
    · skip
      go_enter Try.func46, Try.ntmps46
      go_wp2_with (first
          | (go_at_call 71; (with_reducible refine (K.out _).mono ?_); rintro e w2 ⟨rfl, hg⟩; have z6 := grown_cell hg y6.out; have z4 := grown_cell hg y4.out; have HH := Lib.hid (grown_trans HG.out hg); clear hg))
      all_goals go_ret
      all_goals exact ⟨by simp, HH.out⟩
set_option maxRecDepth 100000 in
set_option maxHeartbeats 4000000 in
theorem rr0 (op rd r1 r2 imm lab : Int) (k : Int) (h1 : (k == 1) = false) (h2 : (k == 2) = false) (h3 : (k == 3) = false) (h4 : (k == 4) = false) (h5 : (k == 5) = false) (w : World) :
    Calls Try.prog 46 #[.agg #[.int .i64 k, .int .i64 op, .int .i64 rd, .int .i64 r1, .int .i64 r2, .int .i64 imm, .int .i64 lab]] w fun e w' => e = .returned (.bool (false)) ∧ Grown w w' := by
  have HG := Lib.hid (((Grown.refl w).alloc #[.int .i64 k, .int .i64 op, .int .i64 rd, .int .i64 r1, .int .i64 r2, .int .i64 imm, .int .i64 lab] 70).alloc #[.int .i64 op, .int .i64 rd, .int .i64 r1, .int .i64 r2, .int .i64 imm] 68)
  by_cases l0 : lab < 0
  · go_enter Try.func46, Try.ntmps46
    go_wp2
    go_ret
    exact ⟨rfl, HG.out⟩
  by_cases l1 : 4095 < lab
  · go_enter Try.func46, Try.ntmps46
    go_wp2
    go_ret
    exact ⟨rfl, HG.out⟩
  go_enter Try.func46, Try.ntmps46
  go_wp2
  go_ret
  exact ⟨rfl, HG.out⟩
theorem c46 (x : It) (w : World) :
    Calls Try.prog 46 #[.agg #[.int .i64 x.k, .int .i64 x.op, .int .i64 x.rd, .int .i64 x.r1, .int .i64 x.r2, .int .i64 x.imm, .int .i64 x.lab]] w fun e w' => e = .returned (.bool (rightB x)) ∧ Grown w w' := by
  obtain ⟨k, op, rd, r1, r2, imm, lab⟩ := x
  by_cases h1 : k = 1
  · subst h1; exact rr1 op rd r1 r2 imm lab w
  by_cases h2 : k = 2
  · subst h2; exact rr2 op rd r1 r2 imm lab w
  by_cases h3 : k = 3
  · subst h3; exact rr3 op rd r1 r2 imm lab w
  by_cases h4 : k = 4
  · subst h4; exact rr4 op rd r1 r2 imm lab w
  by_cases h5 : k = 5
  · subst h5; exact rr5 op rd r1 r2 imm lab w
  have e : rightB ⟨k, op, rd, r1, r2, imm, lab⟩ = false := by unfold rightB; simp [h1, h2, h3, h4, h5]
  rw [e]
  exact rr0 op rd r1 r2 imm lab k (by simpa using h1) (by simpa using h2) (by simpa using h3) (by simpa using h4) (by simpa using h5) w
end Go.Proofs.Ytnjlcimeaoedcaa
