/-
  Items (layer 5): the contract of Right. Items (layer 5): the instructions of a constant; a jump; a far branch. Items (layer 5): a jump; a far branch; an offset. Items (layer 5): rows that are filled from left to right; the least sizes.
-/
import Derived.Test.YtnjlcimeaoedcaaQAsmB
import Derived.RegionTactic
import Derived.Deep.RegionHeld3
import Derived.Deep.QuietTactic
import Derived.BigQuiet
namespace Go.Proofs.Ytnjlcimeaoedcaa
open Go.RowKit
set_option linter.unusedVariables false
set_option linter.unusedSimpArgs false
theorem right_k (op rd r1 r2 imm : Int) (b : Bool) (h : fitsB rd r1 r2 imm (fm (ix op)) = b) : Hid (∀ w, Calls Try.prog 37 #[.agg #[.int .i64 op, .int .i64 rd, .int .i64 r1, .int .i64 r2, .int .i64 imm]] w fun e w' => e = .returned (.bool b) ∧ Grown w w') :=
  Lib.hid (fun w => by rw [← h]; exact c37 op rd r1 r2 imm w)
theorem form_k (op : Int) (f : Int) (h : fm (ix op) = f) : Hid (∀ w, Calls Try.prog 30 #[.int .i64 op] w fun e w' => e = .returned (.int .u8 f) ∧ Grown w w') :=
  Lib.hid (fun w => by rw [← h]; exact c30 op w)
set_option maxRecDepth 100000 in
set_option maxHeartbeats 4000000 in
theorem right1 (op rd r1 r2 imm lab : Int) (w : World) :
    Calls Try.prog 18 #[.agg #[.int .i64 1, .int .i64 op, .int .i64 rd, .int .i64 r1, .int .i64 r2, .int .i64 imm, .int .i64 lab]] w fun e w' => e = .returned (.bool (fitsB rd r1 r2 imm (fm (ix op)) && lab == 0)) ∧ Grown w w' := by
  have HG := Lib.hid ((Grown.refl w).alloc #[.int .i64 1, .int .i64 op, .int .i64 rd, .int .i64 r1, .int .i64 r2, .int .i64 imm, .int .i64 lab] 40)
  have z6 := row_cell w #[.int .i64 1, .int .i64 op, .int .i64 rd, .int .i64 r1, .int .i64 r2, .int .i64 imm, .int .i64 lab] 40 6 (.int .i64 lab) rfl
  cases hF : fitsB rd r1 r2 imm (fm (ix op))
  all_goals
    have K := right_k op rd r1 r2 imm _ hF
    clear hF
    go_enter Try.func18, Try.ntmps18
    go_wp2_with (first
      | (go_at_call 37; (with_reducible refine (K.out _).mono ?_); rintro e w2 ⟨rfl, hg⟩; have z := grown_cell hg z6; have HH := Lib.hid (grown_trans HG.out hg); clear hg))
    go_ret
    exact ⟨by simp, HH.out⟩
set_option maxRecDepth 100000 in
set_option maxHeartbeats 4000000 in
theorem right2 (op rd r1 r2 imm lab : Int) (w : World) :
    Calls Try.prog 18 #[.agg #[.int .i64 2, .int .i64 op, .int .i64 rd, .int .i64 r1, .int .i64 r2, .int .i64 imm, .int .i64 lab]] w fun e w' => e = .returned (.bool ((op == 0 && rd == 0 && r1 == 0 && r2 == 0 && imm == 0) && labB lab)) ∧ Grown w w' := by
  have HG := Lib.hid ((Grown.refl w).alloc #[.int .i64 2, .int .i64 op, .int .i64 rd, .int .i64 r1, .int .i64 r2, .int .i64 imm, .int .i64 lab] 40)
  go_enter Try.func18, Try.ntmps18
  go_wp2_with (go_at_call 38; (with_reducible refine (c38 _ _).mono ?_); rintro e w2 ⟨rfl, rfl⟩)
  all_goals go_ret
  all_goals exact ⟨ret_bool (by simp_all), (Grown.refl w).alloc _ _⟩
set_option maxRecDepth 100000 in
set_option maxHeartbeats 8000000 in
theorem right3 (op rd r1 r2 imm lab : Int) (w : World) :
    Calls Try.prog 18 #[.agg #[.int .i64 3, .int .i64 op, .int .i64 rd, .int .i64 r1, .int .i64 r2, .int .i64 imm, .int .i64 lab]] w fun e w' => e = .returned (.bool (fitsB rd r1 r2 imm (fm (ix op)) && fm (ix op) == 66 && imm == 0 && labB lab)) ∧ Grown w w' := by
  have HG := Lib.hid ((Grown.refl w).alloc #[.int .i64 3, .int .i64 op, .int .i64 rd, .int .i64 r1, .int .i64 r2, .int .i64 imm, .int .i64 lab] 40)
  have y1 := Lib.hid (row_cell w #[.int .i64 3, .int .i64 op, .int .i64 rd, .int .i64 r1, .int .i64 r2, .int .i64 imm, .int .i64 lab] 40 1 (.int .i64 op) rfl)
  have y5 := Lib.hid (row_cell w #[.int .i64 3, .int .i64 op, .int .i64 rd, .int .i64 r1, .int .i64 r2, .int .i64 imm, .int .i64 lab] 40 5 (.int .i64 imm) rfl)
  have y6 := Lib.hid (row_cell w #[.int .i64 3, .int .i64 op, .int .i64 rd, .int .i64 r1, .int .i64 r2, .int .i64 imm, .int .i64 lab] 40 6 (.int .i64 lab) rfl)
  cases hF : fitsB rd r1 r2 imm (fm (ix op))
  · have K := right_k op rd r1 r2 imm _ hF
    clear hF
    go_enter Try.func18, Try.ntmps18
    go_wp2_with (first
      | (go_at_call 37; (with_reducible refine (K.out _).mono ?_); rintro e w2 ⟨rfl, hg⟩; have HH := Lib.hid (grown_trans HG.out hg); clear hg))
    go_ret
    exact ⟨by simp, HH.out⟩
  · have K := right_k op rd r1 r2 imm _ hF
    clear hF
    obtain ⟨f, hf⟩ : ∃ f, fm (ix op) = f := ⟨_, rfl⟩
    have KF := form_k op f hf
    rw [hf]
    clear hf
    cases h1 : (f == 66) <;> cases h2 : (imm == 0)
    all_goals
      go_enter Try.func18, Try.ntmps18
      go_wp2_with (first
        | (go_at_call 37; (with_reducible refine (K.out _).mono ?_); rintro e w2 ⟨rfl, hg⟩; have z1 := grown_cell hg y1.out; have z5 := grown_cell hg y5.out; have z6 := grown_cell hg y6.out; have HH := Lib.hid (grown_trans HG.out hg); clear hg)
        | (go_at_call 30; (with_reducible refine (KF.out _).mono ?_); rintro e w3 ⟨rfl, hg⟩; have z5 := grown_cell hg z5; have z6 := grown_cell hg z6; replace HH := Lib.hid (grown_trans HH.out hg); clear hg)
        | (go_at_call 38; (with_reducible refine (c38 _ _).mono ?_); rintro e w4 ⟨rfl, rfl⟩))
      go_ret
      exact ⟨by simp, HH.out⟩
set_option maxRecDepth 100000 in
set_option maxHeartbeats 8000000 in
theorem right4 (op rd r1 r2 imm lab : Int) (w : World) :
    Calls Try.prog 18 #[.agg #[.int .i64 4, .int .i64 op, .int .i64 rd, .int .i64 r1, .int .i64 r2, .int .i64 imm, .int .i64 lab]] w fun e w' => e = .returned (.bool (fitsB rd r1 r2 imm (fm (ix op)) && op == 3 && imm == 0 && labB lab)) ∧ Grown w w' := by
  have HG := Lib.hid ((Grown.refl w).alloc #[.int .i64 4, .int .i64 op, .int .i64 rd, .int .i64 r1, .int .i64 r2, .int .i64 imm, .int .i64 lab] 40)
  have y1 := Lib.hid (row_cell w #[.int .i64 4, .int .i64 op, .int .i64 rd, .int .i64 r1, .int .i64 r2, .int .i64 imm, .int .i64 lab] 40 1 (.int .i64 op) rfl)
  have y5 := Lib.hid (row_cell w #[.int .i64 4, .int .i64 op, .int .i64 rd, .int .i64 r1, .int .i64 r2, .int .i64 imm, .int .i64 lab] 40 5 (.int .i64 imm) rfl)
  have y6 := Lib.hid (row_cell w #[.int .i64 4, .int .i64 op, .int .i64 rd, .int .i64 r1, .int .i64 r2, .int .i64 imm, .int .i64 lab] 40 6 (.int .i64 lab) rfl)
  cases hF : fitsB rd r1 r2 imm (fm (ix op))
  · have K := right_k op rd r1 r2 imm _ hF
    clear hF
    go_enter Try.func18, Try.ntmps18
    go_wp2_with (first
      | (go_at_call 37; (with_reducible refine (K.out _).mono ?_); rintro e w2 ⟨rfl, hg⟩; have HH := Lib.hid (grown_trans HG.out hg); clear hg))
    go_ret
    exact ⟨by simp, HH.out⟩
  · have K := right_k op rd r1 r2 imm _ hF
    clear hF
    cases h1 : (op == 3) <;> cases h2 : (imm == 0)
    all_goals
      go_enter Try.func18, Try.ntmps18
      go_wp2_with (first
        | (go_at_call 37; (with_reducible refine (K.out _).mono ?_); rintro e w2 ⟨rfl, hg⟩; have z1 := grown_cell hg y1.out; have z5 := grown_cell hg y5.out; have z6 := grown_cell hg y6.out; have HH := Lib.hid (grown_trans HG.out hg); clear hg)
        | (go_at_call 38; (with_reducible refine (c38 _ _).mono ?_); rintro e w4 ⟨rfl, rfl⟩))
      go_ret
      exact ⟨by simp, HH.out⟩
theorem lui0 (rd : Int) (w : World) : Calls Try.prog 65 #[.int .i64 rd, .int .u32 0] w fun e w' => e = .returned (.agg #[.int .i64 1, .int .i64 rd, .int .i64 0, .int .i64 0, .int .i64 0]) ∧ Grown w w' :=
  c65 rd 0 (by omega) (by omega) w
set_option maxRecDepth 100000 in
set_option maxHeartbeats 8000000 in
theorem c39 (op rd r1 r2 imm : Int) (w : World) :
    Calls Try.prog 39 #[.agg #[.int .i64 op, .int .i64 rd, .int .i64 r1, .int .i64 r2, .int .i64 imm]] w fun e w' => e = .returned (.bool (conB op rd r1 r2 imm)) ∧ Grown w w' := by
  have HG := Lib.hid (((Grown.refl w).alloc #[.int .i64 op, .int .i64 rd, .int .i64 r1, .int .i64 r2, .int .i64 imm] 38).alloc #[.int .i64 0, .int .i64 rd, .int .i64 0, .int .i64 0, .int .i64 imm] 38)
  have y4 := Lib.hid (grown_cell ((Grown.refl _).alloc #[.int .i64 0, .int .i64 rd, .int .i64 0, .int .i64 0, .int .i64 imm] 38) (row_cell w #[.int .i64 op, .int .i64 rd, .int .i64 r1, .int .i64 r2, .int .i64 imm] 38 4 (.int .i64 imm) rfl))
  unfold conB
  by_cases h0 : op = 0 ∧ r1 = 0 ∧ r2 = 0
  · obtain ⟨rfl, rfl, rfl⟩ := h0
    cases hF : fitsB rd 0 0 0 85
    · have K := right_k 1 rd 0 0 0 false hF
      clear hF
      go_enter Try.func39, Try.ntmps39
      go_wp2_with (first
        | (go_at_call 65; (with_reducible refine (lui0 _ _).mono ?_); rintro e w2 ⟨rfl, hg⟩; have z4 := grown_cell hg y4.out; have HH := Lib.hid (grown_trans HG.out hg); clear hg)
        | (go_at_call 37; (with_reducible refine (K.out _).mono ?_); rintro e w3 ⟨rfl, hg⟩; have z4 := grown_cell hg z4; replace HH := Lib.hid (grown_trans HH.out hg); clear hg))
      go_ret
      exact ⟨by simp, HH.out⟩
    · have K := right_k 1 rd 0 0 0 true hF
      clear hF
      by_cases h1 : -2147483648 ≤ imm
      all_goals
        go_enter Try.func39, Try.ntmps39
        go_wp2_with (first
          | (go_at_call 65; (with_reducible refine (lui0 _ _).mono ?_); rintro e w2 ⟨rfl, hg⟩; have z4 := grown_cell hg y4.out; have HH := Lib.hid (grown_trans HG.out hg); clear hg)
          | (go_at_call 37; (with_reducible refine (K.out _).mono ?_); rintro e w3 ⟨rfl, hg⟩; have z4 := grown_cell hg z4; replace HH := Lib.hid (grown_trans HH.out hg); clear hg))
        go_ret
        exact ⟨ret_bool (by simp [h1] <;> omega), HH.out⟩
  · go_enter Try.func39, Try.ntmps39
    go_wp2_with (first
      | (go_at_call 65; exfalso; simp_all; done))
    all_goals go_ret
    all_goals exact ⟨ret_bool (by simp_all), ((Grown.refl w).alloc _ _).alloc _ _⟩
set_option maxRecDepth 100000 in
set_option maxHeartbeats 8000000 in
theorem right5 (op rd r1 r2 imm lab : Int) (w : World) :
    Calls Try.prog 18 #[.agg #[.int .i64 5, .int .i64 op, .int .i64 rd, .int .i64 r1, .int .i64 r2, .int .i64 imm, .int .i64 lab]] w fun e w' => e = .returned (.bool (conB op rd r1 r2 imm && lab == 0)) ∧ Grown w w' := by
  have HG := Lib.hid ((Grown.refl w).alloc #[.int .i64 5, .int .i64 op, .int .i64 rd, .int .i64 r1, .int .i64 r2, .int .i64 imm, .int .i64 lab] 40)
  have z6 := row_cell w #[.int .i64 5, .int .i64 op, .int .i64 rd, .int .i64 r1, .int .i64 r2, .int .i64 imm, .int .i64 lab] 40 6 (.int .i64 lab) rfl
  have K := Lib.hid (c39 op rd r1 r2 imm)
  cases hF : conB op rd r1 r2 imm
  all_goals
    rw [hF] at K
    clear hF
    go_enter Try.func18, Try.ntmps18
    go_wp2_with (first
      | (go_at_call 39; (with_reducible refine (K.out _).mono ?_); rintro e w2 ⟨rfl, hg⟩; have z := grown_cell hg z6; have HH := Lib.hid (grown_trans HG.out hg); clear hg))
    go_ret
    exact ⟨by simp, HH.out⟩
set_option maxRecDepth 100000 in
theorem right0 (k op rd r1 r2 imm lab : Int) (h1 : (k == 1) = false) (h2 : (k == 2) = false) (h3 : (k == 3) = false) (h4 : (k == 4) = false) (h5 : (k == 5) = false) (w : World) :
    Calls Try.prog 18 #[.agg #[.int .i64 k, .int .i64 op, .int .i64 rd, .int .i64 r1, .int .i64 r2, .int .i64 imm, .int .i64 lab]] w fun e w' => e = .returned (.bool false) ∧ Grown w w' := by
  have HG := Lib.hid ((Grown.refl w).alloc #[.int .i64 k, .int .i64 op, .int .i64 rd, .int .i64 r1, .int .i64 r2, .int .i64 imm, .int .i64 lab] 40)
  go_enter Try.func18, Try.ntmps18
  go_wp2
  go_ret
  exact ⟨rfl, HG.out⟩
theorem c18 (x : It) (w : World) :
    Calls Try.prog 18 #[.agg #[.int .i64 x.k, .int .i64 x.op, .int .i64 x.rd, .int .i64 x.r1, .int .i64 x.r2, .int .i64 x.imm, .int .i64 x.lab]] w fun e w' => e = .returned (.bool (rightB x)) ∧ Grown w w' := by
  obtain ⟨k, op, rd, r1, r2, imm, lab⟩ := x
  by_cases h1 : k = 1
  · subst h1; exact right1 op rd r1 r2 imm lab w
  by_cases h2 : k = 2
  · subst h2; exact right2 op rd r1 r2 imm lab w
  by_cases h3 : k = 3
  · subst h3; exact right3 op rd r1 r2 imm lab w
  by_cases h4 : k = 4
  · subst h4; exact right4 op rd r1 r2 imm lab w
  by_cases h5 : k = 5
  · subst h5; exact right5 op rd r1 r2 imm lab w
  have e : rightB ⟨k, op, rd, r1, r2, imm, lab⟩ = false := by unfold rightB; simp [h1, h2, h3, h4, h5]
  rw [e]
  exact right0 k op rd r1 r2 imm lab (by simpa using h1) (by simpa using h2) (by simpa using h3) (by simpa using h4) (by simpa using h5) w
/-- What a call leaves that answers these instructions. -/
def InsP (l : List In) (w : World) (e : Ending) (w' : World) : Prop := ∃ a c, e = .returned (.slice a l.length c) ∧ InAt w' a l ∧ Grown w w' ∧ ∀ g o, a = some ⟨g, o, none⟩ → w.heap.size ≤ g
theorem lt5 {j : Nat} (h : j < 5) : j = 0 ∨ j = 1 ∨ j = 2 ∨ j = 3 ∨ j = 4 := by omega
theorem inAt_new1 (w : World) (i : In) (t : TypeId) : InAt (w.alloc (.cells #[.int .i64 i.op, .int .i64 i.rd, .int .i64 i.r1, .int .i64 i.r2, .int .i64 i.imm] t)) (some ⟨w.heap.size, 0, none⟩) [i] := fun k hk => by
  obtain rfl : k = 0 := by simp at hk; omega
  refine ⟨_, _, rfl, fun j hj => ?_⟩
  rw [cell_of_row _ _ _ _ t (0, 0) (heap_alloc_new _ _)]
  rcases lt5 hj with rfl | rfl | rfl | rfl | rfl <;> rfl
theorem inAt_new2 (w : World) (i i' : In) (t : TypeId) : InAt (w.alloc (.cells #[.int .i64 i.op, .int .i64 i.rd, .int .i64 i.r1, .int .i64 i.r2, .int .i64 i.imm, .int .i64 i'.op, .int .i64 i'.rd, .int .i64 i'.r1, .int .i64 i'.r2, .int .i64 i'.imm] t)) (some ⟨w.heap.size, 0, none⟩) [i, i'] := fun k hk => by
  have hk' : k = 0 ∨ k = 1 := by simp at hk; omega
  rcases hk' with rfl | rfl
  all_goals
    refine ⟨_, _, rfl, fun j hj => ?_⟩
    rw [cell_of_row _ _ _ _ t (0, 0) (heap_alloc_new _ _)]
    rcases lt5 hj with rfl | rfl | rfl | rfl | rfl <;> rfl
theorem insP_1 {w w2 : World} {l : List In} {i : In} {t : TypeId} {c : Nat} (h : l = [i]) (hg : Grown w w2) : InsP l w (.returned (.slice (some ⟨w2.heap.size, 0, none⟩) 1 c)) (w2.alloc (.cells #[.int .i64 i.op, .int .i64 i.rd, .int .i64 i.r1, .int .i64 i.r2, .int .i64 i.imm] t)) := by
  subst h; exact ⟨_, _, rfl, inAt_new1 _ _ _, hg.alloc _ _, fun g o e => by cases e; exact hg.2.2⟩
theorem insP_2 {w w2 : World} {l : List In} {i i' : In} {t : TypeId} {c : Nat} (h : l = [i, i']) (hg : Grown w w2) : InsP l w (.returned (.slice (some ⟨w2.heap.size, 0, none⟩) 2 c)) (w2.alloc (.cells #[.int .i64 i.op, .int .i64 i.rd, .int .i64 i.r1, .int .i64 i.r2, .int .i64 i.imm, .int .i64 i'.op, .int .i64 i'.rd, .int .i64 i'.r1, .int .i64 i'.r2, .int .i64 i'.imm] t)) := by
  subst h; exact ⟨_, _, rfl, inAt_new2 _ _ _ _, hg.alloc _ _, fun g o e => by cases e; exact hg.2.2⟩
theorem word_in (n : Int) : 0 ≤ n % 4294967296 ∧ n % 4294967296 ≤ 4294967295 := by omega
theorem loW_in (n : Int) : 0 ≤ loW n ∧ loW n ≤ 4294967295 := sign12_in _
theorem hiW_in (n : Int) : 0 ≤ hiW n ∧ hiW n ≤ 4294967295 := by unfold hiW; omega
theorem parts_k (n : Int) : Hid (∀ w, Calls Try.prog 78 #[.int .u32 (n % 4294967296)] w fun e w' => e = .returned (.tuple #[.int .u32 (hiW n), .int .u32 (loW n)]) ∧ Grown w w') :=
  Lib.hid (fun w => c78 (n % 4294967296) (word_in n).1 (word_in n).2 w)
set_option maxRecDepth 100000 in
set_option maxHeartbeats 8000000 in
theorem c66 (op rd r1 r2 imm : Int) (h0 : -9223372036854775808 ≤ imm) (h1 : imm ≤ 9223372036854775807) (w : World) :
    Calls Try.prog 66 #[.agg #[.int .i64 op, .int .i64 rd, .int .i64 r1, .int .i64 r2, .int .i64 imm]] w (InsP (numI rd imm) w) := by
  have HG := Lib.hid ((Grown.refl w).alloc #[.int .i64 op, .int .i64 rd, .int .i64 r1, .int .i64 r2, .int .i64 imm] 38)
  have y1 := Lib.hid (row_cell w #[.int .i64 op, .int .i64 rd, .int .i64 r1, .int .i64 r2, .int .i64 imm] 38 1 (.int .i64 rd) rfl)
  have KP := parts_k imm
  obtain ⟨l0, l1⟩ := loW_in imm
  obtain ⟨g0, g1⟩ := hiW_in imm
  by_cases hh : hiW imm = 0
  · have E : Hid (numI rd imm = [⟨19, rd, 0, 0, sg (loW imm)⟩]) := Lib.hid (by unfold numI; rw [if_pos hh])
    have hb : (hiW imm == 0) = true := by simpa using hh
    clear hh
    generalize hiW imm = H at *
    generalize loW imm = L at *
    go_enter Try.func66, Try.ntmps66
    go_wp2_with (first
      | (go_at_call 78; (with_reducible refine (KP.out _).mono ?_); rintro e w2 ⟨rfl, hg⟩; have z1 := grown_cell hg y1.out; have HH := Lib.hid (grown_trans HG.out hg); clear hg)
      | (go_at_call 79; (with_reducible refine (c79 _ _ _ (by assumption) (by assumption) _).mono ?_); rintro e w3 ⟨rfl, hg⟩; replace HH := Lib.hid (grown_trans HH.out hg); clear hg))
    go_ret
    exact insP_1 (i := ⟨19, rd, 0, 0, sg L⟩) E.out HH.out
  · have hb : (hiW imm == 0) = false := by simpa using hh
    by_cases hl : loW imm = 0
    · have E : Hid (numI rd imm = [⟨1, rd, 0, 0, sg (hiW imm)⟩]) := Lib.hid (by unfold numI; rw [if_neg hh, if_pos hl])
      have hlb : (loW imm == 0) = true := by simpa using hl
      clear hh hl
      generalize hiW imm = H at *
      generalize loW imm = L at *
      go_enter Try.func66, Try.ntmps66
      go_wp2_with (first
        | (go_at_call 78; (with_reducible refine (KP.out _).mono ?_); rintro e w2 ⟨rfl, hg⟩; have z1 := grown_cell hg y1.out; have HH := Lib.hid (grown_trans HG.out hg); clear hg)
        | (go_at_call 65; (with_reducible refine (c65 _ _ (by assumption) (by assumption) _).mono ?_); rintro e w3 ⟨rfl, hg⟩; replace HH := Lib.hid (grown_trans HH.out hg); clear hg))
      go_ret
      exact insP_1 (i := ⟨1, rd, 0, 0, sg H⟩) E.out HH.out
    · have E : Hid (numI rd imm = [⟨1, rd, 0, 0, sg (hiW imm)⟩, ⟨19, rd, rd, 0, sg (loW imm)⟩]) := Lib.hid (by unfold numI; rw [if_neg hh, if_neg hl])
      have hlb : (loW imm == 0) = false := by simpa using hl
      clear hh hl
      generalize hiW imm = H at *
      generalize loW imm = L at *
      go_enter Try.func66, Try.ntmps66
      go_wp2_with (first
        | (go_at_call 78; (with_reducible refine (KP.out _).mono ?_); rintro e w2 ⟨rfl, hg⟩; have z1 := grown_cell hg y1.out; have HH := Lib.hid (grown_trans HG.out hg); clear hg))
      go_region_with (first
        | (go_at_call 65; (with_reducible refine (c65 _ _ (by assumption) (by assumption) _).mono ?_); rintro e w3 ⟨rfl, hg⟩; have z1 := grown_cell hg z1; replace HH := Lib.hid (grown_trans HH.out hg); clear hg)
        | (go_at_call 79; (with_reducible refine (c79 _ _ _ (by assumption) (by assumption) _).mono ?_); rintro e w3 ⟨rfl, hg⟩; have z1 := grown_cell hg z1; replace HH := Lib.hid (grown_trans HH.out hg); clear hg))
      all_goals go_wp2
      all_goals go_ret
      all_goals exact insP_2 (i := ⟨1, rd, 0, 0, sg H⟩) (i' := ⟨19, rd, rd, 0, sg L⟩) E.out HH.out
set_option maxHeartbeats 1000000 in
theorem jump_yes (rd off : Int) (h : jumpB off = true) (w : World) :
    Calls Try.prog 69 #[.int .i64 rd, .int .i64 off] w fun e w' => e = .returned (.tuple #[.agg #[.int .i64 3, .int .i64 rd, .int .i64 0, .int .i64 0, .int .i64 off], .int .i64 0]) ∧ Grown w w' := by
  unfold jumpB at h
  simp only [Bool.and_eq_true, decide_eq_true_eq] at h
  obtain ⟨h0, h1⟩ := h
  go_enter Try.func69, Try.ntmps69
  go_wp2
  exact bodyPost_ret (v := .tuple #[.agg #[.int .i64 3, .int .i64 rd, .int .i64 0, .int .i64 0, .int .i64 off], .int .i64 0]) (by simp [results, Try.results69, go_sem]) rfl ⟨rfl, (Grown.refl _).alloc _ _⟩
set_option maxHeartbeats 1000000 in
theorem jump_no (rd off : Int) (h : jumpB off = false) (w : World) :
    Calls Try.prog 69 #[.int .i64 rd, .int .i64 off] w fun e w' => e = .returned (.tuple #[.agg #[.int .i64 0, .int .i64 0, .int .i64 0, .int .i64 0, .int .i64 0], .int .i64 7]) ∧ Grown w w' := by
  have hc : off < -1048576 ∨ ¬ off < -1048576 ∧ 1048574 < off := by
    unfold jumpB at h
    simp only [Bool.and_eq_false_iff, decide_eq_false_iff_not] at h
    omega
  clear h
  rcases hc with h | ⟨h, h'⟩
  all_goals
    go_enter Try.func69, Try.ntmps69
    go_wp2
    exact bodyPost_ret (v := .tuple #[.agg #[.int .i64 0, .int .i64 0, .int .i64 0, .int .i64 0, .int .i64 0], .int .i64 7]) (by simp [results, Try.results69, go_sem]) rfl ⟨rfl, (Grown.refl _).alloc _ _⟩
/-- What a call leaves that answers these instructions, or an error. -/
def InsE (r : Option (List In)) (w : World) (e : Ending) (w' : World) : Prop :=
  Fr (fun _ => False) w w' ∧ match r with
    | some l => ∃ a c, e = .returned (.tuple #[.slice a l.length c, .int .i64 0]) ∧ InAt w' a l ∧ ∀ g o, a = some ⟨g, o, none⟩ → w.heap.size ≤ g
    | none => ∃ v, e = .returned (.tuple #[v, .int .i64 7])
theorem insE_none {w w' : World} (v : Value) (h : Fr (fun _ => False) w w') : InsE none w (.returned (.tuple #[v, .int .i64 7])) w' := ⟨h, v, rfl⟩
theorem insE_nil {w w' : World} (h : Fr (fun _ => False) w w') : InsE (some []) w (.returned (.tuple #[.slice none 0 0, .int .i64 0])) w' := ⟨h, none, 0, rfl, fun k hk => absurd hk (by simp), fun g o e => by cases e⟩
theorem insE_1 {w w2 : World} {r : Option (List In)} {i : In} {t : TypeId} {c b : Nat} (hb : b = w2.heap.size) (h : r = some [i]) (hg : Fr (fun _ => False) w w2) : InsE r w (.returned (.tuple #[.slice (some ⟨b, 0, none⟩) 1 c, .int .i64 0])) (w2.alloc (.cells #[.int .i64 i.op, .int .i64 i.rd, .int .i64 i.r1, .int .i64 i.r2, .int .i64 i.imm] t)) := by
  subst hb; subst h; exact ⟨fr_al hg _, _, _, rfl, inAt_new1 _ _ _, fun g o e => by cases e; exact hg.size⟩
theorem insE_2 {w w2 : World} {r : Option (List In)} {i i' : In} {t : TypeId} {c b : Nat} (hb : b = w2.heap.size) (h : r = some [i, i']) (hg : Fr (fun _ => False) w w2) : InsE r w (.returned (.tuple #[.slice (some ⟨b, 0, none⟩) 2 c, .int .i64 0])) (w2.alloc (.cells #[.int .i64 i.op, .int .i64 i.rd, .int .i64 i.r1, .int .i64 i.r2, .int .i64 i.imm, .int .i64 i'.op, .int .i64 i'.rd, .int .i64 i'.r1, .int .i64 i'.r2, .int .i64 i'.imm] t)) := by
  subst hb; subst h; exact ⟨fr_al hg _, _, _, rfl, inAt_new2 _ _ _ _, fun g o e => by cases e; exact hg.size⟩
/-- The instructions of a far branch. -/
def farI (op r1 r2 off : Int) : Option (List In) := if jumpB (off - 4) = true then some [⟨contr op, 0, r1, r2, 8⟩, ⟨3, 0, 0, 0, off - 4⟩] else none
theorem alloc_lt (w : World) (o : Obj) : w.heap.size < (w.alloc o).heap.size := by simp
theorem keepA {W w1 : World} {b : Nat} {v0 v1 v2 : Value} (h : Grown W w1 ∧ w1.cell? ⟨b, 0, none⟩ = some v0 ∧ w1.cell? ⟨b, 2, none⟩ = some v1 ∧ w1.cell? ⟨b, 3, none⟩ = some v2) (c : Array Value) (t : TypeId) :
    Grown W (w1.alloc (.cells c t)) ∧ (w1.alloc (.cells c t)).cell? ⟨b, 0, none⟩ = some v0 ∧ (w1.alloc (.cells c t)).cell? ⟨b, 2, none⟩ = some v1 ∧ (w1.alloc (.cells c t)).cell? ⟨b, 3, none⟩ = some v2 :=
  have g := (Grown.refl w1).alloc c t
  ⟨h.1.alloc _ _, grown_cell g h.2.1, grown_cell g h.2.2.1, grown_cell g h.2.2.2⟩
theorem keepAd {W w1 : World} {b : Nat} {v0 v1 v2 : Value} (h : Grown W w1 ∧ w1.cell? ⟨b, 0, none⟩ = some v0 ∧ w1.cell? ⟨b, 2, none⟩ = some v1 ∧ w1.cell? ⟨b, 3, none⟩ = some v2) :
    Grown W w1.drew ∧ w1.drew.cell? ⟨b, 0, none⟩ = some v0 ∧ w1.drew.cell? ⟨b, 2, none⟩ = some v1 ∧ w1.drew.cell? ⟨b, 3, none⟩ = some v2 := h
theorem grown_of4 {W w1 : World} {p : Prop} (h : Grown W w1 ∧ p) : Grown W w1 := h.1
set_option maxRecDepth 100000 in
set_option maxHeartbeats 8000000 in
theorem far_no (op rd r1 r2 imm off : Int) (h0 : -1000000 ≤ off) (h1 : off ≤ 1000000) (hJ : jumpB (off - 4) = false) (w : World) :
    Calls Try.prog 68 #[.agg #[.int .i64 op, .int .i64 rd, .int .i64 r1, .int .i64 r2, .int .i64 imm], .int .i64 off] w (InsE (farI op r1 r2 off) w) := by
  have HG := Lib.hid ((Grown.refl w).alloc #[.int .i64 op, .int .i64 rd, .int .i64 r1, .int .i64 r2, .int .i64 imm] 38)
  have y0 := row_cell w #[.int .i64 op, .int .i64 rd, .int .i64 r1, .int .i64 r2, .int .i64 imm] 38 0 (.int .i64 op) rfl
  have y2 := row_cell w #[.int .i64 op, .int .i64 rd, .int .i64 r1, .int .i64 r2, .int .i64 imm] 38 2 (.int .i64 r1) rfl
  have y3 := row_cell w #[.int .i64 op, .int .i64 rd, .int .i64 r1, .int .i64 r2, .int .i64 imm] 38 3 (.int .i64 r2) rfl
  have KJ := Lib.hid (jump_no 0 (off - 4) hJ)
  have KC := Lib.hid (c11 op)
  have HF : Hid (farI op r1 r2 off = if jumpB (off - 4) = true then some [⟨contr op, 0, r1, r2, 8⟩, ⟨3, 0, 0, 0, off - 4⟩] else none) := Lib.hid rfl
  rw [hJ] at HF
  clear hJ
  generalize farI op r1 r2 off = FI at *
  generalize contr op = C at *
  go_enter Try.func68, Try.ntmps68
  go_wp2_with fail
  generalize w.alloc (.cells #[.int .i64 op, .int .i64 rd, .int .i64 r1, .int .i64 r2, .int .i64 imm] 38) = W at *
  generalize w.heap.size = b at *
  have G0 := HG.out
  go_region_held3 (fun w' => Grown w w' ∧ w'.cell? ⟨b, 0, none⟩ = some (.int .i64 op) ∧ w'.cell? ⟨b, 2, none⟩ = some (.int .i64 r1) ∧ w'.cell? ⟨b, 3, none⟩ = some (.int .i64 r2))
      (first | exact ⟨G0, y0, y2, y3⟩ | assumption | exact keepAd (keepA ⟨G0, y0, y2, y3⟩ _ _) | exact keepA (by assumption) _ _ | exact keepAd (by assumption))
      (first
        | (go_at_call 11; (with_reducible refine (KC.out _).mono ?_); rintro e w3 ⟨rfl, rfl⟩))
  all_goals have GW := Lib.hid (G0.alloc #[.int .i64 C, .int .i64 0, .int .i64 r1, .int .i64 r2, .int .i64 8] 38)
  all_goals clear HG G0 y0 y2 y3
  all_goals go_wp2_with (go_at_call 69; (with_reducible refine (KJ.out _).mono ?_); rintro e w2 ⟨rfl, hg⟩; have hg' : Grown (W.alloc (.cells #[.int .i64 C, .int .i64 0, .int .i64 r1, .int .i64 r2, .int .i64 8] 38)) w2 := hg; have a0 := grown_cell hg' (row_cell W #[.int .i64 C, .int .i64 0, .int .i64 r1, .int .i64 r2, .int .i64 8] 38 0 _ rfl); have a1 := grown_cell hg' (row_cell W #[.int .i64 C, .int .i64 0, .int .i64 r1, .int .i64 r2, .int .i64 8] 38 1 _ rfl); have a2 := grown_cell hg' (row_cell W #[.int .i64 C, .int .i64 0, .int .i64 r1, .int .i64 r2, .int .i64 8] 38 2 _ rfl); have a3 := grown_cell hg' (row_cell W #[.int .i64 C, .int .i64 0, .int .i64 r1, .int .i64 r2, .int .i64 8] 38 3 _ rfl); have a4 := grown_cell hg' (row_cell W #[.int .i64 C, .int .i64 0, .int .i64 r1, .int .i64 r2, .int .i64 8] 38 4 _ rfl); have q2 : W.heap.size < w2.heap.size := Nat.lt_of_lt_of_le (alloc_lt _ _) hg'.2.2; have q3 := Nat.ne_of_lt q2; have H2 := Lib.hid (grown_trans GW.out hg'); clear hg hg')
  all_goals go_ret2
  all_goals rw [HF.out]
  all_goals exact insE_none _ (Fr.of_grown ((H2.out.alloc _ _).alloc _ _))
set_option maxRecDepth 100000 in
set_option maxHeartbeats 8000000 in
theorem far_yes (op rd r1 r2 imm off : Int) (h0 : -1000000 ≤ off) (h1 : off ≤ 1000000) (hJ : jumpB (off - 4) = true) (w : World) :
    Calls Try.prog 68 #[.agg #[.int .i64 op, .int .i64 rd, .int .i64 r1, .int .i64 r2, .int .i64 imm], .int .i64 off] w (InsE (farI op r1 r2 off) w) := by
  have HG := Lib.hid ((Grown.refl w).alloc #[.int .i64 op, .int .i64 rd, .int .i64 r1, .int .i64 r2, .int .i64 imm] 38)
  have y0 := row_cell w #[.int .i64 op, .int .i64 rd, .int .i64 r1, .int .i64 r2, .int .i64 imm] 38 0 (.int .i64 op) rfl
  have y2 := row_cell w #[.int .i64 op, .int .i64 rd, .int .i64 r1, .int .i64 r2, .int .i64 imm] 38 2 (.int .i64 r1) rfl
  have y3 := row_cell w #[.int .i64 op, .int .i64 rd, .int .i64 r1, .int .i64 r2, .int .i64 imm] 38 3 (.int .i64 r2) rfl
  have KJ := Lib.hid (jump_yes 0 (off - 4) hJ)
  have KC := Lib.hid (c11 op)
  have HF : Hid (farI op r1 r2 off = if jumpB (off - 4) = true then some [⟨contr op, 0, r1, r2, 8⟩, ⟨3, 0, 0, 0, off - 4⟩] else none) := Lib.hid rfl
  rw [hJ] at HF
  clear hJ
  generalize farI op r1 r2 off = FI at *
  generalize contr op = C at *
  go_enter Try.func68, Try.ntmps68
  go_wp2_with fail
  generalize w.alloc (.cells #[.int .i64 op, .int .i64 rd, .int .i64 r1, .int .i64 r2, .int .i64 imm] 38) = W at *
  generalize w.heap.size = b at *
  have G0 := HG.out
  go_region_held3 (fun w' => Grown w w' ∧ w'.cell? ⟨b, 0, none⟩ = some (.int .i64 op) ∧ w'.cell? ⟨b, 2, none⟩ = some (.int .i64 r1) ∧ w'.cell? ⟨b, 3, none⟩ = some (.int .i64 r2))
      (first | exact ⟨G0, y0, y2, y3⟩ | assumption | exact keepAd (keepA ⟨G0, y0, y2, y3⟩ _ _) | exact keepA (by assumption) _ _ | exact keepAd (by assumption))
      (first
        | (go_at_call 11; (with_reducible refine (KC.out _).mono ?_); rintro e w3 ⟨rfl, rfl⟩))
  all_goals have GW := Lib.hid (G0.alloc #[.int .i64 C, .int .i64 0, .int .i64 r1, .int .i64 r2, .int .i64 8] 38)
  all_goals clear HG G0 y0 y2 y3
  all_goals go_wp2_with (go_at_call 69; (with_reducible refine (KJ.out _).mono ?_); rintro e w2 ⟨rfl, hg⟩; have hg' : Grown (W.alloc (.cells #[.int .i64 C, .int .i64 0, .int .i64 r1, .int .i64 r2, .int .i64 8] 38)) w2 := hg; have a0 := grown_cell hg' (row_cell W #[.int .i64 C, .int .i64 0, .int .i64 r1, .int .i64 r2, .int .i64 8] 38 0 _ rfl); have a1 := grown_cell hg' (row_cell W #[.int .i64 C, .int .i64 0, .int .i64 r1, .int .i64 r2, .int .i64 8] 38 1 _ rfl); have a2 := grown_cell hg' (row_cell W #[.int .i64 C, .int .i64 0, .int .i64 r1, .int .i64 r2, .int .i64 8] 38 2 _ rfl); have a3 := grown_cell hg' (row_cell W #[.int .i64 C, .int .i64 0, .int .i64 r1, .int .i64 r2, .int .i64 8] 38 3 _ rfl); have a4 := grown_cell hg' (row_cell W #[.int .i64 C, .int .i64 0, .int .i64 r1, .int .i64 r2, .int .i64 8] 38 4 _ rfl); have q2 : W.heap.size < w2.heap.size := Nat.lt_of_lt_of_le (alloc_lt _ _) hg'.2.2; have q3 := Nat.ne_of_lt q2; have H2 := Lib.hid (grown_trans GW.out hg'); clear hg hg')
  all_goals go_ret2
  all_goals exact insE_2 (r := FI) (i := ⟨C, 0, r1, r2, 8⟩) (i' := ⟨3, 0, 0, 0, off - 4⟩) (by simp) (by rw [HF.out]; rfl) (Fr.of_grown (H2.out.alloc _ _))
theorem c68 (op rd r1 r2 imm off : Int) (h0 : -1000000 ≤ off) (h1 : off ≤ 1000000) (w : World) :
    Calls Try.prog 68 #[.agg #[.int .i64 op, .int .i64 rd, .int .i64 r1, .int .i64 r2, .int .i64 imm], .int .i64 off] w (InsE (farI op r1 r2 off) w) := by
  cases h : jumpB (off - 4)
  · exact far_no op rd r1 r2 imm off h0 h1 h w
  · exact far_yes op rd r1 r2 imm off h0 h1 h w
theorem pick4 {s0 s1 s2 s3 : Value} (w : World) (t : TypeId) (j : Nat) (v : Value) (h : (#[s0, s1, s2, s3] : Array Value)[j]? = some v) : (w.alloc (.cells #[s0, s1, s2, s3] t)).cell? ⟨w.heap.size, j, none⟩ = some v := fcell w _ t j v h
set_option maxRecDepth 100000 in
set_option maxHeartbeats 4000000 in
/-- An offset: the row of places, at the goal's number less at its own. -/
theorem c67 (si ss : Value) (gg ga n k t : Nat) (X Y : Int) (hk : k < n) (ht : t < n) (hn : n ≤ 100000) (x0 : 0 ≤ X) (x1 : X ≤ 1000000) (y0 : 0 ≤ Y) (y1 : Y ≤ 1000000) (w : World)
    (c1 : w.cell? ⟨gg, k, none⟩ = some (.int .i64 t)) (c2 : w.cell? ⟨ga, t, none⟩ = some (.int .i64 X)) (c3 : w.cell? ⟨ga, k, none⟩ = some (.int .i64 Y)) :
    Calls Try.prog 67 #[.agg #[si, .slice (some ⟨gg, 0, none⟩) n n, ss, .slice (some ⟨ga, 0, none⟩) n n], .int .i64 k] w fun e w' => e = .returned (.int .i64 (X - Y)) ∧ Fr (fun _ => False) w w' := by
  have F0 := Lib.hid (fr_al (Fr.refl (fun _ => False) w) (.cells #[si, .slice (some ⟨gg, 0, none⟩) n n, ss, .slice (some ⟨ga, 0, none⟩) n n] 58))
  have d1 := F0.out.cell c1 id
  have d2 := F0.out.cell c2 id
  have d3 := F0.out.cell c3 id
  have e1 := fcell w #[si, .slice (some ⟨gg, 0, none⟩) n n, ss, .slice (some ⟨ga, 0, none⟩) n n] 58 1 _ rfl
  have e3 := fcell w #[si, .slice (some ⟨gg, 0, none⟩) n n, ss, .slice (some ⟨ga, 0, none⟩) n n] 58 3 _ rfl
  clear c1 c2 c3
  have i1 : (0 : Int) ≤ (k : Int) := by omega
  have i2 : (k : Int) < (n : Int) := by omega
  have i3 : (0 : Int) ≤ (t : Int) := by omega
  have i4 : (t : Int) < (n : Int) := by omega
  go_enter Try.func67, Try.ntmps67
  go_wp2_with fail
  generalize w.alloc (.cells #[si, .slice (some ⟨gg, 0, none⟩) n n, ss, .slice (some ⟨ga, 0, none⟩) n n] 58) = W at *
  generalize w.heap.size = b at *
  go_quiet (fail)
  go_wp2
  go_ret
  exact ⟨rfl, F0.out.drewN _⟩
/-- A row of which the first k numbers are f's, the others as they were. -/
def mixK (f : Nat → Int) (old : List Int) (k : Nat) : List Int := (List.range old.length).map (fun j => if j < k then f j else old.getD j 0)
theorem mixK_len (f : Nat → Int) (old : List Int) (k : Nat) : (mixK f old k).length = old.length := by simp [mixK]
theorem mixK_get {f : Nat → Int} {old : List Int} {k j : Nat} (h : j < old.length) : (mixK f old k).getD j 0 = if j < k then f j else old.getD j 0 := by
  unfold mixK; rw [List.getD_eq_getElem?_getD, List.getElem?_map, List.getElem?_range h]; rfl
theorem ext_getD {a b : List Int} (hl : a.length = b.length) (h : ∀ j, j < a.length → a.getD j 0 = b.getD j 0) : a = b := by
  apply List.ext_getElem hl
  intro j h1 h2
  have := h j h1
  simpa [List.getD_eq_getElem?_getD, List.getElem?_eq_getElem h1, List.getElem?_eq_getElem h2] using this
theorem mixK_zero (f : Nat → Int) (old : List Int) : mixK f old 0 = old :=
  ext_getD (mixK_len _ _ _) fun j hj => by rw [mixK_len] at hj; rw [mixK_get hj]; simp
theorem getD_set {a : List Int} {k j : Nat} {v : Int} (hj : j < a.length) : (a.set k v).getD j 0 = if k = j then v else a.getD j 0 := by
  simp only [List.getD_eq_getElem?_getD, List.getElem?_set, List.getElem?_eq_getElem hj]
  by_cases e : k = j
  · subst e; simp [hj]
  · simp [e]
theorem mixK_set {f : Nat → Int} {old : List Int} {k : Nat} (hk : k < old.length) {v : Int} (hv : v = f k) : (mixK f old k).set k v = mixK f old (k + 1) := by
  refine ext_getD (by simp [mixK_len]) fun j hj => ?_
  simp [mixK_len] at hj
  rw [getD_set (by rw [mixK_len]; exact hj), mixK_get hj, mixK_get hj]
  by_cases e : k = j
  · subst e; simp [hv]
  · rw [if_neg e]
    by_cases h : j < k
    · rw [if_pos h, if_pos (by omega)]
    · rw [if_neg h, if_neg (by omega)]
theorem mixK_skip {f : Nat → Int} {old : List Int} {k : Nat} (hv : f k = old.getD k 0) : mixK f old k = mixK f old (k + 1) := by
  refine ext_getD (by simp [mixK_len]) fun j hj => ?_
  rw [mixK_len] at hj
  rw [mixK_get hj, mixK_get hj]
  by_cases e : j = k
  · subst e; simp [hv]
  · by_cases h : j < k
    · rw [if_pos h, if_pos (by omega)]
    · rw [if_neg h, if_neg (by omega)]
theorem mixK_end (f : Nat → Int) (old : List Int) : mixK f old old.length = (List.range old.length).map f :=
  ext_getD (by simp [mixK_len]) fun j hj => by
    rw [mixK_len] at hj
    rw [mixK_get hj, if_pos hj, List.getD_eq_getElem?_getD, List.getElem?_map, List.getElem?_range hj]; rfl
def zeros (n : Nat) : List Int := List.replicate n 0
theorem zeros_len (n : Nat) : (zeros n).length = n := by simp [zeros]
theorem zeros_get (n j : Nat) : (zeros n).getD j 0 = 0 := by
  unfold zeros; rw [List.getD_eq_getElem?_getD, List.getElem?_replicate]; split <;> rfl
theorem szF_none (l : List It) : (List.range (zeros l.length).length).map (fun k => sz0 (l.getD k it0)) = szF l (fun _ => false) := by
  rw [zeros_len]; unfold szF; simp
/-- What a call leaves that answers a new row of numbers. -/
def RowP (xs : List Int) (w : World) (e : Ending) (w' : World) : Prop := ∃ g, e = .returned (.slice (some ⟨g, 0, none⟩) xs.length xs.length) ∧ IRow w.heap.size w' g xs ∧ Fr (fun _ => False) w w'
theorem rowP_of {xs ys : List Int} {w w' : World} {g n : Nat} (h : IRow w.heap.size w' g xs) (hf : Fr (fun _ => False) w w') (e : xs = ys) (hn : n = ys.length) : RowP ys w (.returned (.slice (some ⟨g, 0, none⟩) n n)) w' := by
  subst e; subst hn; exact ⟨g, rfl, h, hf⟩
def szk (l : List It) (k : Nat) : Int := sz0 (l.getD k it0)
/-- The row that is filled, between rounds. -/
structure Fil (w wr : World) (g : Nat) (f : Nat → Int) (old : List Int) (k : Nat) : Prop where
  row : IRow w.heap.size wr g (mixK f old k)
  fr : Fr (fun _ => False) w wr
theorem Fil.keep {w wr w2 : World} {g : Nat} {f : Nat → Int} {old : List Int} {k : Nat} (h : Fil w wr g f old k) (hf : Fr (fun _ => False) wr w2) : Fil w w2 g f old k := ⟨h.row.fr hf id, h.fr.trans hf⟩
theorem Fil.skip {w wr w2 : World} {g : Nat} {f : Nat → Int} {old : List Int} {k : Nat} (h : Fil w wr g f old k) (hf : Fr (fun _ => False) wr w2) (hv : f k = old.getD k 0) : Fil w w2 g f old (k + 1) :=
  ⟨by rw [← mixK_skip hv]; exact h.row.fr hf id, h.fr.trans hf⟩
theorem Fil.set {w wr w2 : World} {g : Nat} {f : Nat → Int} {old : List Int} {k : Nat} {v : Int} (h : Fil w wr g f old k) (hf : Fr (fun _ => False) wr w2) (hk : k < old.length) (hv : v = f k) : Fil w (w2.setCell ⟨g, k, none⟩ (.int .i64 v)) g f old (k + 1) :=
  ⟨by rw [← mixK_set hk hv]; exact (h.row.fr hf id).set k v, fr_set (h.fr.trans hf) h.row.ge k _⟩
theorem Fil.init {w w1 : World} {g : Nat} {f : Nat → Int} {n : Nat} (h : w1.ownsRow w.heap.size 3 1 (.slice (some ⟨g, 0, none⟩) n n) n (madeCells (Value.int .i64 0).cells (n * 1)).toList) (hf : Fr (fun _ => False) w w1) : Fil w w1 g f (zeros n) 0 := by
  rw [made_zero] at h
  exact ⟨by rw [mixK_zero]; exact IRow.of_own h, hf⟩
theorem Fil.cell {w wr w2 : World} {g : Nat} {f : Nat → Int} {old : List Int} {k : Nat} (h : Fil w wr g f old k) (hf : Fr (fun _ => False) wr w2) (hk : k < old.length) : (∃ x, w2.cell? ⟨g, k, none⟩ = some x) ∧ w2.frozen? ⟨g, k, none⟩ = false ∧ g < w2.heap.size :=
  ⟨⟨_, (h.row.fr hf id).cell (by rw [mixK_len]; exact hk)⟩, (h.row.fr hf id).free k, (h.row.fr hf id).lt⟩
def itC (x : It) : Array Value := #[.int .i64 x.k, .int .i64 x.op, .int .i64 x.rd, .int .i64 x.r1, .int .i64 x.r2, .int .i64 x.imm, .int .i64 x.lab]
end Go.Proofs.Ytnjlcimeaoedcaa
