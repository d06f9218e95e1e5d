/-
  Frames (layer 25): the registers that are given are the document's: plain facts.
-/
import Derived.Test.YtbldglnfadnkeaaFaC
namespace Go.Proofs.Ytbldglnfadnkeaa
open Go.RowKit
set_option linter.unusedVariables false
set_option linter.unusedSimpArgs false
theorem eq_of_mem : ∀ {a b : List Int}, a.Pairwise (· < ·) → b.Pairwise (· < ·) → (∀ x, x ∈ a ↔ x ∈ b) → a = b
  | [], [], _, _, _ => rfl
  | [], y :: b, _, _, h => absurd ((h y).2 (by simp)) (by simp)
  | x :: a, [], _, _, h => absurd ((h x).1 (by simp)) (by simp)
  | x :: a, y :: b, ha, hb, h => by
    rw [List.pairwise_cons] at ha hb
    have e : x = y := by
      rcases List.mem_cons.1 ((h x).1 (by simp)) with e | e
      · exact e
      · rcases List.mem_cons.1 ((h y).2 (by simp)) with e2 | e2
        · exact e2.symm
        · have := hb.1 x e
          have := ha.1 y e2
          omega
    subst e
    congr 1
    refine eq_of_mem ha.2 hb.2 fun z => ⟨fun hz => ?_, fun hz => ?_⟩
    · rcases List.mem_cons.1 ((h z).1 (by simp [hz])) with e | e
      · have := ha.1 z hz
        omega
      · exact e
    · rcases List.mem_cons.1 ((h z).2 (by simp [hz])) with e | e
      · have := hb.1 z hz
        omega
      · exact e
theorem cpt_mem (zs : List Int) (x : Int) : x ∈ Lib.compact zs ↔ x ∈ zs := by
  unfold Lib.compact Lib.compactUpTo
  constructor
  · intro h
    obtain ⟨j, hj, rfl⟩ := List.mem_map.1 h
    have hj := (List.mem_filter.1 hj).1
    rw [List.mem_range] at hj
    have : zs.toArray[j]! = zs[j] := by simp [getElem!_pos, hj]
    rw [this]
    exact List.getElem_mem hj
  · intro h
    have key : ∀ n j : Nat, j < n → (hj : j < zs.length) → zs[j] = x → x ∈ (((List.range zs.length).filter (Lib.keeps zs.toArray)).map (zs.toArray[·]!)) := by
      intro n
      induction n with
      | zero => intro j h; omega
      | succ n ih =>
        intro j hn hj e
        by_cases hk : Lib.keeps zs.toArray j = true
        · refine List.mem_map.2 ⟨j, List.mem_filter.2 ⟨List.mem_range.2 hj, hk⟩, ?_⟩
          simp [getElem!_pos, hj, e]
        · have hj0 : 0 < j := by
            rcases Nat.eq_zero_or_pos j with h0 | h0
            · exact absurd (Lib.keeps_lt_one _ j (by omega)) hk
            · exact h0
          have hp : zs.toArray[j]! = zs.toArray[j - 1]! := by
            by_cases q : zs.toArray[j]! = zs.toArray[j - 1]!
            · exact q
            · exact absurd (Lib.keeps_pos q) hk
          have h1 : j - 1 < zs.length := by omega
          exact ih (j - 1) (by omega) h1 (by
            simp only [List.getElem!_toArray, getElem!_pos, hj, h1] at hp
            rw [← hp]; exact e)
    obtain ⟨j, hj, e⟩ := List.getElem_of_mem h
    exact key (j + 1) j (by omega) hj e
theorem cpt_lt {zs : List Int} (hs : zs.Pairwise (· ≤ ·)) : (Lib.compact zs).Pairwise (· < ·) := by
  have mono : ∀ i j : Nat, i ≤ j → (hj : j < zs.length) → zs.toArray[i]! ≤ zs.toArray[j]! := by
    intro i j hij hj
    simp only [List.getElem!_toArray, getElem!_pos, hj, show i < zs.length by omega]
    rcases Nat.lt_or_ge i j with h | h
    · exact (List.pairwise_iff_getElem.1 hs) i j (by omega) hj h
    · have : i = j := by omega
      subst this
      exact Int.le_refl _
  unfold Lib.compact Lib.compactUpTo
  rw [List.pairwise_map]
  have hr : ((List.range zs.length).filter (Lib.keeps zs.toArray)).Pairwise (· < ·) := List.Pairwise.filter _ List.pairwise_lt_range
  refine List.Pairwise.imp_of_mem ?_ hr
  intro i j hi hj hij
  have hjm := List.mem_filter.1 hj
  have hjl := List.mem_range.1 hjm.1
  have h1 := mono i (j - 1) (by omega) (by omega)
  have h2 := mono (j - 1) j (by omega) hjl
  have h3 : zs.toArray[j]! ≠ zs.toArray[j - 1]! := fun e => by
    have := Lib.keeps_neg (d := zs.toArray) (m := j) (by omega) e
    rw [this] at hjm
    exact absurd hjm.2 (by decide)
  omega
theorem nm_lt : NM.Pairwise (· < ·) := by unfold NM; decide
theorem nm_pos : ∀ x ∈ NM, 0 < x := by unfold NM; decide
/-- Seats of registers that are given, or of none. -/
def SeatsOk (l : List (Int × Int)) : Prop := ∀ y ∈ l, y.1 = 0 ∨ y.1 ∈ NM
theorem gvn_svd {l : List (Int × Int)} (h : SeatsOk l) : gvn l = svd l 12 := by
  have hs : ((pos l l.length).mergeSort fun x y => decide (x ≤ y)).Pairwise (· ≤ ·) := by
    have := List.pairwise_mergeSort (le := fun x y : Int => decide (x ≤ y)) (fun a b c h1 h2 => by simp at *; omega) (fun a b => by simp; omega) (pos l l.length)
    exact this.imp (fun h => of_decide_eq_true h)
  refine eq_of_mem (cpt_lt hs) (List.Pairwise.filter _ (by rw [List.take_of_length_le (by decide)]; exact nm_lt)) fun x => ?_
  unfold gvn
  rw [cpt_mem, List.mem_mergeSort]
  unfold pos svd hasR
  rw [List.take_length, List.take_of_length_le (show NM.length ≤ 12 by decide), List.mem_filter, List.mem_filter, List.mem_map]
  simp only [decide_eq_true_eq, List.any_eq_true, beq_iff_eq]
  constructor
  · rintro ⟨⟨y, hy, rfl⟩, hp⟩
    refine ⟨?_, y, hy, rfl⟩
    rcases h y hy with e | e
    · omega
    · exact e
  · rintro ⟨hx, y, hy, rfl⟩
    exact ⟨⟨y, hy, rfl⟩, nm_pos _ hx⟩
end Go.Proofs.Ytbldglnfadnkeaa
