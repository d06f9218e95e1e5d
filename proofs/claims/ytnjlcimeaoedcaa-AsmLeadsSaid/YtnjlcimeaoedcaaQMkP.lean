/-
  Items (layer 5): what the document's reckoning and the program's have in common, plainly.
-/
import Derived.Test.YtnjlcimeaoedcaaQMkC
import Derived.Test.YtnjlcimeaoedcaaQAsmZ
namespace Go.Proofs.Ytnjlcimeaoedcaa
open Go.RowKit
set_option linter.unusedVariables false
set_option linter.unusedSimpArgs false
theorem hasL_snoc (acc : List (Int × Nat)) (q : Int × Nat) (b : Int) : hasL (acc ++ [q]) b = (hasL acc b || q.1 == b) := by simp [hasL]
theorem sta_val (l : List It) (b : Int) : ∀ k, (0 ≤ staN l b k ↔ hasL (labsK l k) b = true) ∧ (hasL (labsK l k) b = true → staN l b k = ((valL (labsK l k) b : Nat) : Int))
  | 0 => by simp [staN, labsK, hasL]
  | k + 1 => by
    obtain ⟨i1, i2⟩ := sta_val l b k
    have e : staN l b (k + 1) = if 0 ≤ staN l b k then staN l b k else if (l.getD k it0).k = 2 ∧ (l.getD k it0).lab = b then (k : Int) else -1 := rfl
    have f : labsK l (k + 1) = if (l.getD k it0).k = 2 then labsK l k ++ [((l.getD k it0).lab, k)] else labsK l k := rfl
    generalize l.getD k it0 = x at e f
    by_cases h2 : x.k = 2
    · rw [f, if_pos h2, e]
      by_cases h0 : 0 ≤ staN l b k
      · have hh := i1.1 h0
        rw [if_pos h0, hasL_snoc, hh]
        refine ⟨⟨fun _ => by simp, fun _ => h0⟩, fun _ => ?_⟩
        rw [i2 hh, valL_snoc_other hh]
      · have hh : hasL (labsK l k) b = false := by cases q : hasL (labsK l k) b; rfl; exact absurd (i1.2 q) h0
        rw [if_neg h0, hasL_snoc, hh]
        by_cases hl : x.lab = b
        · rw [if_pos ⟨h2, hl⟩]
          refine ⟨⟨fun _ => by simp [hl], fun _ => by omega⟩, fun _ => ?_⟩
          rw [← hl] at hh ⊢
          rw [valL_snoc_same hh]
        · rw [if_neg (fun z => hl z.2)]
          refine ⟨⟨fun z => by omega, fun z => by simp [hl] at z⟩, fun z => by simp [hl] at z⟩
    · rw [f, if_neg h2, e]
      by_cases h0 : 0 ≤ staN l b k
      · rw [if_pos h0]; exact ⟨i1, i2⟩
      · rw [if_neg h0, if_neg (fun z => h2 z.1)]
        have hh : hasL (labsK l k) b = false := by cases q : hasL (labsK l k) b; rfl; exact absurd (i1.2 q) h0
        rw [hh]
        exact ⟨⟨fun z => by omega, fun z => by cases z⟩, fun z => by cases z⟩
theorem staL_has (l : List It) (b : Int) : staL l b < 0 ↔ hasL (accL l) b = false := by
  have := (sta_val l b l.length).1
  unfold staL
  cases q : hasL (accL l) b
  · rw [show labsK l l.length = accL l from rfl, q] at this
    refine ⟨fun _ => rfl, fun _ => ?_⟩
    have h : ¬(0 ≤ staN l b l.length) := fun z => by cases this.1 z
    omega
  · rw [show labsK l l.length = accL l from rfl, q] at this
    have := this.2 rfl
    exact ⟨fun z => by omega, fun z => by cases z⟩
theorem staL_val (l : List It) (b : Int) (h : hasL (accL l) b = true) : staL l b = ((valL (accL l) b : Nat) : Int) := (sta_val l b l.length).2 h
theorem has_labs (l : List It) (b : Int) : ∀ k, hasL (labsK l k) b = true ↔ ∃ j, j < k ∧ (l.getD j it0).k = 2 ∧ (l.getD j it0).lab = b
  | 0 => by simp [labsK, hasL]
  | k + 1 => by
    have ih := has_labs l b k
    have f : labsK l (k + 1) = if (l.getD k it0).k = 2 then labsK l k ++ [((l.getD k it0).lab, k)] else labsK l k := rfl
    rw [f]
    constructor
    · intro h
      split at h
      · rename_i h2
        rw [hasL_snoc, Bool.or_eq_true] at h
        rcases h with h | h
        · obtain ⟨j, hj, q⟩ := ih.1 h; exact ⟨j, by omega, q⟩
        · exact ⟨k, by omega, h2, by simpa using h⟩
      · obtain ⟨j, hj, q⟩ := ih.1 h; exact ⟨j, by omega, q⟩
    · rintro ⟨j, hj, q1, q2⟩
      by_cases hjk : j = k
      · subst hjk
        rw [if_pos q1, hasL_snoc, Bool.or_eq_true]; exact .inr (beq_iff_eq.2 q2)
      · have h := ih.2 ⟨j, by omega, q1, q2⟩
        split
        · rw [hasL_snoc, h]; rfl
        · exact h
theorem twice_is (l : List It) : ∀ n, twiceK l n = true ↔ ∃ i, i < n ∧ ∃ k, k < i ∧ TwP l i k
  | 0 => by simp [twiceK]
  | n + 1 => by
    have ih := twice_is l n
    have f : twiceK l (n + 1) = (twiceK l n || ((l.getD n it0).k == 2 && hasL (labsK l n) (l.getD n it0).lab)) := rfl
    rw [f, Bool.or_eq_true, Bool.and_eq_true]
    constructor
    · rintro (h | ⟨h1, h2⟩)
      · obtain ⟨i, hi, q⟩ := ih.1 h; exact ⟨i, by omega, q⟩
      · obtain ⟨j, hj, q1, q2⟩ := (has_labs l _ n).1 h2
        exact ⟨n, by omega, j, hj, by simpa using h1, q1, q2.symm⟩
    · rintro ⟨i, hi, k, hk, q1, q2, q3⟩
      by_cases hin : i = n
      · subst hin
        exact .inr ⟨by simpa using q1, (has_labs l _ i).2 ⟨k, hk, q2, q3.symm⟩⟩
      · exact .inl (ih.2 ⟨i, by omega, k, hk, q1, q2, q3⟩)
theorem lack_is (l : List It) : ∀ n, lackK l (accL l) n = true ↔ ∃ i, i < n ∧ LkP l i
  | 0 => by simp [lackK]
  | n + 1 => by
    have ih := lack_is l n
    have f : lackK l (accL l) (n + 1) = (lackK l (accL l) n || (isTo (l.getD n it0) && !hasL (accL l) (l.getD n it0).lab)) := rfl
    have hs := staL_has l (l.getD n it0).lab
    rw [f, Bool.or_eq_true, Bool.and_eq_true]
    constructor
    · rintro (h | ⟨h1, h2⟩)
      · obtain ⟨i, hi, q⟩ := ih.1 h; exact ⟨i, by omega, q⟩
      · exact ⟨n, by omega, h1, hs.2 (by simpa using h2)⟩
    · rintro ⟨i, hi, q1, q2⟩
      by_cases hin : i = n
      · subst hin
        exact .inr ⟨q1, by simpa using hs.1 q2⟩
      · exact .inl (ih.2 ⟨i, by omega, q1, q2⟩)
/-- The four ways. -/
theorem may_cases (l : List It) : (∃ k, k < l.length ∧ rightB (l.getD k it0) = false ∧ mayI l = 1) ∨ ((∀ k, k < l.length → rightB (l.getD k it0) = true) ∧ ((twiceK l l.length = true ∧ mayI l = 6) ∨ (twiceK l l.length = false ∧ ((lackK l (accL l) l.length = true ∧ mayI l = 4) ∨ (lackK l (accL l) l.length = false ∧ mayI l = 0))))) := by
  by_cases h1 : ∃ k, k < l.length ∧ rightB (l.getD k it0) = false
  · obtain ⟨k, hk, q⟩ := h1
    exact .inl ⟨k, hk, q, mayI_1 hk q⟩
  have H1 : ∀ k, k < l.length → rightB (l.getD k it0) = true := fun k hk => by
    cases q : rightB (l.getD k it0)
    · exact absurd ⟨k, hk, q⟩ h1
    · rfl
  refine .inr ⟨H1, ?_⟩
  cases h2 : twiceK l l.length
  · have H2 : ∀ i, i < l.length → ∀ k, k < i → ¬TwP l i k := fun i hi k hk q => by
      have := (twice_is l l.length).2 ⟨i, hi, k, hk, q⟩
      rw [h2] at this; cases this
    refine .inr ⟨rfl, ?_⟩
    cases h3 : lackK l (accL l) l.length
    · refine .inr ⟨rfl, mayI_0 H1 H2 fun i hi q => ?_⟩
      have := (lack_is l l.length).2 ⟨i, hi, q⟩
      rw [h3] at this; cases this
    · obtain ⟨i, hi, q⟩ := (lack_is l l.length).1 h3
      exact .inl ⟨rfl, mayI_4 H1 H2 hi q⟩
  · obtain ⟨i, hi, k, hk, q⟩ := (twice_is l l.length).1 h2
    exact .inl ⟨rfl, mayI_6 H1 hi hk q⟩
theorem right_kind {x : It} (h : rightB x = true) : x.k = 1 ∨ x.k = 2 ∨ x.k = 3 ∨ x.k = 4 ∨ x.k = 5 := by
  unfold rightB at h
  by_cases h1 : x.k = 1; · omega
  by_cases h2 : x.k = 2; · omega
  by_cases h3 : x.k = 3; · omega
  by_cases h4 : x.k = 4; · omega
  by_cases h5 : x.k = 5; · omega
  simp [h1, h2, h3, h4, h5] at h
theorem right_5 {x : It} (h : rightB x = true) (h5 : x.k = 5) : (0 ≤ x.rd ∧ x.rd ≤ 31) ∧ -2147483648 ≤ x.imm ∧ x.imm ≤ 4294967295 ∧ x.op = 0 ∧ x.r1 = 0 ∧ x.r2 = 0 := by
  unfold rightB at h
  rw [if_neg (by omega), if_neg (by omega), if_neg (by omega), if_neg (by omega), if_pos h5, con_is] at h
  simp at h
  omega
theorem sz_is {l : List It} {F : Nat → Bool} {k : Nat} (hk : k < l.length) (hr : rightB (l.getD k it0) = true) (hF : F k = true → isBr l k = true) : szI (l.getD k it0) (F k) = 4 * (szF l F).getD k 0 := by
  rw [szF_get hk]
  have hkd := right_kind hr
  unfold isBr at hF
  generalize l.getD k it0 = x at *
  unfold szI sz0
  cases q : F k
  · rcases hkd with e | e | e | e | e <;> simp [e]
  · have hb := hF q
    have e : x.k = 3 := by simpa using hb
    simp [e]
theorem far_br (l : List It) (goals : List Int) : ∀ j k, farN l goals j k = true → isBr l k = true
  | 0, k, h => by cases h
  | j + 1, k, h => by
    have h' : (farN l goals j k || (isBr l k && !reachB goals (szF l (farN l goals j)) k)) = true := h
    simp only [Bool.or_eq_true, Bool.and_eq_true] at h'
    rcases h' with h' | h'
    · exact far_br l goals j k h'
    · exact h'.1
theorem still_ex (l : List It) (goals : List Int) : ∃ i, i ≤ l.length ∧ Still l goals (farN l goals i) := by
  refine Classical.byContradiction fun hn => ?_
  have h : ∀ j, j < l.length + 1 → (nearF l (farN l goals (j + 1))).length < (nearF l (farN l goals j)).length := fun j hj => by
    refine Classical.byContradiction fun q => hn ⟨j, by omega, still_of ?_⟩
    rwa [show farN l goals (j + 1) = nextF l goals (farN l goals j) from rfl, nearF_next] at q
  have := near_down (l := l) (goals := goals) (l.length + 1) h
  omega
theorem far_end (l : List It) (goals : List Int) {k : Nat} (hk : k < l.length) : farN l goals (l.length + 1) k = farE l goals k := by
  obtain ⟨i, hi, hs⟩ := still_ex l goals
  have h1 := far_still hs (l.length + 1) (by omega) k hk
  have h2 := far_still hs l.length hi k hk
  unfold farE
  rw [h1, h2]
theorem far_reach (l : List It) (goals : List Int) : Still l goals (farE l goals) := by
  obtain ⟨i, hi, hs⟩ := still_ex l goals
  exact (farE_of hi hs).2
theorem way_is (l : List It) (s : List Int) (hs : s.length = l.length) {i : Nat} (hi : i < l.length) (ht : isTo (l.getD i it0) = true) (hh : hasL (accL l) (l.getD i it0).lab = true) : 4 * sumK s (staL l (l.getD i it0).lab).toNat - 4 * sumK s i = offK (golL l) s i := by
  have hg : (golL l).getD i 0 = ((valL (accL l) (l.getD i it0).lab : Nat) : Int) := by
    show (goalsA l (accL l)).getD i 0 = _
    rw [goalsA_get hi]; unfold goalF; rw [if_pos ht]
  have hv := val_ok l _ hh
  rw [reach_is hg, staL_val l _ hh, Int.toNat_natCast, atK_get (by omega), atK_get (by omega)]
theorem not_lack {l : List It} (h : lackK l (accL l) l.length = false) {i : Nat} (hi : i < l.length) (ht : isTo (l.getD i it0) = true) : hasL (accL l) (l.getD i it0).lab = true := by
  cases q : hasL (accL l) (l.getD i it0).lab
  · have := (lack_is l l.length).2 ⟨i, hi, ht, (staL_has l _).2 q⟩
    rw [h] at this; cases this
  · rfl
end Go.Proofs.Ytnjlcimeaoedcaa
