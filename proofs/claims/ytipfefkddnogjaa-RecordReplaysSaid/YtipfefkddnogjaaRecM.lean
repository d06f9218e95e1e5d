/-
  Plain facts on lists of records: which are the first ones of their numbers; a map of them; when a list is consistent. Nothing of the program is named here.
-/
import Derived.Maps.OwnSet
namespace Go.Proofs.Ytipfefkddnogjaa
set_option linter.unusedVariables false

/-- A record: its number and its value. -/
abbrev Rc := Int × Int
/-- A record's number and value are words. -/
def Rc.ok (r : Rc) : Prop := (0 ≤ r.1 ∧ r.1 ≤ 4294967295) ∧ (0 ≤ r.2 ∧ r.2 ≤ 4294967295)
def Rcs (l : List Rc) : Prop := ∀ r ∈ l, Rc.ok r
/-- Is there a record of this number? -/
def hasN (l : List Rc) (s : Int) : Bool := l.any (fun q => q.1 == s)
/-- One record more. -/
def stepF (acc : List Rc) (r : Rc) : List Rc := if hasN acc r.1 = true then acc else acc ++ [r]
/-- The first records of their numbers. -/
def firsts (l : List Rc) : List Rc := l.foldl stepF []
theorem firsts_snoc (l : List Rc) (r : Rc) : firsts (l ++ [r]) = stepF (firsts l) r := by simp [firsts, List.foldl_append]
theorem hasN_append (a b : List Rc) (s : Int) : hasN (a ++ b) s = (hasN a s || hasN b s) := by simp [hasN]
theorem hasN_step (acc : List Rc) (r : Rc) (s : Int) : hasN (stepF acc r) s = (hasN acc s || r.1 == s) := by
  unfold stepF
  split
  · rename_i h
    by_cases e : r.1 = s
    · subst e; simp [h]
    · simp [e]
  · rw [hasN_append]; simp [hasN]
theorem snoc_ind {P : List Rc → Prop} (h0 : P []) (h1 : ∀ l r, P l → P (l ++ [r])) (l : List Rc) : P l := by
  have : ∀ m : List Rc, P m.reverse := by
    intro m
    induction m with
    | nil => exact h0
    | cons r m ih => rw [List.reverse_cons]; exact h1 _ _ ih
  have := this l.reverse
  rwa [List.reverse_reverse] at this
theorem hasN_firsts (l : List Rc) (s : Int) : hasN (firsts l) s = hasN l s := by
  refine snoc_ind (P := fun l => hasN (firsts l) s = hasN l s) rfl (fun l r ih => ?_) l
  rw [firsts_snoc, hasN_step, ih, hasN_append]
  simp [hasN]
/-- No two have one number. -/
def Apart (acc : List Rc) : Prop := acc.Pairwise (fun a b => a.1 ≠ b.1)
theorem apart_snoc {acc : List Rc} {r : Rc} (h : Apart acc) (hn : hasN acc r.1 = false) : Apart (acc ++ [r]) := by
  unfold Apart at *
  rw [List.pairwise_append]
  refine ⟨h, by simp, fun a ha b hb => ?_⟩
  simp at hb; subst hb
  intro e
  have : hasN acc b.1 = true := by unfold hasN; rw [List.any_eq_true]; exact ⟨a, ha, by simpa using e⟩
  rw [hn] at this; cases this
theorem apart_firsts (l : List Rc) : Apart (firsts l) := by
  refine snoc_ind (P := fun l => Apart (firsts l)) List.Pairwise.nil (fun l r ih => ?_) l
  rw [firsts_snoc]; unfold stepF
  split
  · exact ih
  · rename_i h; exact apart_snoc ih (by simpa using h)
theorem mem_firsts {l : List Rc} {r : Rc} (h : r ∈ firsts l) : r ∈ l := by
  revert h
  refine snoc_ind (P := fun l => r ∈ firsts l → r ∈ l) (fun h => h) (fun l q ih h => ?_) l
  rw [firsts_snoc] at h; unfold stepF at h
  split at h
  · exact List.mem_append_left _ (ih h)
  · rcases List.mem_append.1 h with h | h
    · exact List.mem_append_left _ (ih h)
    · exact List.mem_append_right _ h
theorem rcs_firsts {l : List Rc} (h : Rcs l) : Rcs (firsts l) := fun r hr => h r (mem_firsts hr)
theorem rcs_take {l : List Rc} (h : Rcs l) (k : Nat) : Rcs (l.take k) := fun r hr => h r (List.mem_of_mem_take hr)
theorem length_firsts (l : List Rc) : (firsts l).length ≤ l.length := by
  refine snoc_ind (P := fun l => (firsts l).length ≤ l.length) (Nat.le_refl _) (fun l r ih => ?_) l
  rw [firsts_snoc]; unfold stepF
  split
  · simp; omega
  · simp; omega
/-- The value of the record of a number. -/
def valN (acc : List Rc) (s : Int) : Int := ((acc.find? (fun q => q.1 == s)).getD (s, 0)).2
theorem valN_snoc_same {acc : List Rc} {r : Rc} (hn : hasN acc r.1 = false) : valN (acc ++ [r]) r.1 = r.2 := by
  unfold valN
  rw [List.find?_append]
  have : acc.find? (fun q => q.1 == r.1) = none := by
    rw [List.find?_eq_none]
    intro q hq e
    have : hasN acc r.1 = true := by unfold hasN; rw [List.any_eq_true]; exact ⟨q, hq, e⟩
    rw [hn] at this; cases this
  rw [this]; simp
theorem valN_snoc_other {acc : List Rc} {r : Rc} {s : Int} (hs : hasN acc s = true) : valN (acc ++ [r]) s = valN acc s := by
  unfold valN
  rw [List.find?_append]
  obtain ⟨q, hq, e⟩ := List.any_eq_true.1 hs
  cases h : acc.find? (fun q => q.1 == s) with
  | none => exact absurd e (by rw [List.find?_eq_none] at h; exact h q hq)
  | some x => rfl
section
theorem isKeyU (s : Int) : WideAt.IsKeyLit (.int .u32 s) := trivial
/-- A record as a datum. -/
def recD (r : Rc) : DataW Unit := .agg [.lit (.int .u32 r.1), .lit (.int .u32 r.2)]
def mapOf (acc : List Rc) : DataW Unit := acc.foldl (fun D r => D.put (.int .u32 r.1) (recD r)) (.map [])
theorem mapOf_snoc (acc : List Rc) (r : Rc) : mapOf (acc ++ [r]) = (mapOf acc).put (.int .u32 r.1) (recD r) := by simp [mapOf, List.foldl_append]
theorem isMap_mapOf (acc : List Rc) : Maps.IsMap (mapOf acc) :=
  snoc_ind (P := fun acc => Maps.IsMap (mapOf acc)) Maps.isMap_empty (fun acc r ih => by rw [mapOf_snoc]; exact ih.put _ _) acc
theorem tidy_mapOf (acc : List Rc) : Maps.Tidy (mapOf acc) :=
  snoc_ind (P := fun acc => Maps.Tidy (mapOf acc)) Maps.tidy_empty (fun acc r ih => by rw [mapOf_snoc]; exact ih.put (isKeyU _) _) acc
theorem has_mapOf (acc : List Rc) (s : Int) : Maps.has (mapOf acc) (.int .u32 s) = hasN acc s := by
  refine snoc_ind (P := fun acc => Maps.has (mapOf acc) (.int .u32 s) = hasN acc s) rfl (fun acc r ih => ?_) acc
  rw [mapOf_snoc, hasN_append]
  by_cases e : r.1 = s
  · subst e
    rw [Maps.has_put_same (isMap_mapOf acc) (isKeyU _)]; simp [hasN]
  · rw [Maps.has_put_other (by intro h; injection h with _ h; exact e h.symm), ih]; simp [hasN, e]
theorem at_mapOf {acc : List Rc} (ha : Apart acc) {s : Int} (hs : hasN acc s = true) (z : DataW Unit) : (mapOf acc).atKey (.int .u32 s) z = recD (s, valN acc s) := by
  revert ha hs
  refine snoc_ind (P := fun acc => Apart acc → hasN acc s = true → (mapOf acc).atKey (.int .u32 s) z = recD (s, valN acc s)) (fun _ h => by simp [hasN] at h) (fun acc r ih ha hs => ?_) acc
  have hap : Apart acc ∧ hasN acc r.1 = false := by
    unfold Apart at ha
    rw [List.pairwise_append] at ha
    refine ⟨ha.1, ?_⟩
    cases h : hasN acc r.1 with
    | false => rfl
    | true =>
      obtain ⟨q, hq, e⟩ := List.any_eq_true.1 h
      exact absurd (by simpa using e) (ha.2.2 q hq r (by simp))
  rw [mapOf_snoc]
  by_cases e : r.1 = s
  · subst e
    rw [Maps.atKey_put_same (isMap_mapOf acc) (isKeyU _), valN_snoc_same hap.2]
  · rw [Maps.atKey_put_other (by intro h; injection h with _ h; exact e h.symm)]
    rw [hasN_append] at hs
    have hs' : hasN acc s = true := by simpa [hasN, e] using hs
    rw [ih hap.1 hs', valN_snoc_other hs']
theorem size_mapOf {acc : List Rc} (ha : Apart acc) : Maps.size (mapOf acc) = acc.length := by
  revert ha
  refine snoc_ind (P := fun acc => Apart acc → Maps.size (mapOf acc) = acc.length) (fun _ => rfl) (fun acc r ih ha => ?_) acc
  unfold Apart at ha
  rw [List.pairwise_append] at ha
  have hn : hasN acc r.1 = false := by
    cases h : hasN acc r.1 with
    | false => rfl
    | true =>
      obtain ⟨q, hq, e⟩ := List.any_eq_true.1 h
      exact absurd (by simpa using e) (ha.2.2 q hq r (by simp))
  rw [mapOf_snoc, Maps.size_put (tidy_mapOf acc), has_mapOf, hn, ih ha.1]
  simp
end
/-- Does one record more leave the list consistent? -/
def okStep (acc : List Rc) (r : Rc) : Bool := if hasN acc r.1 = true then valN acc r.1 == r.2 else r.1 == (acc.length : Int)
/-- Are the first k records consistent? -/
def ordK (l : List Rc) : Nat → Bool
  | 0 => true
  | k + 1 => ordK l k && okStep (firsts (l.take k)) (l.getD k (0, 0))
/-- Is the list consistent? -/
def ordP (l : List Rc) : Bool := ordK l l.length
theorem take_snoc {l : List Rc} {k : Nat} (h : k < l.length) : l.take (k + 1) = l.take k ++ [l.getD k (0, 0)] := by
  rw [List.take_succ_eq_append_getElem h, List.getD_eq_getElem?_getD, List.getElem?_eq_getElem h]; rfl
theorem ordK_of_le {l : List Rc} {j k : Nat} (hjk : j ≤ k) (h : ordK l k = true) : ordK l j = true := by
  induction hjk with
  | refl => exact h
  | step _ ih => exact ih (by unfold ordK at h; simp only [Bool.and_eq_true] at h; exact h.1)
theorem getD_left {l m : List Rc} {i : Nat} (h : i < l.length) : (l ++ m).getD i (0, 0) = l.getD i (0, 0) := by
  simp [List.getD_eq_getElem?_getD, List.getElem?_append_left h]
theorem getD_last (l : List Rc) (r : Rc) : (l ++ [r]).getD l.length (0, 0) = r := by
  simp [List.getD_eq_getElem?_getD]
/-- Of a consistent list's first records the numbers are 0, 1, 2 and so on. -/
theorem ord_numbers {l : List Rc} : ∀ {k : Nat}, k ≤ l.length → ordK l k = true → ∀ i, i < (firsts (l.take k)).length → ((firsts (l.take k)).getD i (0, 0)).1 = (i : Int)
  | 0, _, _, i, hi => absurd hi (by simp [firsts])
  | k + 1, hk, h, i, hi => by
    unfold ordK at h
    simp only [Bool.and_eq_true] at h
    have ih := ord_numbers (k := k) (by omega) h.1
    rw [take_snoc (by omega), firsts_snoc] at hi ⊢
    generalize l.getD k (0, 0) = r at *
    generalize firsts (l.take k) = acc at *
    unfold stepF at hi ⊢
    split
    · rename_i hn
      rw [if_pos hn] at hi
      exact ih i hi
    · rename_i hn
      rw [if_neg hn] at hi
      simp at hi
      by_cases e : i < acc.length
      · rw [getD_left e]; exact ih i e
      · have e' : i = acc.length := by omega
        subst e'
        have := h.2
        unfold okStep at this
        rw [if_neg hn] at this
        rw [getD_last]
        simpa using this
end Go.Proofs.Ytipfefkddnogjaa
