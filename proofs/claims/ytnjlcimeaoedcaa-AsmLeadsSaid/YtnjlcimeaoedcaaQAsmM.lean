/-
  Items (layer 5), plainly: which are valid, the instructions of each, sizes and addresses. Nothing of the program is named here.
-/
import Derived.Test.YtnjlcimeaoedcaaQEnc
import Derived.Test.YtnjlcimeaoedcaaQFr
import Derived.Maps.OwnSet
namespace Go.Proofs.Ytnjlcimeaoedcaa
open Go.RowKit
set_option linter.unusedVariables false
set_option linter.unusedSimpArgs false
/-- An item: its kind, its instruction's five numbers, its label. -/
structure It where
  k : Int
  op : Int
  rd : Int
  r1 : Int
  r2 : Int
  imm : Int
  lab : Int
def It.vals (x : It) : List Value := [.int .i64 x.k, .int .i64 x.op, .int .i64 x.rd, .int .i64 x.r1, .int .i64 x.r2, .int .i64 x.imm, .int .i64 x.lab]
def it0 : It := ⟨0, 0, 0, 0, 0, 0, 0⟩
/-- An instruction. -/
structure In where
  op : Int
  rd : Int
  r1 : Int
  r2 : Int
  imm : Int
def In.vals (x : In) : List Value := [.int .i64 x.op, .int .i64 x.rd, .int .i64 x.r1, .int .i64 x.r2, .int .i64 x.imm]
def in0 : In := ⟨0, 0, 0, 0, 0⟩
def labB (n : Int) : Bool := decide (0 ≤ n) && decide (n < 4096)
def conB (op rd r1 r2 imm : Int) : Bool := op == 0 && r1 == 0 && r2 == 0 && fitsB rd 0 0 0 85 && decide (-2147483648 ≤ imm) && decide (imm ≤ 4294967295)
/-- Is an item valid? -/
def rightB (x : It) : Bool :=
  if x.k = 1 then fitsB x.rd x.r1 x.r2 x.imm (fm (ix x.op)) && x.lab == 0
  else if x.k = 2 then (x.op == 0 && x.rd == 0 && x.r1 == 0 && x.r2 == 0 && x.imm == 0) && labB x.lab
  else if x.k = 3 then fitsB x.rd x.r1 x.r2 x.imm (fm (ix x.op)) && fm (ix x.op) == 66 && x.imm == 0 && labB x.lab
  else if x.k = 4 then fitsB x.rd x.r1 x.r2 x.imm (fm (ix x.op)) && x.op == 3 && x.imm == 0 && labB x.lab
  else if x.k = 5 then conB x.op x.rd x.r1 x.r2 x.imm && x.lab == 0
  else false
def contr (op : Int) : Int := if op = 5 then 6 else if op = 6 then 5 else if op = 7 then 8 else if op = 8 then 7 else if op = 9 then 10 else if op = 10 then 9 else 0
/-- The parts of a constant. -/
def loW (n : Int) : Int := signF (n % 4294967296) 12
def hiW (n : Int) : Int := (n % 4294967296 - loW n) % 4294967296
/-- The instructions that set a register to a constant. -/
def numI (rd n : Int) : List In :=
  if hiW n = 0 then [⟨19, rd, 0, 0, sg (loW n)⟩]
  else if loW n = 0 then [⟨1, rd, 0, 0, sg (hiW n)⟩]
  else [⟨1, rd, 0, 0, sg (hiW n)⟩, ⟨19, rd, rd, 0, sg (loW n)⟩]
/-- How many words an item has while all branches are near. -/
def sz0 (x : It) : Int := if x.k = 5 then ((numI x.rd x.imm).length : Int) else if x.k = 1 ∨ x.k = 3 ∨ x.k = 4 then 1 else 0
theorem numI_len (rd n : Int) : (numI rd n).length = 1 ∨ (numI rd n).length = 2 := by
  unfold numI; split
  · left; rfl
  · split
    · left; rfl
    · right; rfl
theorem sz0_in (x : It) : 0 ≤ sz0 x ∧ sz0 x ≤ 2 := by
  unfold sz0
  have := numI_len x.rd x.imm
  split
  · omega
  · split <;> omega
/-- The sum of the first k sizes. -/
def sumK (s : List Int) (k : Nat) : Int := (s.take k).foldl (· + ·) 0
theorem sumK_zero (s : List Int) : sumK s 0 = 0 := rfl
theorem sumK_succ {s : List Int} {k : Nat} (h : k < s.length) : sumK s (k + 1) = sumK s k + s.getD k 0 := by
  unfold sumK
  rw [List.take_succ_eq_append_getElem h, List.foldl_append, List.getD_eq_getElem?_getD, List.getElem?_eq_getElem h]; rfl
/-- Sizes are from 0 to 2. -/
def Sizes (s : List Int) : Prop := ∀ k, k < s.length → 0 ≤ s.getD k 0 ∧ s.getD k 0 ≤ 2
theorem sumK_in {s : List Int} (h : Sizes s) : ∀ k, k ≤ s.length → 0 ≤ sumK s k ∧ sumK s k ≤ 2 * k
  | 0, _ => by simp [sumK]
  | k + 1, hk => by
    have ih := sumK_in h k (by omega)
    have hs := h k (by omega)
    rw [sumK_succ (by omega)]
    omega
/-- Where the items lie. -/
def atK (s : List Int) : List Int := (List.range s.length).map (fun k => 4 * sumK s k)
theorem atK_len (s : List Int) : (atK s).length = s.length := by simp [atK]
theorem atK_get {s : List Int} {k : Nat} (h : k < s.length) : (atK s).getD k 0 = 4 * sumK s k := by
  simp [atK, List.getD_eq_getElem?_getD, h]
def ints (l : List Int) : List Value := l.map (Value.int .i64)
theorem ints_get {l : List Int} {k : Nat} (h : k < l.length) : (ints l)[k]? = some (.int .i64 (l.getD k 0)) := by
  simp [ints, List.getD_eq_getElem?_getD, h]
theorem ints_len (l : List Int) : (ints l).length = l.length := by simp [ints]
theorem ints_snoc (l : List Int) (x : Int) : ints (l ++ [x]) = ints l ++ [.int .i64 x] := by simp [ints]
/-- How far the label that item k leads to is from its first word. -/
def offK (goals s : List Int) (k : Nat) : Int := (atK s).getD (goals.getD k 0).toNat 0 - (atK s).getD k 0
/-- Does a near branch reach its label? -/
def reachB (goals s : List Int) (k : Nat) : Bool := decide (-4096 ≤ offK goals s k) && decide (offK goals s k ≤ 4094)
def isBr (l : List It) (k : Nat) : Bool := (l.getD k it0).k == 3
/-- The sizes, where the branches F are far. -/
def szF (l : List It) (F : Nat → Bool) : List Int := (List.range l.length).map (fun k => if F k = true then 2 else sz0 (l.getD k it0))
/-- The branches that are near. -/
def nearF (l : List It) (F : Nat → Bool) : List Nat := (List.range l.length).filter (fun k => isBr l k && !F k)
/-- One round more. -/
def nextF (l : List It) (goals : List Int) (F : Nat → Bool) : Nat → Bool := fun k => F k || (isBr l k && !reachB goals (szF l F) k)
/-- The branches that are far after so many rounds. -/
def farN (l : List It) (goals : List Int) : Nat → Nat → Bool
  | 0 => fun _ => false
  | i + 1 => nextF l goals (farN l goals i)
theorem szF_len (l : List It) (F : Nat → Bool) : (szF l F).length = l.length := by simp [szF]
theorem szF_get {l : List It} {F : Nat → Bool} {k : Nat} (h : k < l.length) : (szF l F).getD k 0 = if F k = true then 2 else sz0 (l.getD k it0) := by
  unfold szF; rw [List.getD_eq_getElem?_getD, List.getElem?_map, List.getElem?_range h]; rfl
theorem szF_in (l : List It) (F : Nat → Bool) : Sizes (szF l F) := fun k hk => by
  rw [szF_len] at hk
  rw [szF_get hk]
  have := sz0_in (l.getD k it0)
  split <;> omega
theorem nearF_next (l : List It) (goals : List Int) (F : Nat → Bool) : nearF l (nextF l goals F) = (nearF l F).filter (reachB goals (szF l F)) := by
  unfold nearF nextF
  rw [List.filter_filter]
  congr 1
  funext k
  cases isBr l k <;> cases F k <;> cases reachB goals (szF l F) k <;> rfl
theorem mem_nearF {l : List It} {F : Nat → Bool} {k : Nat} : k ∈ nearF l F ↔ k < l.length ∧ isBr l k = true ∧ F k = false := by
  unfold nearF; simp [List.mem_filter]
/-- No near branch is out of reach. -/
def Still (l : List It) (goals : List Int) (F : Nat → Bool) : Prop := ∀ k, k < l.length → isBr l k = true → F k = false → reachB goals (szF l F) k = true
theorem szF_congr {l : List It} {F G : Nat → Bool} (h : ∀ k, k < l.length → F k = G k) : szF l F = szF l G := by
  unfold szF
  refine List.map_congr_left fun k hk => ?_
  rw [h k (by simpa using hk)]
theorem still_of {l : List It} {goals : List Int} {F : Nat → Bool} (h : ¬ ((nearF l F).filter (reachB goals (szF l F))).length < (nearF l F).length) : Still l goals F := by
  intro k hk hb hf
  have e : ((nearF l F).filter (reachB goals (szF l F))).length = (nearF l F).length := Nat.le_antisymm (List.length_filter_le _ _) (by omega)
  exact List.length_filter_eq_length_iff.1 e k (mem_nearF.2 ⟨hk, hb, hf⟩)
theorem next_still {l : List It} {goals : List Int} {F : Nat → Bool} (h : Still l goals F) {k : Nat} (hk : k < l.length) : nextF l goals F k = F k := by
  unfold nextF
  cases hb : isBr l k with
  | false => simp
  | true =>
    cases hf : F k with
    | true => rfl
    | false => rw [h k hk hb hf]; rfl
theorem next_congr {l : List It} {goals : List Int} {F G : Nat → Bool} (h : ∀ k, k < l.length → F k = G k) {k : Nat} (hk : k < l.length) : nextF l goals F k = nextF l goals G k := by
  unfold nextF; rw [szF_congr h, h k hk]
theorem far_still {l : List It} {goals : List Int} {i : Nat} (h : Still l goals (farN l goals i)) : ∀ j, i ≤ j → ∀ k, k < l.length → farN l goals j k = farN l goals i k := by
  intro j hj
  induction hj with
  | refl => exact fun _ _ => rfl
  | step _ ih =>
    intro k hk
    show nextF l goals _ k = _
    rw [next_congr ih hk, next_still h hk]
/-- As many rounds as there are near branches, at most. -/
theorem near_down {l : List It} {goals : List Int} : ∀ i, (∀ j, j < i → (nearF l (farN l goals (j + 1))).length < (nearF l (farN l goals j)).length) → (nearF l (farN l goals i)).length + i ≤ l.length
  | 0, _ => by unfold nearF; have := List.length_filter_le (fun k => isBr l k && !farN l goals 0 k) (List.range l.length); simpa using this
  | i + 1, h => by
    have ih := near_down i (fun j hj => h j (by omega))
    have := h i (by omega)
    omega
/-- The branches that are far in the end. -/
def farE (l : List It) (goals : List Int) : Nat → Bool := farN l goals l.length
theorem farE_of {l : List It} {goals : List Int} {i : Nat} (hi : i ≤ l.length) (h : Still l goals (farN l goals i)) : szF l (farN l goals i) = szF l (farE l goals) ∧ Still l goals (farE l goals) := by
  have e := far_still h l.length hi
  refine ⟨szF_congr fun k hk => (e k hk).symm, fun k hk hb hf => ?_⟩
  unfold farE at hf ⊢
  rw [szF_congr e]
  rw [e k hk] at hf
  exact h k hk hb hf
/-- The labels that the first items define, each with its item's number. -/
def labsK (l : List It) : Nat → List (Int × Nat)
  | 0 => []
  | k + 1 => if (l.getD k it0).k = 2 then labsK l k ++ [((l.getD k it0).lab, k)] else labsK l k
def hasL (acc : List (Int × Nat)) (n : Int) : Bool := acc.any (fun q => q.1 == n)
def valL (acc : List (Int × Nat)) (n : Int) : Nat := ((acc.find? (fun q => q.1 == n)).getD (n, 0)).2
/-- Does one of the first items define a label again? -/
def twiceK (l : List It) : Nat → Bool
  | 0 => false
  | k + 1 => twiceK l k || ((l.getD k it0).k == 2 && hasL (labsK l k) (l.getD k it0).lab)
def isTo (x : It) : Bool := x.k == 3 || x.k == 4
/-- Does one of the first items lead to a label that is not defined? -/
def lackK (l : List It) (acc : List (Int × Nat)) : Nat → Bool
  | 0 => false
  | k + 1 => lackK l acc k || (isTo (l.getD k it0) && !hasL acc (l.getD k it0).lab)
def goalsK (l : List It) (acc : List (Int × Nat)) (n : Nat) : List Int := (List.range l.length).map (fun k => if k < n ∧ isTo (l.getD k it0) = true then ((valL acc (l.getD k it0).lab : Nat) : Int) else 0)
theorem goalsK_len (l : List It) (acc : List (Int × Nat)) (n : Nat) : (goalsK l acc n).length = l.length := by simp [goalsK]
theorem hasL_append (a b : List (Int × Nat)) (n : Int) : hasL (a ++ b) n = (hasL a n || hasL b n) := by simp [hasL]
theorem labsK_lt (l : List It) : ∀ k, ∀ q ∈ labsK l k, q.2 < k
  | 0, q, h => by simp [labsK] at h
  | k + 1, q, h => by
    unfold labsK at h
    split at h
    · rcases List.mem_append.1 h with h | h
      · have := labsK_lt l k q h; omega
      · simp at h; subst h; simp
    · have := labsK_lt l k q h; omega
theorem valL_lt {l : List It} {n : Int} {k : Nat} (hk : 0 < k) : valL (labsK l k) n < k := by
  unfold valL
  cases h : (labsK l k).find? (fun q => q.1 == n) with
  | none => simpa using hk
  | some q => exact labsK_lt l k q (List.mem_of_find?_eq_some h)
theorem labsK_len (l : List It) : ∀ k, (labsK l k).length ≤ k
  | 0 => by simp [labsK]
  | k + 1 => by
    unfold labsK
    have := labsK_len l k
    split
    · simp; omega
    · omega
def ApartL (acc : List (Int × Nat)) : Prop := acc.Pairwise (fun a b => a.1 ≠ b.1)
theorem apartL_snoc {acc : List (Int × Nat)} {n : Int} {k : Nat} (h : ApartL acc) (hn : hasL acc n = false) : ApartL (acc ++ [(n, k)]) := by
  unfold ApartL at *
  rw [List.pairwise_append]
  refine ⟨h, by simp, fun a ha b hb => ?_⟩
  simp at hb; subst hb
  intro e
  have : hasL acc n = true := by unfold hasL; rw [List.any_eq_true]; exact ⟨a, ha, by simpa using e⟩
  rw [hn] at this; cases this
theorem apartL_labs (l : List It) : ∀ k, twiceK l k = false → ApartL (labsK l k)
  | 0, _ => List.Pairwise.nil
  | k + 1, h => by
    unfold twiceK at h
    simp only [Bool.or_eq_false_iff, Bool.and_eq_false_iff] at h
    unfold labsK
    split
    · rename_i e
      refine apartL_snoc (apartL_labs l k h.1) ?_
      rcases h.2 with h2 | h2
      · rw [e] at h2; simp at h2
      · exact h2
    · exact apartL_labs l k h.1
theorem valL_snoc_same {acc : List (Int × Nat)} {n : Int} {k : Nat} (hn : hasL acc n = false) : valL (acc ++ [(n, k)]) n = k := by
  unfold valL
  rw [List.find?_append]
  have : acc.find? (fun q => q.1 == n) = none := by
    rw [List.find?_eq_none]
    intro q hq e
    have : hasL acc n = true := by unfold hasL; rw [List.any_eq_true]; exact ⟨q, hq, e⟩
    rw [hn] at this; cases this
  rw [this]; simp
theorem valL_snoc_other {acc : List (Int × Nat)} {q : Int × Nat} {n : Int} (hs : hasL acc n = true) : valL (acc ++ [q]) n = valL acc n := by
  unfold valL
  rw [List.find?_append]
  obtain ⟨r, hr, e⟩ := List.any_eq_true.1 hs
  cases h : acc.find? (fun q => q.1 == n) with
  | none => exact absurd e (by rw [List.find?_eq_none] at h; exact h r hr)
  | some x => rfl
theorem snocL_ind {P : List (Int × Nat) → Prop} (h0 : P []) (h1 : ∀ l r, P l → P (l ++ [r])) (l : List (Int × Nat)) : P l := by
  have : ∀ m : List (Int × Nat), P m.reverse := by
    intro m
    induction m with
    | nil => exact h0
    | cons r m ih => rw [List.reverse_cons]; exact h1 _ _ ih
  have := this l.reverse
  rwa [List.reverse_reverse] at this
section
theorem isKeyI (s : Int) : WideAt.IsKeyLit (.int .i64 s) := trivial
def natD (k : Nat) : DataW Unit := .lit (.int .i64 k)
def mapL (acc : List (Int × Nat)) : DataW Unit := acc.foldl (fun D r => D.put (.int .i64 r.1) (natD r.2)) (.map [])
theorem mapL_snoc (acc : List (Int × Nat)) (r : Int × Nat) : mapL (acc ++ [r]) = (mapL acc).put (.int .i64 r.1) (natD r.2) := by simp [mapL, List.foldl_append]
theorem isMap_mapL (acc : List (Int × Nat)) : Maps.IsMap (mapL acc) :=
  snocL_ind (P := fun acc => Maps.IsMap (mapL acc)) Maps.isMap_empty (fun acc r ih => by rw [mapL_snoc]; exact ih.put _ _) acc
theorem has_mapL (acc : List (Int × Nat)) (s : Int) : Maps.has (mapL acc) (.int .i64 s) = hasL acc s := by
  refine snocL_ind (P := fun acc => Maps.has (mapL acc) (.int .i64 s) = hasL acc s) rfl (fun acc r ih => ?_) acc
  rw [mapL_snoc, hasL_append]
  by_cases e : r.1 = s
  · subst e
    rw [Maps.has_put_same (isMap_mapL acc) (isKeyI _)]; simp [hasL]
  · rw [Maps.has_put_other (by intro h; injection h with _ h; exact e h.symm), ih]; simp [hasL, e]
theorem at_mapL {acc : List (Int × Nat)} (ha : ApartL acc) {s : Int} (hs : hasL acc s = true) (z : DataW Unit) : (mapL acc).atKey (.int .i64 s) z = natD (valL acc s) := by
  revert ha hs
  refine snocL_ind (P := fun acc => ApartL acc → hasL acc s = true → (mapL acc).atKey (.int .i64 s) z = natD (valL acc s)) (fun _ h => by simp [hasL] at h) (fun acc r ih ha hs => ?_) acc
  have hap : ApartL acc ∧ hasL acc r.1 = false := by
    unfold ApartL at ha
    rw [List.pairwise_append] at ha
    refine ⟨ha.1, ?_⟩
    cases h : hasL acc r.1 with
    | false => rfl
    | true =>
      obtain ⟨q, hq, e⟩ := List.any_eq_true.1 h
      exact absurd (by simpa using e) (ha.2.2 q hq r (by simp))
  rw [mapL_snoc]
  by_cases e : r.1 = s
  · subst e
    rw [Maps.atKey_put_same (isMap_mapL acc) (isKeyI _)]
    obtain ⟨a, b⟩ := r
    rw [valL_snoc_same hap.2]
  · rw [Maps.atKey_put_other (by intro h; injection h with _ h; exact e h.symm)]
    rw [hasL_append] at hs
    have hs' : hasL acc s = true := by simpa [hasL, e] using hs
    rw [ih hap.1 hs', valL_snoc_other hs']
end
/-- An offset that a jump can't hold. -/
def jumpB (off : Int) : Bool := decide (-1048576 ≤ off) && decide (off ≤ 1048574)
/-- The instructions of item k; none: a jump that doesn't reach. -/
def insK (l : List It) (goals : List Int) (F : Nat → Bool) (k : Nat) : Option (List In) :=
  let x := l.getD k it0
  let off := offK goals (szF l F) k
  if x.k = 1 then some [⟨x.op, x.rd, x.r1, x.r2, x.imm⟩]
  else if x.k = 5 then some (numI x.rd x.imm)
  else if x.k = 3 then (if F k = true then (if jumpB (off - 4) = true then some [⟨contr x.op, 0, x.r1, x.r2, 8⟩, ⟨3, 0, 0, 0, off - 4⟩] else none) else some [⟨x.op, x.rd, x.r1, x.r2, off⟩])
  else if x.k = 4 then (if jumpB off = true then some [⟨3, x.rd, 0, 0, off⟩] else none)
  else some []
def encI (i : In) : Int := encW i.op i.rd i.r1 i.r2 i.imm
def fitI (i : In) : Bool := fitsB i.rd i.r1 i.r2 i.imm (fm (ix i.op))
/-- The words of the first items; none: a jump that doesn't reach. -/
def wordsK (l : List It) (goals : List Int) (F : Nat → Bool) : Nat → Option (List Int)
  | 0 => some []
  | k + 1 => match wordsK l goals F k, insK l goals F k with
    | some ws, some L => some (ws ++ L.map encI)
    | _, _ => none
/-- The addresses of the labels below n. -/
def addrK (acc : List (Int × Nat)) (s : List Int) : Nat → List Int
  | 0 => []
  | n + 1 => if hasL acc n = true then addrK acc s n ++ List.replicate (n - (addrK acc s n).length) (-1) ++ [(atK s).getD (valL acc n) 0] else addrK acc s n
theorem addrK_len (acc : List (Int × Nat)) (s : List Int) : ∀ n, (addrK acc s n).length ≤ n
  | 0 => by simp [addrK]
  | n + 1 => by
    have := addrK_len acc s n
    unfold addrK
    split
    · simp; omega
    · omega
end Go.Proofs.Ytnjlcimeaoedcaa
