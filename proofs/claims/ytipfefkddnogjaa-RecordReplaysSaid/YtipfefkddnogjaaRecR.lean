/-
  Plain facts: a replay more changes nothing; one of another value makes a list inconsistent. And two slices of records filled side by side.
-/
import Derived.Test.YtipfefkddnogjaaArg
namespace Go.Proofs.Ytipfefkddnogjaa
open Go.RowKit Go.Maps
set_option linter.unusedVariables false
set_option linter.unusedSimpArgs false

def ordF (acc : List Rc) : List Rc → Bool
  | [] => true
  | r :: q => okStep acc r && ordF (stepF acc r) q
theorem ordF_append : ∀ (p q acc : List Rc), ordF acc (p ++ q) = (ordF acc p && ordF (p.foldl stepF acc) q)
  | [], q, acc => by simp [ordF]
  | r :: p, q, acc => by
    simp only [List.cons_append, ordF, List.foldl_cons]
    rw [ordF_append p q, Bool.and_assoc]
theorem ordK_F (l : List Rc) : ∀ k : Nat, k ≤ l.length → ordK l k = ordF [] (l.take k)
  | 0, _ => rfl
  | k + 1, hk => by
    rw [take_snoc (by omega), ordF_append, ← ordK_F l k (by omega)]
    simp only [ordK, ordF, Bool.and_true]
    rfl
theorem ordP_F (l : List Rc) : ordP l = ordF [] l := by
  unfold ordP
  rw [ordK_F l _ (Nat.le_refl _), List.take_length]
/-- The list with a record laid in. -/
def withR (l : List Rc) (n : Nat) (r : Rc) : List Rc := l.take n ++ [r] ++ l.drop n
theorem firsts_with {l : List Rc} {n : Nat} {r : Rc} (h : hasN (l.take n) r.1 = true) : firsts (withR l n r) = firsts l := by
  have hf : hasN (firsts (l.take n)) r.1 = true := by rw [hasN_firsts]; exact h
  have e : stepF (firsts (l.take n)) r = firsts (l.take n) := by unfold stepF; rw [if_pos hf]
  unfold withR firsts
  rw [List.foldl_append, List.foldl_append]
  simp only [List.foldl_cons, List.foldl_nil]
  have e2 : stepF (List.foldl stepF [] (l.take n)) r = List.foldl stepF [] (l.take n) := e
  rw [e2, ← List.foldl_append, List.take_append_drop]
theorem ordP_with {l : List Rc} {n : Nat} {r : Rc} (h : hasN (l.take n) r.1 = true) (ho : ordP l = true) : ordP (withR l n r) = (valN (firsts (l.take n)) r.1 == r.2) := by
  have hf : hasN (firsts (l.take n)) r.1 = true := by rw [hasN_firsts]; exact h
  have e : stepF (firsts (l.take n)) r = firsts (l.take n) := by unfold stepF; rw [if_pos hf]
  rw [ordP_F] at ho ⊢
  have hs : l = l.take n ++ l.drop n := (List.take_append_drop n l).symm
  rw [hs, ordF_append] at ho
  simp only [Bool.and_eq_true] at ho
  unfold withR
  rw [ordF_append, ordF_append, ho.1, List.foldl_append]
  have e0 : List.foldl stepF [] (l.take n) = firsts (l.take n) := rfl
  have e1 : List.foldl stepF (firsts (l.take n)) [r] = firsts (l.take n) := e
  have h2 := ho.2
  rw [e0] at h2
  rw [e0, e1, h2]
  simp [ordF, okStep, hf]
theorem valN_step {acc : List Rc} {r : Rc} {s : Int} (h : hasN acc s = true) : valN (stepF acc r) s = valN acc s := by
  unfold stepF
  split
  · rfl
  · exact valN_snoc_other h
/-- In a consistent list the record of a number has the value of each record of that number. -/
theorem valN_ord {l : List Rc} {f n : Nat} (hf : f < n) (hn : n ≤ l.length) (ho : ordP l = true) : hasN (l.take n) (l.getD f (0, 0)).1 = true ∧ valN (firsts (l.take n)) (l.getD f (0, 0)).1 = (l.getD f (0, 0)).2 := by
  induction n with
  | zero => omega
  | succ n ih =>
    have hts := take_snoc (l := l) (k := n) (by omega)
    by_cases e : f = n
    · subst e
      have hk := ordK_of_le (l := l) (j := f + 1) (k := l.length) (by omega) ho
      unfold ordK at hk
      simp only [Bool.and_eq_true] at hk
      have h2 := hk.2
      rw [hts, firsts_snoc]
      generalize l.getD f (0, 0) = r at *
      refine ⟨by rw [hasN_append]; simp [hasN], ?_⟩
      have hh := hasN_firsts (l.take f) r.1
      generalize firsts (l.take f) = acc at *
      unfold okStep at h2
      split at h2
      · rename_i hc
        rw [valN_step hc]; simpa using h2
      · rename_i hc
        unfold stepF
        rw [if_neg hc]; exact valN_snoc_same (by simpa using hc)
    · obtain ⟨h1, h2⟩ := ih (by omega) (by omega)
      rw [hts, firsts_snoc]
      refine ⟨by rw [hasN_append, h1]; rfl, ?_⟩
      rw [valN_step (by rw [hasN_firsts]; exact h1)]; exact h2
theorem rcs_with {l : List Rc} {n : Nat} {r : Rc} (h : Rcs l) (hr : r.ok) : Rcs (withR l n r) := fun q hq => by
  unfold withR at hq
  simp only [List.mem_append, List.mem_singleton] at hq
  rcases hq with (hq | rfl) | hq
  · exact h q (List.mem_of_mem_take hq)
  · exact hr
  · exact h q (List.mem_of_mem_drop hq)
theorem length_with (l : List Rc) (n : Nat) (r : Rc) (h : n ≤ l.length) : (withR l n r).length = l.length + 1 := by
  unfold withR
  simp only [List.length_append, List.length_take, List.length_drop, List.length_singleton]
  omega
/-- The list with a record laid in, as far as number k. -/
def withK (l : List Rc) (n : Nat) (r : Rc) (k : Nat) : List Rc := l.take n ++ [r] ++ (l.take k).drop n
theorem withK_start (l : List Rc) (n : Nat) (r : Rc) : withK l n r n = l.take n ++ [r] := by
  unfold withK
  rw [List.drop_eq_nil_of_le (by rw [List.length_take]; omega)]; simp
theorem withK_step {l : List Rc} {n k : Nat} {r : Rc} (hn : n ≤ k) (hk : k < l.length) : withK l n r (k + 1) = withK l n r k ++ [l.getD k (0, 0)] := by
  unfold withK
  rw [take_snoc hk, List.drop_append_of_le_length (by rw [List.length_take]; omega)]; simp
theorem withK_end (l : List Rc) (n : Nat) (r : Rc) : withK l n r l.length = withR l n r := by
  unfold withK withR
  rw [List.take_length]
theorem length_withK (l : List Rc) (n : Nat) (r : Rc) (k : Nat) : (withK l n r k).length ≤ l.length + l.length + 1 := by
  unfold withK
  simp only [List.length_append, List.length_take, List.length_drop, List.length_singleton]
  omega
/-- Two slices of records, apart from one another. -/
structure TwoRel (w wr : World) (lm lo : List Rc) (v7 v8 : Value) : Prop where
  row7 : wr.ownsRow w.heap.size 66 2 v7 lm.length (recCells lm)
  row8 : wr.ownsRow w.heap.size 66 2 v8 lo.length (recCells lo)
  apart : ∀ b, v7.ownBlock = some b → v8.ownBlock ≠ some b
  by_ : w.grownBy wr none
theorem two_start {w wr : World} (h : w.grownBy wr none) : TwoRel w wr [] [] (.slice none 0 0) (.slice none 0 0) :=
  ⟨World.ownsRow_nil _ _ _ _, World.ownsRow_nil _ _ _ _, fun b h => by simp [Value.ownBlock] at h, h⟩
theorem two_drewN {w wr : World} {lm lo : List Rc} {v7 v8 : Value} (h : TwoRel w wr lm lo v7 v8) (n : Nat) : TwoRel w (wr.drewN n) lm lo v7 v8 :=
  ⟨own_by h.row7 ⟨rfl, rfl, rfl, Nat.le_refl _, fun _ _ _ => rfl⟩, own_by h.row8 ⟨rfl, rfl, rfl, Nat.le_refl _, fun _ _ _ => rfl⟩, h.apart, by_drewN h.by_ n⟩
theorem step7 {w wr w3 : World} {lm lo : List Rc} {v7 v8 v' : Value} {r : Rc} {X : Array Value} (h : TwoRel w wr lm lo v7 v8)
    (h3 : w3.ownsRow w.heap.size 66 2 v' (lm.length + 1) (recCells lm ++ [.int .u32 r.1, .int .u32 r.2])) (hg3 : (wr.alloc (.cells X 66)).grownBy w3 v7.ownBlock) (hl : v'.ownBlock = v7.ownBlock ∨ v'.ownBlock = some (wr.alloc (.cells X 66)).heap.size) :
    TwoRel w w3 (lm ++ [r]) lo v' v8 := by
  refine ⟨by rw [recCells_snoc]; simpa using h3, (h.row8.alloc _).kept hg3 ?_, ?_, (by_alloc h.by_ _).andThen hg3 (row_ge h.row7)⟩
  · cases h8 : v8.ownBlock with
    | none => exact Or.inl rfl
    | some b => exact Or.inr (fun e => h.apart b e.symm h8)
  · intro b hb h8
    rcases hl with e | e
    · exact h.apart b (by rw [← e]; exact hb) h8
    · rw [e] at hb
      have := (h.row8.lt b h8).2
      simp at hb
      omega
theorem step8 {w wr w3 : World} {lm lo : List Rc} {v7 v8 v' : Value} {r : Rc} {X : Array Value} (h : TwoRel w wr lm lo v7 v8)
    (h3 : w3.ownsRow w.heap.size 66 2 v' (lo.length + 1) (recCells lo ++ [.int .u32 r.1, .int .u32 r.2])) (hg3 : (wr.alloc (.cells X 66)).grownBy w3 v8.ownBlock) (hl : v'.ownBlock = v8.ownBlock ∨ v'.ownBlock = some (wr.alloc (.cells X 66)).heap.size) :
    TwoRel w w3 lm (lo ++ [r]) v7 v' := by
  refine ⟨(h.row7.alloc _).kept hg3 ?_, by rw [recCells_snoc]; simpa using h3, ?_, (by_alloc h.by_ _).andThen hg3 (row_ge h.row8)⟩
  · cases h7 : v7.ownBlock with
    | none => exact Or.inl rfl
    | some b => exact Or.inr (fun e => h.apart b h7 e.symm)
  · intro b hb h8
    rcases hl with e | e
    · exact h.apart b hb (by rw [← e]; exact h8)
    · rw [e] at h8
      have := (h.row7.lt b hb).2
      simp at h8
      omega
end Go.Proofs.Ytipfefkddnogjaa
