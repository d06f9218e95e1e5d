/-
  Items (layer 5): the contract of grow.
-/
import Derived.Test.YtfnlhammjallfaaAsmI
import Derived.Test.YtfnlhammjallfaaAsmK
namespace Go.Proofs.Ytfnlhammjallfaa
open Go.RowKit
set_option linter.unusedVariables false
set_option linter.unusedSimpArgs false
/-- The sizes after the first j near branches have been looked at. -/
def gK (goals s : List Int) (near : List Nat) : Nat → List Int
  | 0 => s
  | j + 1 => if reachB goals s (near.getD j 0) = true then gK goals s near j else (gK goals s near j).set (near.getD j 0) 2
/-- Those of them that reach. -/
def rK (goals s : List Int) (near : List Nat) : Nat → List Int
  | 0 => []
  | j + 1 => if reachB goals s (near.getD j 0) = true then rK goals s near j ++ [((near.getD j 0 : Nat) : Int)] else rK goals s near j
theorem gK_len (goals s : List Int) (near : List Nat) : ∀ j, (gK goals s near j).length = s.length
  | 0 => rfl
  | j + 1 => by unfold gK; split <;> simp [gK_len goals s near j]
theorem rK_len (goals s : List Int) (near : List Nat) : ∀ j, (rK goals s near j).length ≤ j
  | 0 => by simp [rK]
  | j + 1 => by unfold rK; have := rK_len goals s near j; split <;> simp <;> omega
theorem take_snocN {l : List Nat} {k : Nat} (h : k < l.length) : l.take (k + 1) = l.take k ++ [l.getD k 0] := by
  rw [List.take_succ_eq_append_getElem h, List.getD_eq_getElem?_getD, List.getElem?_eq_getElem h]; rfl
theorem rK_is (goals s : List Int) (near : List Nat) : ∀ j, j ≤ near.length → rK goals s near j = natsI ((near.take j).filter (reachB goals s))
  | 0, _ => by simp [rK, natsI]
  | j + 1, h => by
    rw [take_snocN (by omega), List.filter_append]
    unfold rK
    rw [rK_is goals s near j (by omega)]
    cases hr : reachB goals s (near.getD j 0) <;> simp only [natsI, List.filter_cons, hr] <;> simp
theorem gK_get (goals s : List Int) (near : List Nat) {i : Nat} (hi : i < s.length) : ∀ j, j ≤ near.length → (gK goals s near j).getD i 0 = if i ∈ near.take j ∧ reachB goals s i = false then 2 else s.getD i 0
  | 0, _ => by simp [gK]
  | j + 1, h => by
    rw [take_snocN (by omega)]
    unfold gK
    have ih := gK_get goals s near hi j (by omega)
    by_cases e : near.getD j 0 = i
    · rw [e]
      cases hr : reachB goals s i
      · rw [if_neg (by decide), getD_set (by rw [gK_len]; exact hi), if_pos rfl]
        simp
      · rw [if_pos rfl, ih, hr]; simp
    · have e2 : ¬ i = near.getD j 0 := fun h => e h.symm
      have m : (i ∈ near.take j ++ [near.getD j 0]) ↔ i ∈ near.take j := by simp only [List.mem_append, List.mem_singleton]; exact ⟨fun h => h.resolve_right e2, Or.inl⟩
      rw [show (if i ∈ near.take j ++ [near.getD j 0] ∧ reachB goals s i = false then (2 : Int) else s.getD i 0) = if i ∈ near.take j ∧ reachB goals s i = false then 2 else s.getD i 0 by simp only [m]]
      rw [← ih]
      split
      · rfl
      · rw [getD_set (by rw [gK_len]; exact hi), if_neg e]
theorem gK_end (l : List It) (goals : List Int) (F : Nat → Bool) : gK goals (szF l F) (nearF l F) (nearF l F).length = szF l (nextF l goals F) := by
  refine ext_getD (by rw [gK_len, szF_len, szF_len]) fun i hi => ?_
  rw [gK_len, szF_len] at hi
  rw [gK_get goals _ _ (by rw [szF_len]; exact hi) _ (Nat.le_refl _), szF_get hi, szF_get hi, List.take_length]
  have m : i ∈ nearF l F ↔ (isBr l i = true ∧ F i = false) := by rw [mem_nearF]; simp [hi]
  simp only [m]
  unfold nextF
  cases hb : isBr l i <;> cases hf : F i <;> cases hr : reachB goals (szF l F) i <;> simp
theorem rK_end (l : List It) (goals : List Int) (F : Nat → Bool) : rK goals (szF l F) (nearF l F) (nearF l F).length = natsI (nearF l (nextF l goals F)) := by
  rw [rK_is _ _ _ _ (Nat.le_refl _), List.take_length, nearF_next]
/-- What grow leaves. -/
def GrowP (B gs : Nat) (l : List It) (goals : List Int) (F : Nat → Bool) (w : World) (e : Ending) (w' : World) : Prop :=
  ∃ v, e = .returned v ∧ NumAt w.heap.size w' v (natsI (nearF l (nextF l goals F))) ∧ IRow B w' gs (szF l (nextF l goals F)) ∧ Fr (fun j => j = gs) w w'
structure GrR (B gs : Nat) (goals s : List Int) (near : List Nat) (w wr : World) (v : Value) (j : Nat) : Prop where
  num : NumAt w.heap.size wr v (rK goals s near j)
  row : IRow B wr gs (gK goals s near j)
  fr : Fr (fun i => i = gs) w wr
theorem GrR.far {B gs : Nat} {goals s : List Int} {near : List Nat} {w wr w2 : World} {v : Value} {j t : Nat} (h : GrR B gs goals s near w wr v j) (hf : Fr (fun _ => False) wr w2) (hlt : gs < w.heap.size) (ht : near.getD j 0 = t) (hr : reachB goals s t = false) : GrR B gs goals s near w (w2.setCell ⟨gs, t, none⟩ (.int .i64 2)) v (j + 1) := by
  subst ht
  refine ⟨?_, ?_, ?_⟩
  · unfold rK; rw [hr, if_neg (by decide)]
    refine (Fr.setCell (F := fun i => i = gs) w2 ⟨gs, _, none⟩ _ rfl).owns (hf.owns h.num (fun _ _ => id)) (fun k hk e => ?_)
    have := (World.ownsRow.lt h.num k hk).1
    omega
  · unfold gK; rw [hr, if_neg (by decide)]
    exact (h.row.fr hf id).set _ 2
  · exact (h.fr.trans (hf.mono (fun _ _ h => h.elim))).trans (Fr.setCell _ _ _ rfl)
theorem GrR.near {B gs : Nat} {goals s : List Int} {near : List Nat} {w wr w1 w2 : World} {v v' : Value} {j t : Nat} (h : GrR B gs goals s near w wr v j) (hf : Fr (fun _ => False) wr w1) (hlt : gs < w.heap.size) (ht : near.getD j 0 = t) (hr : reachB goals s t = true)
    (hv : w2.ownsRow w.heap.size 3 1 v' ((rK goals s near j).length + 1) (ints (rK goals s near j) ++ [.int .i64 (t : Int)])) (hg : w1.grownBy w2 v.ownBlock) : GrR B gs goals s near w w2 v' (j + 1) := by
  subst ht
  have hb : Fr (fun i => v.ownBlock = some i) w1 w2 := Fr.of_by hg
  refine ⟨?_, ?_, ?_⟩
  · unfold rK; rw [if_pos hr]; unfold NumAt; rw [ints_snoc]; simpa using hv
  · unfold gK; rw [if_pos hr]
    refine (h.row.fr hf id).fr hb (fun e => ?_)
    have := (World.ownsRow.lt h.num gs e).1
    omega
  · refine (h.fr.trans (hf.mono (fun _ _ h => h.elim))).trans' hb (fun i hi e => ?_)
    have := (World.ownsRow.lt h.num i e).1
    omega
end Go.Proofs.Ytfnlhammjallfaa
