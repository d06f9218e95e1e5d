/-
  Items (layer 5): rows that are filled from left to right; the least sizes.
-/
import Derived.Test.YtfnlhammjallfaaAsmE
namespace Go.Proofs.Ytfnlhammjallfaa
open Go.RowKit
set_option linter.unusedVariables false
set_option linter.unusedSimpArgs false
/-- A row of which the first k numbers are f's, the others as they were. -/
def mixK (f : Nat → Int) (old : List Int) (k : Nat) : List Int := (List.range old.length).map (fun j => if j < k then f j else old.getD j 0)
theorem mixK_len (f : Nat → Int) (old : List Int) (k : Nat) : (mixK f old k).length = old.length := by simp [mixK]
theorem mixK_get {f : Nat → Int} {old : List Int} {k j : Nat} (h : j < old.length) : (mixK f old k).getD j 0 = if j < k then f j else old.getD j 0 := by
  unfold mixK; rw [List.getD_eq_getElem?_getD, List.getElem?_map, List.getElem?_range h]; rfl
theorem ext_getD {a b : List Int} (hl : a.length = b.length) (h : ∀ j, j < a.length → a.getD j 0 = b.getD j 0) : a = b := by
  apply List.ext_getElem hl
  intro j h1 h2
  have := h j h1
  simpa [List.getD_eq_getElem?_getD, List.getElem?_eq_getElem h1, List.getElem?_eq_getElem h2] using this
theorem mixK_zero (f : Nat → Int) (old : List Int) : mixK f old 0 = old :=
  ext_getD (mixK_len _ _ _) fun j hj => by rw [mixK_len] at hj; rw [mixK_get hj]; simp
theorem getD_set {a : List Int} {k j : Nat} {v : Int} (hj : j < a.length) : (a.set k v).getD j 0 = if k = j then v else a.getD j 0 := by
  simp only [List.getD_eq_getElem?_getD, List.getElem?_set, List.getElem?_eq_getElem hj]
  by_cases e : k = j
  · subst e; simp [hj]
  · simp [e]
theorem mixK_set {f : Nat → Int} {old : List Int} {k : Nat} (hk : k < old.length) {v : Int} (hv : v = f k) : (mixK f old k).set k v = mixK f old (k + 1) := by
  refine ext_getD (by simp [mixK_len]) fun j hj => ?_
  simp [mixK_len] at hj
  rw [getD_set (by rw [mixK_len]; exact hj), mixK_get hj, mixK_get hj]
  by_cases e : k = j
  · subst e; simp [hv]
  · rw [if_neg e]
    by_cases h : j < k
    · rw [if_pos h, if_pos (by omega)]
    · rw [if_neg h, if_neg (by omega)]
theorem mixK_skip {f : Nat → Int} {old : List Int} {k : Nat} (hv : f k = old.getD k 0) : mixK f old k = mixK f old (k + 1) := by
  refine ext_getD (by simp [mixK_len]) fun j hj => ?_
  rw [mixK_len] at hj
  rw [mixK_get hj, mixK_get hj]
  by_cases e : j = k
  · subst e; simp [hv]
  · by_cases h : j < k
    · rw [if_pos h, if_pos (by omega)]
    · rw [if_neg h, if_neg (by omega)]
theorem mixK_end (f : Nat → Int) (old : List Int) : mixK f old old.length = (List.range old.length).map f :=
  ext_getD (by simp [mixK_len]) fun j hj => by
    rw [mixK_len] at hj
    rw [mixK_get hj, if_pos hj, List.getD_eq_getElem?_getD, List.getElem?_map, List.getElem?_range hj]; rfl
def zeros (n : Nat) : List Int := List.replicate n 0
theorem zeros_len (n : Nat) : (zeros n).length = n := by simp [zeros]
theorem zeros_get (n j : Nat) : (zeros n).getD j 0 = 0 := by
  unfold zeros; rw [List.getD_eq_getElem?_getD, List.getElem?_replicate]; split <;> rfl
theorem szF_none (l : List It) : (List.range (zeros l.length).length).map (fun k => sz0 (l.getD k it0)) = szF l (fun _ => false) := by
  rw [zeros_len]; unfold szF; simp
/-- What a call leaves that answers a new row of numbers. -/
def RowP (xs : List Int) (w : World) (e : Ending) (w' : World) : Prop := ∃ g, e = .returned (.slice (some ⟨g, 0, none⟩) xs.length xs.length) ∧ IRow w.heap.size w' g xs ∧ Fr (fun _ => False) w w'
theorem rowP_of {xs ys : List Int} {w w' : World} {g n : Nat} (h : IRow w.heap.size w' g xs) (hf : Fr (fun _ => False) w w') (e : xs = ys) (hn : n = ys.length) : RowP ys w (.returned (.slice (some ⟨g, 0, none⟩) n n)) w' := by
  subst e; subst hn; exact ⟨g, rfl, h, hf⟩
def szk (l : List It) (k : Nat) : Int := sz0 (l.getD k it0)
/-- The row that is filled, between rounds. -/
structure Fil (w wr : World) (g : Nat) (f : Nat → Int) (old : List Int) (k : Nat) : Prop where
  row : IRow w.heap.size wr g (mixK f old k)
  fr : Fr (fun _ => False) w wr
theorem Fil.keep {w wr w2 : World} {g : Nat} {f : Nat → Int} {old : List Int} {k : Nat} (h : Fil w wr g f old k) (hf : Fr (fun _ => False) wr w2) : Fil w w2 g f old k := ⟨h.row.fr hf id, h.fr.trans hf⟩
theorem Fil.skip {w wr w2 : World} {g : Nat} {f : Nat → Int} {old : List Int} {k : Nat} (h : Fil w wr g f old k) (hf : Fr (fun _ => False) wr w2) (hv : f k = old.getD k 0) : Fil w w2 g f old (k + 1) :=
  ⟨by rw [← mixK_skip hv]; exact h.row.fr hf id, h.fr.trans hf⟩
theorem Fil.set {w wr w2 : World} {g : Nat} {f : Nat → Int} {old : List Int} {k : Nat} {v : Int} (h : Fil w wr g f old k) (hf : Fr (fun _ => False) wr w2) (hk : k < old.length) (hv : v = f k) : Fil w (w2.setCell ⟨g, k, none⟩ (.int .i64 v)) g f old (k + 1) :=
  ⟨by rw [← mixK_set hk hv]; exact (h.row.fr hf id).set k v, fr_set (h.fr.trans hf) h.row.ge k _⟩
theorem Fil.init {w w1 : World} {g : Nat} {f : Nat → Int} {n : Nat} (h : w1.ownsRow w.heap.size 3 1 (.slice (some ⟨g, 0, none⟩) n n) n (madeCells (Value.int .i64 0).cells (n * 1)).toList) (hf : Fr (fun _ => False) w w1) : Fil w w1 g f (zeros n) 0 := by
  rw [made_zero] at h
  exact ⟨by rw [mixK_zero]; exact IRow.of_own h, hf⟩
theorem Fil.cell {w wr w2 : World} {g : Nat} {f : Nat → Int} {old : List Int} {k : Nat} (h : Fil w wr g f old k) (hf : Fr (fun _ => False) wr w2) (hk : k < old.length) : (∃ x, w2.cell? ⟨g, k, none⟩ = some x) ∧ w2.frozen? ⟨g, k, none⟩ = false ∧ g < w2.heap.size :=
  ⟨⟨_, (h.row.fr hf id).cell (by rw [mixK_len]; exact hk)⟩, (h.row.fr hf id).free k, (h.row.fr hf id).lt⟩
def itC (x : It) : Array Value := #[.int .i64 x.k, .int .i64 x.op, .int .i64 x.rd, .int .i64 x.r1, .int .i64 x.r2, .int .i64 x.imm, .int .i64 x.lab]
end Go.Proofs.Ytfnlhammjallfaa
