/-
  Tables of types (layer 8): the struct of a name with its fields placed.
-/
import Derived.Test.YtlhkhgkgjdfcgaaQKindR
import Derived.LoopTactic
import Derived.Deep.AppendLies
import Derived.Outline
namespace Go.Proofs.Ytlhkhgkgjdfcgaa
open Go.RowKit
set_option linter.unusedVariables false
set_option linter.unusedSimpArgs false
/-- What lies in the three blocks of a laying: the result's, the struct's, and the place's. -/
structure LayW (w W : World) (nm : ByteArray) (v : Value) (nx al : Int) : Prop where
  fr : Fr (fun _ => False) w W
  sz : w.heap.size + 3 ≤ W.heap.size
  r : ∀ j, j < 7 → (∃ x, W.cell? ⟨w.heap.size, j, none⟩ = some x) ∧ W.frozen? ⟨w.heap.size, j, none⟩ = false
  x0 : W.cell? ⟨w.heap.size + 1, 0, none⟩ = some (.int .i64 5)
  x1 : W.cell? ⟨w.heap.size + 1, 1, none⟩ = some (.int .i64 0)
  x2 : W.cell? ⟨w.heap.size + 1, 2, none⟩ = some (.int .i64 0)
  x3 : W.cell? ⟨w.heap.size + 1, 3, none⟩ = some (.string nm)
  x4 : W.cell? ⟨w.heap.size + 1, 4, none⟩ = some v
  x5 : W.cell? ⟨w.heap.size + 1, 5, none⟩ = some (.int .i64 0)
  x6 : W.cell? ⟨w.heap.size + 1, 6, none⟩ = some (.int .i64 al)
  xf : ∀ j, j < 7 → W.frozen? ⟨w.heap.size + 1, j, none⟩ = false
  p0 : W.cell? ⟨w.heap.size + 1 + 1, 0, none⟩ = some (.int .i64 nx)
  pf : W.frozen? ⟨w.heap.size + 1 + 1, 0, none⟩ = false
theorem LayW.kept {w W W' : World} {nm : ByteArray} {v : Value} {nx al : Int} {F : Nat → Prop} (h : LayW w W nm v nx al) (hf : Fr F W W') (hn : ∀ k, k < w.heap.size + 3 → ¬ F k) : LayW w W' nm v nx al :=
  ⟨h.fr.trans' hf (fun j hj e => hn j (by omega) e), Nat.le_trans h.sz hf.size,
    fun j hj => ⟨(h.r j hj).1.elim fun x hx => ⟨x, hf.cell hx (hn _ (by simp))⟩, (h.r j hj).1.elim fun x hx => (hf.frozen hx (hn _ (by simp))).trans (h.r j hj).2⟩,
    hf.cell h.x0 (hn _ (by simp)), hf.cell h.x1 (hn _ (by simp)), hf.cell h.x2 (hn _ (by simp)), hf.cell h.x3 (hn _ (by simp)), hf.cell h.x4 (hn _ (by simp)), hf.cell h.x5 (hn _ (by simp)), hf.cell h.x6 (hn _ (by simp)),
    fun j hj => by
      match j, hj with
      | 0, _ => exact (hf.frozen h.x0 (hn _ (by simp))).trans (h.xf 0 (by decide))
      | 1, _ => exact (hf.frozen h.x1 (hn _ (by simp))).trans (h.xf 1 (by decide))
      | 2, _ => exact (hf.frozen h.x2 (hn _ (by simp))).trans (h.xf 2 (by decide))
      | 3, _ => exact (hf.frozen h.x3 (hn _ (by simp))).trans (h.xf 3 (by decide))
      | 4, _ => exact (hf.frozen h.x4 (hn _ (by simp))).trans (h.xf 4 (by decide))
      | 5, _ => exact (hf.frozen h.x5 (hn _ (by simp))).trans (h.xf 5 (by decide))
      | 6, _ => exact (hf.frozen h.x6 (hn _ (by simp))).trans (h.xf 6 (by decide)),
    hf.cell h.p0 (hn _ (by simp)), (hf.frozen h.p0 (hn _ (by simp))).trans h.pf⟩
theorem cell_far {w : World} {a b : Nat} {i j : Nat} {v x : Value} (h : w.cell? ⟨a, j, none⟩ = some x) (hne : a ≠ b) : (w.setCell ⟨b, i, none⟩ v).cell? ⟨a, j, none⟩ = some x :=
  (World.cell?_setCell_other _ _ _ _ (fun e => hne (by injection e with q; exact q.symm))).trans h
theorem LayW.setP {w W : World} {nm : ByteArray} {v : Value} {nx al : Int} (h : LayW w W nm v nx al) (nx' : Int) : LayW w (W.setCell ⟨w.heap.size + 1 + 1, 0, none⟩ (.int .i64 nx')) nm v nx' al :=
  ⟨fr_set h.fr (by omega) _ _, by simpa [World.setCell] using h.sz,
    fun j hj => ⟨(h.r j hj).1.elim fun x hx => ⟨x, cell_far hx (by omega)⟩, (World.frozen?_setCell _ _ _ _).trans (h.r j hj).2⟩,
    cell_far h.x0 (by omega), cell_far h.x1 (by omega), cell_far h.x2 (by omega), cell_far h.x3 (by omega), cell_far h.x4 (by omega), cell_far h.x5 (by omega), cell_far h.x6 (by omega),
    fun j hj => (World.frozen?_setCell _ _ _ _).trans (h.xf j hj), World.cell?_setCell_same _ _ _ h.p0, (World.frozen?_setCell _ _ _ _).trans h.pf⟩
theorem LayW.setV {w W : World} {nm : ByteArray} {v : Value} {nx al : Int} (h : LayW w W nm v nx al) (v' : Value) : LayW w (W.setCell ⟨w.heap.size + 1, 4, none⟩ v') nm v' nx al :=
  ⟨fr_set h.fr (by omega) _ _, by simpa [World.setCell] using h.sz,
    fun j hj => ⟨(h.r j hj).1.elim fun x hx => ⟨x, cell_far hx (by omega)⟩, (World.frozen?_setCell _ _ _ _).trans (h.r j hj).2⟩,
    set_keep h.x0 (by decide), set_keep h.x1 (by decide), set_keep h.x2 (by decide), set_keep h.x3 (by decide), World.cell?_setCell_same _ _ _ h.x4, set_keep h.x5 (by decide), set_keep h.x6 (by decide),
    fun j hj => (World.frozen?_setCell _ _ _ _).trans (h.xf j hj), cell_far h.p0 (by omega), (World.frozen?_setCell _ _ _ _).trans h.pf⟩
theorem LayW.setA {w W : World} {nm : ByteArray} {v : Value} {nx al : Int} (h : LayW w W nm v nx al) (al' : Int) : LayW w (W.setCell ⟨w.heap.size + 1, 6, none⟩ (.int .i64 al')) nm v nx al' :=
  ⟨fr_set h.fr (by omega) _ _, by simpa [World.setCell] using h.sz,
    fun j hj => ⟨(h.r j hj).1.elim fun x hx => ⟨x, cell_far hx (by omega)⟩, (World.frozen?_setCell _ _ _ _).trans (h.r j hj).2⟩,
    set_keep h.x0 (by decide), set_keep h.x1 (by decide), set_keep h.x2 (by decide), set_keep h.x3 (by decide), set_keep h.x4 (by decide), set_keep h.x5 (by decide), World.cell?_setCell_same _ _ _ h.x6,
    fun j hj => (World.frozen?_setCell _ _ _ _).trans (h.xf j hj), cell_far h.p0 (by omega), (World.frozen?_setCell _ _ _ _).trans h.pf⟩
def zerosE : Array Value := #[.int .i64 0, .int .i64 0, .int .i64 0, .string ⟨#[]⟩, .slice none 0 0, .int .i64 0, .int .i64 0]
def layE (nm : ByteArray) : Array Value := #[.int .i64 5, .int .i64 0, .int .i64 0, .string nm, .slice none 0 0, .int .i64 0, .int .i64 0]
theorem LayW.start (w : World) (nm : ByteArray) : LayW w (((w.alloc (.cells zerosE 72)).alloc (.cells (layE nm) 72)).alloc (.cells #[.int .i64 0] 3)) nm (.slice none 0 0) 0 0 := by
  have f1 : Fr (fun _ => False) w (w.alloc (.cells zerosE 72)) := fr_al (Fr.refl _ _) _
  have s1 : (w.alloc (.cells zerosE 72)).heap.size = w.heap.size + 1 := by simp
  obtain ⟨w1, h1⟩ : ∃ w1, w1 = w.alloc (.cells zerosE 72) := ⟨_, rfl⟩
  rw [← h1] at f1 s1 ⊢
  have f2 : Fr (fun _ => False) w1 (w1.alloc (.cells (layE nm) 72)) := fr_al (Fr.refl _ _) _
  have s2 : (w1.alloc (.cells (layE nm) 72)).heap.size = w1.heap.size + 1 := by simp
  have c2 : ∀ j x, (layE nm)[j]? = some x → (w1.alloc (.cells (layE nm) 72)).cell? ⟨w1.heap.size, j, none⟩ = some x := fun j x hx => fcell w1 _ _ j _ hx
  have z2 : ∀ j, (w1.alloc (.cells (layE nm) 72)).frozen? ⟨w1.heap.size, j, none⟩ = false := fun j => World.frozen?_alloc_new _ _ _ _
  obtain ⟨w2, h2⟩ : ∃ w2, w2 = w1.alloc (.cells (layE nm) 72) := ⟨_, rfl⟩
  rw [← h2] at f2 s2 c2 ⊢
  have z2' : ∀ j, w2.frozen? ⟨w1.heap.size, j, none⟩ = false := fun j => by rw [h2]; exact z2 j
  have f3 : Fr (fun _ => False) w2 (w2.alloc (.cells #[.int .i64 0] 3)) := fr_al (Fr.refl _ _) _
  have c3 : (w2.alloc (.cells #[.int .i64 0] 3)).cell? ⟨w2.heap.size, 0, none⟩ = some (.int .i64 0) := fcell w2 _ _ 0 _ rfl
  have z3 : (w2.alloc (.cells #[.int .i64 0] 3)).frozen? ⟨w2.heap.size, 0, none⟩ = false := World.frozen?_alloc_new _ _ _ _
  have s3 : (w2.alloc (.cells #[.int .i64 0] 3)).heap.size = w2.heap.size + 1 := by simp
  rw [s1] at s2 c2 z2'
  rw [s2] at s3 c3 z3
  have k : ∀ j x, (layE nm)[j]? = some x → (w2.alloc (.cells #[.int .i64 0] 3)).cell? ⟨w.heap.size + 1, j, none⟩ = some x := fun j x hx => f3.cell (c2 j x hx) id
  refine ⟨(f1.trans f2).trans f3, by omega, fun j hj => ?_, k 0 _ rfl, k 1 _ rfl, k 2 _ rfl, k 3 _ rfl, k 4 _ rfl, k 5 _ rfl, k 6 _ rfl, fun j hj => ?_, c3, z3⟩
  · have hx : ∃ x, w1.cell? ⟨w.heap.size, j, none⟩ = some x := ⟨_, by rw [h1]; exact fcell w _ _ j _ (Array.getElem?_eq_getElem (by simpa [zerosE] using hj))⟩
    obtain ⟨x, hx⟩ := hx
    have hz : w1.frozen? ⟨w.heap.size, j, none⟩ = false := by rw [h1]; exact World.frozen?_alloc_new _ _ _ _
    exact ⟨⟨x, (f2.trans f3).cell hx id⟩, ((f2.trans f3).frozen hx id).trans hz⟩
  · have hx : ∃ x, (layE nm)[j]? = some x := ⟨_, Array.getElem?_eq_getElem (by simpa [layE] using hj)⟩
    obtain ⟨x, hx⟩ := hx
    exact (f3.frozen (c2 j x hx) id).trans (z2' j)
/-- One field more, placed. -/
def layA (al a : Int) : Int := if al < a then a else al
def layStep (es : List Ent) (s : Int × Int × List Fld) (f : Fld) : Int × Int × List Fld :=
  (upI s.1 (entF es f.type).align + (entF es f.type).size, layA s.2.1 (entF es f.type).align, s.2.2 ++ [⟨f.name, f.type, upI s.1 (entF es f.type).align⟩])
def layS (es : List Ent) (fs : List Fld) (k : Nat) : Int × Int × List Fld := (fs.take k).foldl (layStep es) (0, 0, [])
theorem layS_succ (es : List Ent) (fs : List Fld) (k : Nat) (hk : k < fs.length) : layS es fs (k + 1) = layStep es (layS es fs k) (fs.getD k fld0) := by
  unfold layS
  rw [List.take_add_one, List.getElem?_eq_getElem hk, List.foldl_append, List.getD_eq_getElem?_getD, List.getElem?_eq_getElem hk]
  rfl
/-- The types of these fields have sizes. -/
def Sized (es : List Ent) (fs : List Fld) : Prop := ∀ f ∈ fs, (1 ≤ (entF es f.type).size ∧ (entF es f.type).size ≤ 32768) ∧ 1 ≤ (entF es f.type).align ∧ (entF es f.type).align ≤ 4
theorem getD_mem {fs : List Fld} {k : Nat} (hk : k < fs.length) : fs.getD k fld0 ∈ fs := by
  rw [List.getD_eq_getElem?_getD, List.getElem?_eq_getElem hk]; exact List.getElem_mem hk
theorem layS_bound {es : List Ent} {fs : List Fld} (hs : Sized es fs) : ∀ k, k ≤ fs.length → 0 ≤ (layS es fs k).1 ∧ (layS es fs k).1 ≤ k * 40000 ∧ 0 ≤ (layS es fs k).2.1 ∧ (layS es fs k).2.1 ≤ 4 ∧ (0 < k → 1 ≤ (layS es fs k).2.1) ∧ (layS es fs k).2.2.length = k := by
  intro k
  induction k with
  | zero => intro _; simp [layS]
  | succ k ih =>
    intro hk
    obtain ⟨i0, i1, i2, i3, i4, i5⟩ := ih (by omega)
    obtain ⟨⟨b0, b1⟩, b2, b3⟩ := hs _ (getD_mem (by omega : k < fs.length))
    rw [layS_succ es fs k (by omega)]
    have u1 := upI_le (n := (layS es fs k).1) b2
    have u2 := upI_ge (n := (layS es fs k).1) b2
    simp only [layStep, layA]
    refine ⟨by omega, by push_cast; omega, by split <;> omega, by split <;> omega, fun _ => by split <;> omega, by simp [i5]⟩
end Go.Proofs.Ytlhkhgkgjdfcgaa
