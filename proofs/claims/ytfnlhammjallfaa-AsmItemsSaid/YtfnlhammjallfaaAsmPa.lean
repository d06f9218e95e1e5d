/-
  Items (layer 5): what settle has made before its first round, in each order.
-/
import Derived.Test.YtfnlhammjallfaaAsmO
import Derived.Test.YtfnlhammjallfaaAsmG
namespace Go.Proofs.Ytfnlhammjallfaa
open Go.RowKit
set_option linter.unusedVariables false
set_option linter.unusedSimpArgs false
/-- The placement is made: its sizes, its places, itself. -/
structure R1 (w W : World) (SZ : List Int) (sa sg : Value) (n gs ga b : Nat) (wf : World) : Prop where
  sz : IRow w.heap.size wf gs SZ
  at_ : IRow w.heap.size wf ga (zeros n)
  box : wf.heap[b]? = some (.cells #[sa, sg, .slice (some ⟨gs, 0, none⟩) n n, .slice (some ⟨ga, 0, none⟩) n n] 71 (0, 0))
  n1 : gs ≠ ga
  n2 : gs ≠ b
  n3 : ga ≠ b
  g1 : W.heap.size ≤ gs
  g2 : W.heap.size ≤ ga
  g3 : W.heap.size ≤ b
  fr : Fr (fun _ => False) W wf
abbrev madeO (n : Nat) : Obj := .cells (madeCells #[.int .i64 0] n) 3
abbrev boxO (v0 v1 v2 v3 : Value) : Obj := .cells #[v0, v1, v2, v3] 71
theorem made_arr (n : Nat) : madeCells #[Value.int .i64 0] n = (ints (zeros n)).toArray := by
  have := made_zero n
  simp only [Value.cells, Nat.mul_one] at this
  rw [zeros, ← this]
theorem madeO_is (n : Nat) : madeO n = .cells (ints (zeros n)).toArray 3 := by unfold madeO; rw [made_arr]
theorem set_same {w : World} {b i : Nat} {cs : Array Value} {t : TypeId} (v : Value) (h : w.heap[b]? = some (.cells cs t (0, 0))) : (w.setCell ⟨b, i, none⟩ v).heap[b]? = some (.cells (cs.setIfInBounds i v) t (0, 0)) := heap_setCell_same w b i cs t v h
def set4 (w : World) (b : Nat) (v0 v1 v2 v3 : Value) : World := (((w.setCell ⟨b, 0, none⟩ v0).setCell ⟨b, 1, none⟩ v1).setCell ⟨b, 2, none⟩ v2).setCell ⟨b, 3, none⟩ v3
theorem set4_same {w : World} {b : Nat} {z0 z1 z2 z3 : Value} {t : TypeId} (v0 v1 v2 v3 : Value) (h : w.heap[b]? = some (.cells #[z0, z1, z2, z3] t (0, 0))) : (set4 w b v0 v1 v2 v3).heap[b]? = some (.cells #[v0, v1, v2, v3] t (0, 0)) := by
  have := set_same (i := 3) v3 (set_same (i := 2) v2 (set_same (i := 1) v1 (set_same (i := 0) v0 h)))
  simpa [set4] using this
theorem set4_other {w : World} {b k : Nat} (v0 v1 v2 v3 : Value) (h : k ≠ b) : (set4 w b v0 v1 v2 v3).heap[k]? = w.heap[k]? := by
  unfold set4
  rw [heap_setCell_other _ _ _ _ h, heap_setCell_other _ _ _ _ h, heap_setCell_other _ _ _ _ h, heap_setCell_other _ _ _ _ h]
theorem set4_size (w : World) (b : Nat) (v0 v1 v2 v3 : Value) : (set4 w b v0 v1 v2 v3).heap.size = w.heap.size := by simp [set4, World.setCell]
theorem set4_fr {W w : World} (h : Fr (fun _ => False) W w) {b : Nat} (hb : W.heap.size ≤ b) (v0 v1 v2 v3 : Value) : Fr (fun _ => False) W (set4 w b v0 v1 v2 v3) :=
  fr_set (fr_set (fr_set (fr_set h hb 0 v0) hb 1 v1) hb 2 v2) hb 3 v3
section
variable {w W w3 : World} {SZ : List Int} {sa sg z0 z1 z2 z3 : Value} {n gs : Nat}
theorem R1a (hw : w.heap.size ≤ W.heap.size) (hrow : IRow (W).drew.heap.size w3 gs SZ) (hf : Fr (fun _ => False) (W).drew w3) :
    R1 w W SZ sa sg n gs w3.heap.size (w3.heap.size + 1) ((w3.alloc (madeO n)).alloc (boxO sa sg (.slice (some ⟨gs, 0, none⟩) n n) (.slice (some ⟨w3.heap.size, 0, none⟩) n n))) := by
  change IRow (W).heap.size w3 gs SZ at hrow
  replace hf : Fr (fun _ => False) (W) w3 := ⟨hf.os, hf.output, hf.size, hf.block⟩
  have h1 := hrow.lt; have h2 := hrow.ge; have h3 := hf.size
  refine ⟨⟨?_, by omega⟩, ⟨?_, by omega⟩, ?_, by omega, by omega, by omega, h2, h3, by omega, fr_al (fr_al hf _) _⟩
  · rw [heap_alloc_old _ _ (by simp; omega), heap_alloc_old _ _ h1]; exact hrow.heap
  · rw [heap_alloc_old _ _ (by simp), heap_alloc_new, madeO_is]
  · have := heap_alloc_new (w3.alloc (madeO n)) (boxO sa sg (.slice (some ⟨gs, 0, none⟩) n n) (.slice (some ⟨w3.heap.size, 0, none⟩) n n))
    simpa using this
theorem R1b (hw : w.heap.size ≤ W.heap.size) (hrow : IRow (W).drew.heap.size w3 gs SZ) (hf : Fr (fun _ => False) (W).drew w3) :
    R1 w W SZ sa sg n gs (w3.heap.size + 1) w3.heap.size ((w3.alloc (boxO sa sg (.slice (some ⟨gs, 0, none⟩) n n) (.slice (some ⟨w3.heap.size + 1, 0, none⟩) n n))).alloc (madeO n)) := by
  change IRow (W).heap.size w3 gs SZ at hrow
  replace hf : Fr (fun _ => False) (W) w3 := ⟨hf.os, hf.output, hf.size, hf.block⟩
  have h1 := hrow.lt; have h2 := hrow.ge; have h3 := hf.size
  refine ⟨⟨?_, by omega⟩, ⟨?_, by omega⟩, ?_, by omega, by omega, by omega, h2, by omega, h3, fr_al (fr_al hf _) _⟩
  · rw [heap_alloc_old _ _ (by simp; omega), heap_alloc_old _ _ h1]; exact hrow.heap
  · have := heap_alloc_new (w3.alloc (boxO sa sg (.slice (some ⟨gs, 0, none⟩) n n) (.slice (some ⟨w3.heap.size + 1, 0, none⟩) n n))) (madeO n)
    rw [madeO_is] at this ⊢
    simpa using this
  · rw [heap_alloc_old _ _ (by simp), heap_alloc_new]
theorem R1c (hw : w.heap.size ≤ W.heap.size) (hrow : IRow ((W.alloc (madeO n))).drew.heap.size w3 gs SZ) (hf : Fr (fun _ => False) ((W.alloc (madeO n))).drew w3) :
    R1 w W SZ sa sg n gs W.heap.size w3.heap.size (w3.alloc (boxO sa sg (.slice (some ⟨gs, 0, none⟩) n n) (.slice (some ⟨W.heap.size, 0, none⟩) n n))) := by
  change IRow ((W.alloc (madeO n))).heap.size w3 gs SZ at hrow
  replace hf : Fr (fun _ => False) ((W.alloc (madeO n))) w3 := ⟨hf.os, hf.output, hf.size, hf.block⟩
  have h1 := hrow.lt; have h2 := hrow.ge; have h3 := hf.size
  simp only [World.size_alloc] at h2 h3
  refine ⟨⟨?_, by omega⟩, ⟨?_, by omega⟩, ?_, by omega, by omega, by omega, by omega, by omega, by omega, fr_al ((fr_al (Fr.refl _ _) _).trans hf) _⟩
  · rw [heap_alloc_old _ _ h1]; exact hrow.heap
  · rw [heap_alloc_old _ _ (by omega), hf.block _ (alloc_lt _ _) id, heap_alloc_new, madeO_is]
  · rw [heap_alloc_new]
theorem R1d (hw : w.heap.size ≤ W.heap.size) (hrow : IRow (((W.alloc (madeO n)).alloc (boxO z0 z1 z2 z3))).drew.heap.size w3 gs SZ) (hf : Fr (fun _ => False) (((W.alloc (madeO n)).alloc (boxO z0 z1 z2 z3))).drew w3) :
    R1 w W SZ sa sg n gs W.heap.size (W.heap.size + 1) (set4 w3 (W.heap.size + 1) sa sg (.slice (some ⟨gs, 0, none⟩) n n) (.slice (some ⟨W.heap.size, 0, none⟩) n n)) := by
  change IRow (((W.alloc (madeO n)).alloc (boxO z0 z1 z2 z3))).heap.size w3 gs SZ at hrow
  replace hf : Fr (fun _ => False) (((W.alloc (madeO n)).alloc (boxO z0 z1 z2 z3))) w3 := ⟨hf.os, hf.output, hf.size, hf.block⟩
  have h1 := hrow.lt; have h2 := hrow.ge; have h3 := hf.size
  simp only [World.size_alloc] at h2 h3
  have hb : w3.heap[W.heap.size + 1]? = some (.cells #[z0, z1, z2, z3] 71 (0, 0)) := by
    rw [hf.block _ (by simp) id]
    have := heap_alloc_new (W.alloc (madeO n)) (boxO z0 z1 z2 z3)
    simpa using this
  refine ⟨⟨?_, by omega⟩, ⟨?_, by omega⟩, ?_, by omega, by omega, by omega, by omega, by omega, by omega, set4_fr ((fr_al (fr_al (Fr.refl _ _) _) _).trans hf) (by omega) _ _ _ _⟩
  · rw [set4_other _ _ _ _ (by omega)]; exact hrow.heap
  · rw [set4_other _ _ _ _ (by omega), hf.block _ (by simp; omega) id, heap_alloc_old _ _ (alloc_lt _ _), heap_alloc_new, madeO_is]
  · exact set4_same _ _ _ _ hb
theorem R1e (hw : w.heap.size ≤ W.heap.size) (hrow : IRow ((W.alloc (boxO z0 z1 z2 z3))).drew.heap.size w3 gs SZ) (hf : Fr (fun _ => False) ((W.alloc (boxO z0 z1 z2 z3))).drew w3) :
    R1 w W SZ sa sg n gs w3.heap.size W.heap.size ((set4 w3 W.heap.size sa sg (.slice (some ⟨gs, 0, none⟩) n n) (.slice (some ⟨w3.heap.size, 0, none⟩) n n)).alloc (madeO n)) := by
  change IRow ((W.alloc (boxO z0 z1 z2 z3))).heap.size w3 gs SZ at hrow
  replace hf : Fr (fun _ => False) ((W.alloc (boxO z0 z1 z2 z3))) w3 := ⟨hf.os, hf.output, hf.size, hf.block⟩
  have h1 := hrow.lt; have h2 := hrow.ge; have h3 := hf.size
  simp only [World.size_alloc] at h2 h3
  have hb : w3.heap[W.heap.size]? = some (.cells #[z0, z1, z2, z3] 71 (0, 0)) := by
    rw [hf.block _ (alloc_lt _ _) id, heap_alloc_new]
  refine ⟨⟨?_, by omega⟩, ⟨?_, by omega⟩, ?_, by omega, by omega, by omega, by omega, by omega, by omega, fr_al (set4_fr ((fr_al (Fr.refl _ _) _).trans hf) (by omega) _ _ _ _) _⟩
  · rw [heap_alloc_old _ _ (by rw [set4_size]; exact h1), set4_other _ _ _ _ (by omega)]; exact hrow.heap
  · have := heap_alloc_new (set4 w3 W.heap.size sa sg (.slice (some ⟨gs, 0, none⟩) n n) (.slice (some ⟨w3.heap.size, 0, none⟩) n n)) (madeO n)
    rw [set4_size] at this
    rw [this, madeO_is]
  · rw [heap_alloc_old _ _ (by rw [set4_size]; omega)]; exact set4_same _ _ _ _ hb
theorem R1f (hw : w.heap.size ≤ W.heap.size) (hrow : IRow (((W.alloc (boxO z0 z1 z2 z3)).alloc (madeO n))).drew.heap.size w3 gs SZ) (hf : Fr (fun _ => False) (((W.alloc (boxO z0 z1 z2 z3)).alloc (madeO n))).drew w3) :
    R1 w W SZ sa sg n gs (W.heap.size + 1) W.heap.size (set4 w3 W.heap.size sa sg (.slice (some ⟨gs, 0, none⟩) n n) (.slice (some ⟨W.heap.size + 1, 0, none⟩) n n)) := by
  change IRow (((W.alloc (boxO z0 z1 z2 z3)).alloc (madeO n))).heap.size w3 gs SZ at hrow
  replace hf : Fr (fun _ => False) (((W.alloc (boxO z0 z1 z2 z3)).alloc (madeO n))) w3 := ⟨hf.os, hf.output, hf.size, hf.block⟩
  have h1 := hrow.lt; have h2 := hrow.ge; have h3 := hf.size
  simp only [World.size_alloc] at h2 h3
  have hb : w3.heap[W.heap.size]? = some (.cells #[z0, z1, z2, z3] 71 (0, 0)) := by
    rw [hf.block _ (by simp; omega) id, heap_alloc_old _ _ (alloc_lt _ _), heap_alloc_new]
  refine ⟨⟨?_, by omega⟩, ⟨?_, by omega⟩, ?_, by omega, by omega, by omega, by omega, by omega, by omega, set4_fr ((fr_al (fr_al (Fr.refl _ _) _) _).trans hf) (by omega) _ _ _ _⟩
  · rw [set4_other _ _ _ _ (by omega)]; exact hrow.heap
  · rw [set4_other _ _ _ _ (by omega), hf.block _ (by simp) id]
    have := heap_alloc_new (W.alloc (boxO z0 z1 z2 z3)) (madeO n)
    rw [madeO_is] at this ⊢
    simpa using this
  · exact set4_same _ _ _ _ hb
end
end Go.Proofs.Ytfnlhammjallfaa
