/-
  Items (layer 5): what settle has made before its first round, in each order. Items (layer 5): the contract of settle. Items (layer 5): the contract of settle, walked.
-/
import Derived.Test.YtnjlcimeaoedcaaQAsmN
import Derived.Test.YtnjlcimeaoedcaaQAsmR
import Derived.ScopeJumps
import Derived.WalkMore
import Derived.Deep.DeepCutAuto
namespace Go.Proofs.Ytnjlcimeaoedcaa
open Go.RowKit
set_option linter.unusedVariables false
set_option linter.unusedSimpArgs false
/-- The placement is made: its sizes, its places, itself. -/
structure R1 (w W : World) (SZ : List Int) (sa sg : Value) (n gs ga b : Nat) (wf : World) : Prop where
  sz : IRow w.heap.size wf gs SZ
  at_ : IRow w.heap.size wf ga (zeros n)
  box : wf.heap[b]? = some (.cells #[sa, sg, .slice (some ⟨gs, 0, none⟩) n n, .slice (some ⟨ga, 0, none⟩) n n] 58 (0, 0))
  n1 : gs ≠ ga
  n2 : gs ≠ b
  n3 : ga ≠ b
  g1 : W.heap.size ≤ gs
  g2 : W.heap.size ≤ ga
  g3 : W.heap.size ≤ b
  fr : Fr (fun _ => False) W wf
abbrev madeO (n : Nat) : Obj := .cells (madeCells #[.int .i64 0] n) 3
abbrev boxO (v0 v1 v2 v3 : Value) : Obj := .cells #[v0, v1, v2, v3] 58
theorem made_arr (n : Nat) : madeCells #[Value.int .i64 0] n = (ints (zeros n)).toArray := by
  have := made_zero n
  simp only [Value.cells, Nat.mul_one] at this
  rw [zeros, ← this]
theorem madeO_is (n : Nat) : madeO n = .cells (ints (zeros n)).toArray 3 := by unfold madeO; rw [made_arr]
theorem set_same {w : World} {b i : Nat} {cs : Array Value} {t : TypeId} (v : Value) (h : w.heap[b]? = some (.cells cs t (0, 0))) : (w.setCell ⟨b, i, none⟩ v).heap[b]? = some (.cells (cs.setIfInBounds i v) t (0, 0)) := heap_setCell_same w b i cs t v h
def set4 (w : World) (b : Nat) (v0 v1 v2 v3 : Value) : World := (((w.setCell ⟨b, 0, none⟩ v0).setCell ⟨b, 1, none⟩ v1).setCell ⟨b, 2, none⟩ v2).setCell ⟨b, 3, none⟩ v3
theorem set4_same {w : World} {b : Nat} {z0 z1 z2 z3 : Value} {t : TypeId} (v0 v1 v2 v3 : Value) (h : w.heap[b]? = some (.cells #[z0, z1, z2, z3] t (0, 0))) : (set4 w b v0 v1 v2 v3).heap[b]? = some (.cells #[v0, v1, v2, v3] t (0, 0)) := by
  have := set_same (i := 3) v3 (set_same (i := 2) v2 (set_same (i := 1) v1 (set_same (i := 0) v0 h)))
  simpa [set4] using this
theorem set4_other {w : World} {b k : Nat} (v0 v1 v2 v3 : Value) (h : k ≠ b) : (set4 w b v0 v1 v2 v3).heap[k]? = w.heap[k]? := by
  unfold set4
  rw [heap_setCell_other _ _ _ _ h, heap_setCell_other _ _ _ _ h, heap_setCell_other _ _ _ _ h, heap_setCell_other _ _ _ _ h]
theorem set4_size (w : World) (b : Nat) (v0 v1 v2 v3 : Value) : (set4 w b v0 v1 v2 v3).heap.size = w.heap.size := by simp [set4, World.setCell]
theorem set4_fr {W w : World} (h : Fr (fun _ => False) W w) {b : Nat} (hb : W.heap.size ≤ b) (v0 v1 v2 v3 : Value) : Fr (fun _ => False) W (set4 w b v0 v1 v2 v3) :=
  fr_set (fr_set (fr_set (fr_set h hb 0 v0) hb 1 v1) hb 2 v2) hb 3 v3
section
variable {w W w3 : World} {SZ : List Int} {sa sg z0 z1 z2 z3 : Value} {n gs : Nat}
theorem R1a (hw : w.heap.size ≤ W.heap.size) (hrow : IRow (W).drew.heap.size w3 gs SZ) (hf : Fr (fun _ => False) (W).drew w3) :
    R1 w W SZ sa sg n gs w3.heap.size (w3.heap.size + 1) ((w3.alloc (madeO n)).alloc (boxO sa sg (.slice (some ⟨gs, 0, none⟩) n n) (.slice (some ⟨w3.heap.size, 0, none⟩) n n))) := by
  change IRow (W).heap.size w3 gs SZ at hrow
  replace hf : Fr (fun _ => False) (W) w3 := ⟨hf.os, hf.output, hf.size, hf.block⟩
  have h1 := hrow.lt; have h2 := hrow.ge; have h3 := hf.size
  refine ⟨⟨?_, by omega⟩, ⟨?_, by omega⟩, ?_, by omega, by omega, by omega, h2, h3, by omega, fr_al (fr_al hf _) _⟩
  · rw [heap_alloc_old _ _ (by simp; omega), heap_alloc_old _ _ h1]; exact hrow.heap
  · rw [heap_alloc_old _ _ (by simp), heap_alloc_new, madeO_is]
  · have := heap_alloc_new (w3.alloc (madeO n)) (boxO sa sg (.slice (some ⟨gs, 0, none⟩) n n) (.slice (some ⟨w3.heap.size, 0, none⟩) n n))
    simpa using this
theorem R1b (hw : w.heap.size ≤ W.heap.size) (hrow : IRow (W).drew.heap.size w3 gs SZ) (hf : Fr (fun _ => False) (W).drew w3) :
    R1 w W SZ sa sg n gs (w3.heap.size + 1) w3.heap.size ((w3.alloc (boxO sa sg (.slice (some ⟨gs, 0, none⟩) n n) (.slice (some ⟨w3.heap.size + 1, 0, none⟩) n n))).alloc (madeO n)) := by
  change IRow (W).heap.size w3 gs SZ at hrow
  replace hf : Fr (fun _ => False) (W) w3 := ⟨hf.os, hf.output, hf.size, hf.block⟩
  have h1 := hrow.lt; have h2 := hrow.ge; have h3 := hf.size
  refine ⟨⟨?_, by omega⟩, ⟨?_, by omega⟩, ?_, by omega, by omega, by omega, h2, by omega, h3, fr_al (fr_al hf _) _⟩
  · rw [heap_alloc_old _ _ (by simp; omega), heap_alloc_old _ _ h1]; exact hrow.heap
  · have := heap_alloc_new (w3.alloc (boxO sa sg (.slice (some ⟨gs, 0, none⟩) n n) (.slice (some ⟨w3.heap.size + 1, 0, none⟩) n n))) (madeO n)
    rw [madeO_is] at this ⊢
    simpa using this
  · rw [heap_alloc_old _ _ (by simp), heap_alloc_new]
theorem R1c (hw : w.heap.size ≤ W.heap.size) (hrow : IRow ((W.alloc (madeO n))).drew.heap.size w3 gs SZ) (hf : Fr (fun _ => False) ((W.alloc (madeO n))).drew w3) :
    R1 w W SZ sa sg n gs W.heap.size w3.heap.size (w3.alloc (boxO sa sg (.slice (some ⟨gs, 0, none⟩) n n) (.slice (some ⟨W.heap.size, 0, none⟩) n n))) := by
  change IRow ((W.alloc (madeO n))).heap.size w3 gs SZ at hrow
  replace hf : Fr (fun _ => False) ((W.alloc (madeO n))) w3 := ⟨hf.os, hf.output, hf.size, hf.block⟩
  have h1 := hrow.lt; have h2 := hrow.ge; have h3 := hf.size
  simp only [World.size_alloc] at h2 h3
  refine ⟨⟨?_, by omega⟩, ⟨?_, by omega⟩, ?_, by omega, by omega, by omega, by omega, by omega, by omega, fr_al ((fr_al (Fr.refl _ _) _).trans hf) _⟩
  · rw [heap_alloc_old _ _ h1]; exact hrow.heap
  · rw [heap_alloc_old _ _ (by omega), hf.block _ (alloc_lt _ _) id, heap_alloc_new, madeO_is]
  · rw [heap_alloc_new]
theorem R1d (hw : w.heap.size ≤ W.heap.size) (hrow : IRow (((W.alloc (madeO n)).alloc (boxO z0 z1 z2 z3))).drew.heap.size w3 gs SZ) (hf : Fr (fun _ => False) (((W.alloc (madeO n)).alloc (boxO z0 z1 z2 z3))).drew w3) :
    R1 w W SZ sa sg n gs W.heap.size (W.heap.size + 1) (set4 w3 (W.heap.size + 1) sa sg (.slice (some ⟨gs, 0, none⟩) n n) (.slice (some ⟨W.heap.size, 0, none⟩) n n)) := by
  change IRow (((W.alloc (madeO n)).alloc (boxO z0 z1 z2 z3))).heap.size w3 gs SZ at hrow
  replace hf : Fr (fun _ => False) (((W.alloc (madeO n)).alloc (boxO z0 z1 z2 z3))) w3 := ⟨hf.os, hf.output, hf.size, hf.block⟩
  have h1 := hrow.lt; have h2 := hrow.ge; have h3 := hf.size
  simp only [World.size_alloc] at h2 h3
  have hb : w3.heap[W.heap.size + 1]? = some (.cells #[z0, z1, z2, z3] 58 (0, 0)) := by
    rw [hf.block _ (by simp) id]
    have := heap_alloc_new (W.alloc (madeO n)) (boxO z0 z1 z2 z3)
    simpa using this
  refine ⟨⟨?_, by omega⟩, ⟨?_, by omega⟩, ?_, by omega, by omega, by omega, by omega, by omega, by omega, set4_fr ((fr_al (fr_al (Fr.refl _ _) _) _).trans hf) (by omega) _ _ _ _⟩
  · rw [set4_other _ _ _ _ (by omega)]; exact hrow.heap
  · rw [set4_other _ _ _ _ (by omega), hf.block _ (by simp; omega) id, heap_alloc_old _ _ (alloc_lt _ _), heap_alloc_new, madeO_is]
  · exact set4_same _ _ _ _ hb
theorem R1e (hw : w.heap.size ≤ W.heap.size) (hrow : IRow ((W.alloc (boxO z0 z1 z2 z3))).drew.heap.size w3 gs SZ) (hf : Fr (fun _ => False) ((W.alloc (boxO z0 z1 z2 z3))).drew w3) :
    R1 w W SZ sa sg n gs w3.heap.size W.heap.size ((set4 w3 W.heap.size sa sg (.slice (some ⟨gs, 0, none⟩) n n) (.slice (some ⟨w3.heap.size, 0, none⟩) n n)).alloc (madeO n)) := by
  change IRow ((W.alloc (boxO z0 z1 z2 z3))).heap.size w3 gs SZ at hrow
  replace hf : Fr (fun _ => False) ((W.alloc (boxO z0 z1 z2 z3))) w3 := ⟨hf.os, hf.output, hf.size, hf.block⟩
  have h1 := hrow.lt; have h2 := hrow.ge; have h3 := hf.size
  simp only [World.size_alloc] at h2 h3
  have hb : w3.heap[W.heap.size]? = some (.cells #[z0, z1, z2, z3] 58 (0, 0)) := by
    rw [hf.block _ (alloc_lt _ _) id, heap_alloc_new]
  refine ⟨⟨?_, by omega⟩, ⟨?_, by omega⟩, ?_, by omega, by omega, by omega, by omega, by omega, by omega, fr_al (set4_fr ((fr_al (Fr.refl _ _) _).trans hf) (by omega) _ _ _ _) _⟩
  · rw [heap_alloc_old _ _ (by rw [set4_size]; exact h1), set4_other _ _ _ _ (by omega)]; exact hrow.heap
  · have := heap_alloc_new (set4 w3 W.heap.size sa sg (.slice (some ⟨gs, 0, none⟩) n n) (.slice (some ⟨w3.heap.size, 0, none⟩) n n)) (madeO n)
    rw [set4_size] at this
    rw [this, madeO_is]
  · rw [heap_alloc_old _ _ (by rw [set4_size]; omega)]; exact set4_same _ _ _ _ hb
theorem R1f (hw : w.heap.size ≤ W.heap.size) (hrow : IRow (((W.alloc (boxO z0 z1 z2 z3)).alloc (madeO n))).drew.heap.size w3 gs SZ) (hf : Fr (fun _ => False) (((W.alloc (boxO z0 z1 z2 z3)).alloc (madeO n))).drew w3) :
    R1 w W SZ sa sg n gs (W.heap.size + 1) W.heap.size (set4 w3 W.heap.size sa sg (.slice (some ⟨gs, 0, none⟩) n n) (.slice (some ⟨W.heap.size + 1, 0, none⟩) n n)) := by
  change IRow (((W.alloc (boxO z0 z1 z2 z3)).alloc (madeO n))).heap.size w3 gs SZ at hrow
  replace hf : Fr (fun _ => False) (((W.alloc (boxO z0 z1 z2 z3)).alloc (madeO n))) w3 := ⟨hf.os, hf.output, hf.size, hf.block⟩
  have h1 := hrow.lt; have h2 := hrow.ge; have h3 := hf.size
  simp only [World.size_alloc] at h2 h3
  have hb : w3.heap[W.heap.size]? = some (.cells #[z0, z1, z2, z3] 58 (0, 0)) := by
    rw [hf.block _ (by simp; omega) id, heap_alloc_old _ _ (alloc_lt _ _), heap_alloc_new]
  refine ⟨⟨?_, by omega⟩, ⟨?_, by omega⟩, ?_, by omega, by omega, by omega, by omega, by omega, by omega, set4_fr ((fr_al (fr_al (Fr.refl _ _) _) _).trans hf) (by omega) _ _ _ _⟩
  · rw [set4_other _ _ _ _ (by omega)]; exact hrow.heap
  · rw [set4_other _ _ _ _ (by omega), hf.block _ (by simp) id]
    have := heap_alloc_new (W.alloc (boxO z0 z1 z2 z3)) (madeO n)
    rw [madeO_is] at this ⊢
    simpa using this
  · exact set4_same _ _ _ _ hb
end
theorem frcell {w w' : World} (h : Fr (fun _ => False) w w') : (∀ b o, b < w.heap.size → w'.cell? ⟨b, o, none⟩ = w.cell? ⟨b, o, none⟩) ∧ (∀ b o, b < w.heap.size → w'.frozen? ⟨b, o, none⟩ = w.frozen? ⟨b, o, none⟩) :=
  ⟨fun b o hb => World.cell?_of_block (h.block b hb id), fun b o hb => World.frozen?_of_block (h.block b hb id)⟩
/-- At the label: so many rounds are done. -/
structure StJ (w : World) (l : List It) (goals : List Int) (sa sg : Value) (n r gs ga b : Nat) (v : Value) (i : Nat) (wr : World) : Prop where
  sz : IRow w.heap.size wr gs (szF l (farN l goals i))
  at_ : ∃ old, old.length = n ∧ IRow w.heap.size wr ga old
  box : wr.heap[b]? = some (.cells #[sa, sg, .slice (some ⟨gs, 0, none⟩) n n, .slice (some ⟨ga, 0, none⟩) n n] 58 (0, 0))
  res : wr.heap[r]? = some (.cells #[.slice none 0 0, .slice none 0 0, .slice none 0 0, .slice none 0 0] 58 (0, 0))
  num : NumAt w.heap.size wr v (natsI (nearF l (farN l goals i)))
  n1 : gs ≠ ga
  n2 : gs ≠ b
  n3 : ga ≠ b
  n4 : gs ≠ r
  n5 : ga ≠ r
  n6 : b ≠ r
  n7 : v.ownBlock ≠ some gs
  n8 : v.ownBlock ≠ some ga
  fr : Fr (fun _ => False) w wr
  down : ∀ j, j < i → (nearF l (farN l goals (j + 1))).length < (nearF l (farN l goals j)).length
/-- What settle leaves. -/
def SettleP (l : List It) (goals : List Int) (sa sg : Value) (n : Nat) (w : World) (e : Ending) (w' : World) : Prop :=
  ∃ gs ga, e = .returned (.agg #[sa, sg, .slice (some ⟨gs, 0, none⟩) n n, .slice (some ⟨ga, 0, none⟩) n n]) ∧ IRow w.heap.size w' gs (szF l (farE l goals)) ∧ IRow w.heap.size w' ga (atK (szF l (farE l goals))) ∧ Still l goals (farE l goals) ∧ Fr (fun _ => False) w w'
def lenOf : Value → Nat | .slice _ n _ => n | _ => 0
theorem NumAt.len {B : Nat} {w : World} {v : Value} {xs : List Int} (h : NumAt B w v xs) : lenOf v = xs.length := by
  obtain ⟨a, c, rfl, _⟩ := h.form; rfl
theorem natsI_length (l : List Nat) : (natsI l).length = l.length := by simp [natsI]
/-- The first time at the label. -/
theorem stj_first {w W w3 w4 : World} {l : List It} {goals : List Int} {sa sg v : Value} {n gs ga b : Nat} (hn : n = l.length) (hW : Fr (fun _ => False) w W) (hb : w.heap.size < W.heap.size) (hres : W.heap[w.heap.size]? = some (.cells #[.slice none 0 0, .slice none 0 0, .slice none 0 0, .slice none 0 0] 58 (0, 0)))
    (h : R1 w W (szF l (fun _ => false)) sa sg n gs ga b w3) (hnum : NumAt w3.heap.size w4 v (natsI (nearF l (fun _ => false)))) (hf : Fr (fun _ => False) w3 w4) : StJ w l goals sa sg n w.heap.size gs ga b v 0 w4 := by
  have b1 := h.sz.lt; have b2 := h.at_.lt; have g1 := h.g1; have g2 := h.g2; have g3 := h.g3; have hs := h.fr.size
  have hb3 := (Array.getElem?_eq_some_iff.1 h.box).1
  have own : ∀ k, v.ownBlock = some k → w3.heap.size ≤ k := fun k hk => (World.ownsRow.lt hnum k hk).1
  refine ⟨h.sz.fr hf id, ⟨zeros n, zeros_len n, h.at_.fr hf id⟩, (hf.block b hb3 id).trans h.box, ?_, hnum.mono (by omega), h.n1, h.n2, h.n3, by omega, by omega, by omega, fun e => ?_, fun e => ?_, hW.trans (h.fr.trans hf), fun j hj => by omega⟩
  · rw [hf.block _ (by omega) id, h.fr.block _ hb id]; exact hres
  · have := own _ e; omega
  · have := own _ e; omega
/-- One round more. -/
theorem StJ.next {w wr w5 w6 : World} {l : List It} {goals : List Int} {sa sg v v' : Value} {n gs ga b i : Nat} (h : StJ w l goals sa sg n w.heap.size gs ga b v i wr) (hn : n = l.length)
    (ha : IRow w.heap.size w5 ga (atK (szF l (farN l goals i)))) (h5 : Fr (fun j => j = ga) wr w5)
    (hnum : NumAt w5.heap.size w6 v' (natsI (nearF l (nextF l goals (farN l goals i))))) (hs : IRow w.heap.size w6 gs (szF l (nextF l goals (farN l goals i)))) (h6 : Fr (fun j => j = gs) w5 w6)
    (hlt : (nearF l (nextF l goals (farN l goals i))).length < (nearF l (farN l goals i)).length) : StJ w l goals sa sg n w.heap.size gs ga b v' (i + 1) w6 := by
  have hb3 := (Array.getElem?_eq_some_iff.1 h.box).1
  have hr3 := (Array.getElem?_eq_some_iff.1 h.res).1
  have s5 := h5.size
  have g5 := ha.lt
  have g6 := h.sz.lt
  have own : ∀ k, v'.ownBlock = some k → w5.heap.size ≤ k := fun k hk => (World.ownsRow.lt hnum k hk).1
  refine ⟨hs, ⟨_, by rw [atK_len, szF_len]; exact hn.symm, ha.fr h6 (fun e => h.n1 e.symm)⟩, ?_, ?_, hnum.mono (Nat.le_trans h.fr.size s5), h.n1, h.n2, h.n3, h.n4, h.n5, h.n6, fun e => ?_, fun e => ?_, ?_, fun j hj => ?_⟩
  · rw [h6.block _ (by omega) (fun e => h.n2 e.symm), h5.block _ hb3 (fun e => h.n3 e.symm)]; exact h.box
  · rw [h6.block _ (by omega) (fun e => h.n4 e.symm), h5.block _ hr3 (fun e => h.n5 e.symm)]; exact h.res
  · have := own _ e; omega
  · have := own _ e; omega
  · refine (h.fr.trans' h5 (fun j hj e => ?_)).trans' h6 (fun j hj e => ?_)
    · have := ha.ge; omega
    · have := h.sz.ge; omega
  · by_cases e : j = i
    · subst e; exact hlt
    · exact h.down j (by omega)
/-- The last round. -/
theorem StJ.last {w wr w5 w6 : World} {l : List It} {goals : List Int} {sa sg v : Value} {n gs ga b i : Nat} (h : StJ w l goals sa sg n w.heap.size gs ga b v i wr)
    (ha : IRow w.heap.size w5 ga (atK (szF l (farN l goals i)))) (h5 : Fr (fun j => j = ga) wr w5) (hs : IRow w.heap.size w6 gs (szF l (nextF l goals (farN l goals i)))) (h6 : Fr (fun j => j = gs) w5 w6)
    (hlt : ¬ (nearF l (nextF l goals (farN l goals i))).length < (nearF l (farN l goals i)).length) (v0 v1 v2 v3 : Value) :
    IRow w.heap.size (set4 w6 w.heap.size v0 v1 v2 v3) gs (szF l (farE l goals)) ∧ IRow w.heap.size (set4 w6 w.heap.size v0 v1 v2 v3) ga (atK (szF l (farE l goals))) ∧ Still l goals (farE l goals) ∧ Fr (fun _ => False) w (set4 w6 w.heap.size v0 v1 v2 v3) ∧
    (set4 w6 w.heap.size v0 v1 v2 v3).heap[w.heap.size]? = some (.cells #[v0, v1, v2, v3] 58 (0, 0)) := by
  have hst : Still l goals (farN l goals i) := still_of (by rw [← nearF_next]; exact hlt)
  have hd := near_down i h.down
  obtain ⟨e1, e2⟩ := farE_of (i := i) (by omega) hst
  have e3 : szF l (nextF l goals (farN l goals i)) = szF l (farN l goals i) := szF_congr fun k hk => next_still hst hk
  have hr3 := (Array.getElem?_eq_some_iff.1 h.res).1
  have s5 := h5.size
  have hres : w6.heap[w.heap.size]? = some (.cells #[.slice none 0 0, .slice none 0 0, .slice none 0 0, .slice none 0 0] 58 (0, 0)) := by
    rw [h6.block _ (by omega) (fun e => h.n4 e.symm), h5.block _ hr3 (fun e => h.n5 e.symm)]; exact h.res
  rw [e3, e1] at hs
  rw [e1] at ha
  refine ⟨⟨?_, hs.ge⟩, ⟨?_, ha.ge⟩, e2, ?_, set4_same _ _ _ _ hres⟩
  · rw [set4_other _ _ _ _ h.n4]; exact hs.heap
  · rw [set4_other _ _ _ _ h.n5]; exact (ha.fr h6 (fun e => h.n1 e.symm)).heap
  · refine set4_fr ((h.fr.trans' h5 (fun j hj e => ?_)).trans' h6 (fun j hj e => ?_)) (Nat.le_refl _) _ _ _ _
    · have := ha.ge; omega
    · have := hs.ge; omega
/-- The frame at the label. -/
def StA (w : World) (l : List It) (goals : List Int) (sa sg : Value) (n : Nat) (a' : Act) (w' : World) : Prop :=
  ∃ (gs ga b i : Nat) (v u7 u8 u9 u10 u11 u12 u13 u14 u15 u16 u17 u18 u19 u20 u21 u22 u23 u24 u25 u26 u27 u28 u29 : Value),
    a' = { tmps := #[sa, sg, undef, undef, .pointer (some ⟨w.heap.size, 0, none⟩), .pointer (some ⟨b, 0, none⟩), v, u7, u8, u9, u10, u11, u12, u13, u14, u15, u16, u17, u18, u19, u20, u21, u22, u23, u24, u25, u26, u27, u28, u29], defers := [] } ∧ Hid (StJ w l goals sa sg n w.heap.size gs ga b v i w')
set_option maxRecDepth 100000 in
set_option maxHeartbeats 16000000 in
theorem c21 (a : Option Addr) (n c gg : Nat) (l : List It) (goals : List Int) (hn : n = l.length) (hfew : n ≤ 32768) (hfit : Fit l) (hgl : goals.length = n) (hgo : Goals goals n) (w : World) (hat : ItAt w.heap.size w a l) (hrg : IRow 0 w gg goals) :
    Calls Try.prog 21 #[.slice a n c, .slice (some ⟨gg, 0, none⟩) n n] w (SettleP l goals (.slice a n c) (.slice (some ⟨gg, 0, none⟩) n n) n w) := by
  obtain ⟨i0, hi, hz0, hz1, hz2⟩ := info_parts infoI
  have HMK : ∀ w : World, (Instr.makeSlice 26 (.int .i64 (n : Int)) (.int .i64 (n : Int))).run Try.prog w = .ok (.slice (some ⟨w.heap.size, 0, none⟩) n n) (w.alloc (.cells (madeCells (Value.int .i64 0).cells (n * 1)) 3)) := fun w => by
    have := run_make w 26 3 i0 (.int .i64 0) Try.underlying26 hi hz0 .i64 .i64 (n : Int) (n : Int) (by omega) (by omega) (by rw [hz2]; omega) (by omega)
    simpa [hz1] using this
  have HLS : Hid (∀ w3, Fr (fun _ => False) w w3 → Calls Try.prog 40 #[.slice a n c] w3 (RowP (szF l (fun _ => false)) w3)) := Lib.hid (fun w3 hf => c40 a n c l hn hfew hfit w3 ((hat.fr hf (fun _ h => h.elim)).mono hf.size))
  have HBR : Hid (∀ w3, Fr (fun _ => False) w w3 → Calls Try.prog 41 #[.slice a n c] w3 (NumP (natsI (nearF l (fun _ => false))) w3)) := Lib.hid (fun w3 hf => c41 a n c l hn hfew w3 ((hat.fr hf (fun _ h => h.elim)).mono hf.size))
  have HLEN : Hid ((szF l (fun _ => false)).length = n) := Lib.hid (by rw [szF_len]; exact hn.symm)
  have HN := Lib.hid hn
  have HRG := Lib.hid hrg
  have HGL := Lib.hid hgl
  have HGO := Lib.hid hgo
  have hgg := hrg.lt
  clear hi hz0 hz1 hz2 hn hrg hgl hgo hat
  go_enter Try.func21, Try.ntmps21
  go_wp2
  refine wp_scope_jumps 0 (StA w l goals (.slice a n c) (.slice (some ⟨gg, 0, none⟩) n n) n) (fun a' _ => lenOf (a'.tmps.getD 6 undef)) rfl ?_ ?_
  · go_upto_region 1 with fail
    have F0 : Hid (Fr (fun _ => False) w (w.alloc (.cells #[.slice none 0 0, .slice none 0 0, .slice none 0 0, .slice none 0 0] 58))) := Lib.hid (fr_al (Fr.refl _ _) _)
    have hb : w.heap.size < (w.alloc (.cells #[.slice none 0 0, .slice none 0 0, .slice none 0 0, .slice none 0 0] 58)).heap.size := alloc_lt _ _
    have HR0 := Lib.hid (heap_alloc_new w (.cells #[.slice none 0 0, .slice none 0 0, .slice none 0 0, .slice none 0 0] 58))
    generalize w.alloc (.cells #[.slice none 0 0, .slice none 0 0, .slice none 0 0, .slice none 0 0] 58) = W at *
    go_cut [5] (fun s5 wx => ∃ gs ga b : Nat, s5 = .pointer (some ⟨b, 0, none⟩) ∧ Hid (R1 w W (szF l (fun _ => false)) (.slice a n c) (.slice (some ⟨gg, 0, none⟩) n n) n gs ga b wx))
    case first =>
      have FW : Fr (fun _ => False) W W := Fr.refl _ _
      go_region_held3 (fun w' => Fr (fun _ => False) W w')
        (first | exact FW | assumption | exact fr_al (by assumption) _ | exact fr_al (fr_al (by assumption) _) _ | exact fr_al (fr_al (fr_al (by assumption) _) _) _ | exact fr_set (fr_set (fr_set (fr_set (by assumption) (by omega) _ _) (by omega) _ _) (by omega) _ _) (by omega) _ _ | exact fr_al (fr_set (fr_set (fr_set (fr_set (by assumption) (by omega) _ _) (by omega) _ _) (by omega) _ _) (by omega) _ _) _ | exact Fr.drewN (by assumption) 1 | exact Fr.drewN (fr_al (by assumption) _) 1 | exact Fr.drewN (fr_al (fr_al (by assumption) _) _) 1)
        (first | (go_at_call 40; (with_reducible refine (HLS.out _ (Fr.trans F0.out (by assumption))).mono ?_); rintro e w3 ⟨gs, rfl, hrow, hf⟩; have hff : Fr (fun _ => False) W w3 := Fr.trans (by assumption) hf; have hsl := hrow.lt; have hs := hf.size; have hge := hrow.ge; have hW3 : W.heap.size < w3.heap.size := (by first | omega | (simp at hge; omega)); have hne := Nat.ne_of_lt hW3; obtain ⟨hc, hfz⟩ := frcell hf; rw [HLEN.out]))
      all_goals
        go_wp2_with fail
        go_meet
        first
          | exact ⟨_, _, _, rfl, Lib.hid (R1a (Nat.le_of_lt hb) hrow hf)⟩
          | exact ⟨_, _, _, rfl, Lib.hid (R1b (Nat.le_of_lt hb) hrow hf)⟩
          | exact ⟨_, _, _, rfl, Lib.hid (R1c (Nat.le_of_lt hb) hrow hf)⟩
          | exact ⟨_, _, _, rfl, Lib.hid (R1d (Nat.le_of_lt hb) hrow hf)⟩
          | exact ⟨_, _, _, rfl, Lib.hid (R1e (Nat.le_of_lt hb) hrow hf)⟩
          | exact ⟨_, _, _, rfl, Lib.hid (R1f (Nat.le_of_lt hb) hrow hf)⟩
    case rest =>
      obtain ⟨gs, ga, b, rfl, HR⟩ := hcut
      have HWC := Lib.hid (F0.out.trans HR.out.fr)
      go_wp2_with (go_at_call 41; (with_reducible refine (HBR.out _ HWC.out).mono ?_); rintro e w4 ⟨v, rfl, hnum0, hf4⟩; have HJ : Hid (StJ w l goals (.slice a n c) (.slice (some ⟨gg, 0, none⟩) n n) n w.heap.size gs ga b v 0 w4) := Lib.hid (stj_first HN.out F0.out hb HR0.out HR.out hnum0 hf4); clear hnum0 hf4)
      go_step3
      obtain ⟨i, HJ⟩ : ∃ i : Nat, Hid (StJ w l goals (.slice a n c) (.slice (some ⟨gg, 0, none⟩) n n) n w.heap.size gs ga b v i w4) := ⟨0, HJ⟩
      obtain ⟨old, ho, hold⟩ := HJ.out.at_
      have HOLD := Lib.hid hold
      have hll : (szF l (farN l goals i)).length = n := by rw [szF_len]; exact HN.out.symm
      have KP := Lib.hid (c42 (.slice a n c) (.slice (some ⟨gg, 0, none⟩) n n) w.heap.size gs ga n (szF l (farN l goals i)) old hll ho hfew (szF_in _ _) HJ.out.n1 w4 HJ.out.sz hold)
      have e0 : w4.cell? ⟨b, 0, none⟩ = some (.slice a n c) := cell_of_row _ _ _ _ _ _ HJ.out.box
      have e1 : w4.cell? ⟨b, 1, none⟩ = some (.slice (some ⟨gg, 0, none⟩) n n) := cell_of_row _ _ _ _ _ _ HJ.out.box
      have e2 : w4.cell? ⟨b, 2, none⟩ = some (.slice (some ⟨gs, 0, none⟩) n n) := cell_of_row _ _ _ _ _ _ HJ.out.box
      have e3 : w4.cell? ⟨b, 3, none⟩ = some (.slice (some ⟨ga, 0, none⟩) n n) := cell_of_row _ _ _ _ _ _ HJ.out.box
      obtain ⟨av, cv, hv, _⟩ := HJ.out.num.form
      obtain ⟨m, hm⟩ : ∃ m, (natsI (nearF l (farN l goals i))).length = m := ⟨_, rfl⟩
      obtain ⟨m', hm'⟩ : ∃ m', (natsI (nearF l (nextF l goals (farN l goals i)))).length = m' := ⟨_, rfl⟩
      have HM := Lib.hid hm
      have HM' := Lib.hid hm'
      rw [hm] at hv
      have HV := Lib.hid hv
      have hsz5 := HJ.out.fr.size
      have hn2 := HJ.out.n2
      have hn3 := HJ.out.n3
      have hgsn : gg ≠ gs := by have := HJ.out.sz.ge; omega
      have KG : Hid (∀ w5, IRow w.heap.size w5 ga (atK (szF l (farN l goals i))) → Fr (fun j => j = ga) w4 w5 → Calls Try.prog 43 #[.agg #[.slice a n c, .slice (some ⟨gg, 0, none⟩) n n, .slice (some ⟨gs, 0, none⟩) n n, .slice (some ⟨ga, 0, none⟩) n n], .slice av m cv] w5 (GrowP 0 gs l goals (farN l goals i) w5)) := Lib.hid (fun w5 hra hf5 => by
        rw [← HV.out]
        refine c43 (.slice a n c) v 0 gg gs ga n l goals (farN l goals i) HN.out hfew HGL.out HGO.out hgsn (fun e => HJ.out.n1 e.symm) w5 ((HRG.out.fr HJ.out.fr id).fr hf5 (fun e => ?_)) ((HJ.out.sz.fr hf5 HJ.out.n1).mono (Nat.zero_le _)) (hra.mono (Nat.zero_le _)) (NumAt.mono (B := w.heap.size) (w := w5) (hf5.owns HJ.out.num (fun k hk e => ?_)) (Nat.zero_le _)) HJ.out.n7
        · have := hold.ge; omega
        · subst e; exact HJ.out.n8 hk)
      by_cases hlt : m' < m
      · have d1 : decide (m' < m) = true := decide_eq_true hlt
        have d2 : decide ((m' : Int) < (m : Int)) = true := decide_eq_true (by omega)
        have HLT := Lib.hid hlt
        clear hlt hm hm' hv hll ho hold
        rw [HV.out]
        go_wp2_with (first
          | (go_at_call 42; (with_reducible refine (KP.out).mono ?_); rintro e w5 ⟨rfl, hra, hf5⟩; have f0 := hf5.cell e0 (fun e => hn3 e.symm); have f1 := hf5.cell e1 (fun e => hn3 e.symm); have f2 := hf5.cell e2 (fun e => hn3 e.symm); have f3 := hf5.cell e3 (fun e => hn3 e.symm); have HRA := Lib.hid hra; have HF5 := Lib.hid hf5; clear hra hf5)
          | (go_at_call 43; (with_reducible refine (KG.out _ HRA.out HF5.out).mono ?_); rintro e w6 ⟨v6, rfl, hnum, hrs, hf6⟩; obtain ⟨a6, c6, hv6, _⟩ := hnum.form; rw [HM'.out] at hv6; subst hv6; have HNUM := Lib.hid hnum; have HRS := Lib.hid hrs; have HF6 := Lib.hid hf6; clear hnum hrs hf6))
        go_step3
        have HS : Hid (StJ w l goals (.slice a n c) (.slice (some ⟨gg, 0, none⟩) n n) n w.heap.size gs ga b (.slice a6 m' c6) (i + 1) w6) := Lib.hid (HJ.out.next HN.out HRA.out HF5.out HNUM.out ⟨HRS.out.heap, HJ.out.sz.ge⟩ HF6.out (by have h1 := HM.out; have h2 := HM'.out; rw [natsI_length] at h1 h2; rw [h1, h2]; exact HLT.out))
        exact ⟨rfl, ⟨gs, ga, b, i + 1, .slice a6 m' c6, _, _, _, _, _, _, _, _, _, _, _, _, _, _, _, _, _, _, _, _, _, _, _, rfl, HS⟩⟩
      · have d1 : decide (m' < m) = false := decide_eq_false hlt
        have d2 : decide ((m' : Int) < (m : Int)) = false := decide_eq_false (by omega)
        have HLT := Lib.hid hlt
        clear hlt hm hm' hv hll ho hold
        rw [HV.out]
        go_wp2_with (first
          | (go_at_call 42; (with_reducible refine (KP.out).mono ?_); rintro e w5 ⟨rfl, hra, hf5⟩; have f0 := hf5.cell e0 (fun e => hn3 e.symm); have f1 := hf5.cell e1 (fun e => hn3 e.symm); have f2 := hf5.cell e2 (fun e => hn3 e.symm); have f3 := hf5.cell e3 (fun e => hn3 e.symm); have HRA := Lib.hid hra; have HF5 := Lib.hid hf5; clear hra hf5)
          | (go_at_call 43; (with_reducible refine (KG.out _ HRA.out HF5.out).mono ?_); rintro e w6 ⟨v6, rfl, hnum, hrs, hf6⟩; obtain ⟨a6, c6, hv6, _⟩ := hnum.form; rw [HM'.out] at hv6; subst hv6; have k0 := hf6.cell f0 (fun e => hn2 e.symm); have k1 := hf6.cell f1 (fun e => hn2 e.symm); have k2 := hf6.cell f2 (fun e => hn2 e.symm); have k3 := hf6.cell f3 (fun e => hn2 e.symm); have hr6 : w6.heap[w.heap.size]? = some _ := (hf6.block _ (Nat.lt_of_lt_of_le (Array.getElem?_eq_some_iff.1 HJ.out.res).1 HF5.out.size) (fun e => HJ.out.n4 e.symm)).trans ((HF5.out.block _ (Array.getElem?_eq_some_iff.1 HJ.out.res).1 (fun e => HJ.out.n5 e.symm)).trans HJ.out.res); have r0 : w6.cell? ⟨w.heap.size, 0, none⟩ = some (.slice none 0 0) := cell_of_row _ _ _ _ _ _ hr6; have r1 : w6.cell? ⟨w.heap.size, 1, none⟩ = some (.slice none 0 0) := cell_of_row _ _ _ _ _ _ hr6; have r2 : w6.cell? ⟨w.heap.size, 2, none⟩ = some (.slice none 0 0) := cell_of_row _ _ _ _ _ _ hr6; have r3 : w6.cell? ⟨w.heap.size, 3, none⟩ = some (.slice none 0 0) := cell_of_row _ _ _ _ _ _ hr6; have z0 := frozen_of_row w6 w.heap.size 0 _ _ hr6; have z1 := frozen_of_row w6 w.heap.size 1 _ _ hr6; have z2 := frozen_of_row w6 w.heap.size 2 _ _ hr6; have z3 := frozen_of_row w6 w.heap.size 3 _ _ hr6; have HRS := Lib.hid hrs; have HF6 := Lib.hid hf6; clear hnum hrs hf6 hr6))
        simp only [Exit.jump]
        obtain ⟨s1, s2, s3, s4, s5⟩ := HJ.out.last HRA.out HF5.out ⟨HRS.out.heap, HJ.out.sz.ge⟩ HF6.out (by have h1 := HM.out; have h2 := HM'.out; rw [natsI_length] at h1 h2; rw [h1, h2]; exact HLT.out) (.slice a n c) (.slice (some ⟨gg, 0, none⟩) n n) (.slice (some ⟨gs, 0, none⟩) n n) (.slice (some ⟨ga, 0, none⟩) n n)
        exact bodyPost_ret (results_cell_row rfl _ _ w.heap.size 58 _ (0, 0) _ rfl s5 Try.underlying58 rfl (by kernel_rfl)) rfl ⟨gs, ga, rfl, s1, s2, s3, s4⟩
  · rintro a' wr ⟨gs, ga, b, i, v, u7, u8, u9, u10, u11, u12, u13, u14, u15, u16, u17, u18, u19, u20, u21, u22, u23, u24, u25, u26, u27, u28, u29, rfl, HJ⟩
    obtain ⟨old, ho, hold⟩ := HJ.out.at_
    have HOLD := Lib.hid hold
    have hll : (szF l (farN l goals i)).length = n := by rw [szF_len]; exact HN.out.symm
    have KP := Lib.hid (c42 (.slice a n c) (.slice (some ⟨gg, 0, none⟩) n n) w.heap.size gs ga n (szF l (farN l goals i)) old hll ho hfew (szF_in _ _) HJ.out.n1 wr HJ.out.sz hold)
    have e0 : wr.cell? ⟨b, 0, none⟩ = some (.slice a n c) := cell_of_row _ _ _ _ _ _ HJ.out.box
    have e1 : wr.cell? ⟨b, 1, none⟩ = some (.slice (some ⟨gg, 0, none⟩) n n) := cell_of_row _ _ _ _ _ _ HJ.out.box
    have e2 : wr.cell? ⟨b, 2, none⟩ = some (.slice (some ⟨gs, 0, none⟩) n n) := cell_of_row _ _ _ _ _ _ HJ.out.box
    have e3 : wr.cell? ⟨b, 3, none⟩ = some (.slice (some ⟨ga, 0, none⟩) n n) := cell_of_row _ _ _ _ _ _ HJ.out.box
    obtain ⟨av, cv, hv, _⟩ := HJ.out.num.form
    obtain ⟨m, hm⟩ : ∃ m, (natsI (nearF l (farN l goals i))).length = m := ⟨_, rfl⟩
    obtain ⟨m', hm'⟩ : ∃ m', (natsI (nearF l (nextF l goals (farN l goals i)))).length = m' := ⟨_, rfl⟩
    have HM := Lib.hid hm
    have HM' := Lib.hid hm'
    rw [hm] at hv
    have HV := Lib.hid hv
    have hsz5 := HJ.out.fr.size
    have hn2 := HJ.out.n2
    have hn3 := HJ.out.n3
    have hgsn : gg ≠ gs := by have := HJ.out.sz.ge; omega
    have KG : Hid (∀ w5, IRow w.heap.size w5 ga (atK (szF l (farN l goals i))) → Fr (fun j => j = ga) wr w5 → Calls Try.prog 43 #[.agg #[.slice a n c, .slice (some ⟨gg, 0, none⟩) n n, .slice (some ⟨gs, 0, none⟩) n n, .slice (some ⟨ga, 0, none⟩) n n], .slice av m cv] w5 (GrowP 0 gs l goals (farN l goals i) w5)) := Lib.hid (fun w5 hra hf5 => by
      rw [← HV.out]
      refine c43 (.slice a n c) v 0 gg gs ga n l goals (farN l goals i) HN.out hfew HGL.out HGO.out hgsn (fun e => HJ.out.n1 e.symm) w5 ((HRG.out.fr HJ.out.fr id).fr hf5 (fun e => ?_)) ((HJ.out.sz.fr hf5 HJ.out.n1).mono (Nat.zero_le _)) (hra.mono (Nat.zero_le _)) (NumAt.mono (B := w.heap.size) (w := w5) (hf5.owns HJ.out.num (fun k hk e => ?_)) (Nat.zero_le _)) HJ.out.n7
      · have := hold.ge; omega
      · subst e; exact HJ.out.n8 hk)
    by_cases hlt : m' < m
    · have d1 : decide (m' < m) = true := decide_eq_true hlt
      have d2 : decide ((m' : Int) < (m : Int)) = true := decide_eq_true (by omega)
      have HLT := Lib.hid hlt
      clear hlt hm hm' hv hll ho hold
      rw [HV.out]
      go_wp2_with (first
        | (go_at_call 42; (with_reducible refine (KP.out).mono ?_); rintro e w5 ⟨rfl, hra, hf5⟩; have f0 := hf5.cell e0 (fun e => hn3 e.symm); have f1 := hf5.cell e1 (fun e => hn3 e.symm); have f2 := hf5.cell e2 (fun e => hn3 e.symm); have f3 := hf5.cell e3 (fun e => hn3 e.symm); have HRA := Lib.hid hra; have HF5 := Lib.hid hf5; clear hra hf5)
        | (go_at_call 43; (with_reducible refine (KG.out _ HRA.out HF5.out).mono ?_); rintro e w6 ⟨v6, rfl, hnum, hrs, hf6⟩; obtain ⟨a6, c6, hv6, _⟩ := hnum.form; rw [HM'.out] at hv6; subst hv6; have HNUM := Lib.hid hnum; have HRS := Lib.hid hrs; have HF6 := Lib.hid hf6; clear hnum hrs hf6))
      go_step3
      have HS : Hid (StJ w l goals (.slice a n c) (.slice (some ⟨gg, 0, none⟩) n n) n w.heap.size gs ga b (.slice a6 m' c6) (i + 1) w6) := Lib.hid (HJ.out.next HN.out HRA.out HF5.out HNUM.out ⟨HRS.out.heap, HJ.out.sz.ge⟩ HF6.out (by have h1 := HM.out; have h2 := HM'.out; rw [natsI_length] at h1 h2; rw [h1, h2]; exact HLT.out))
      refine ⟨rfl, ⟨gs, ga, b, i + 1, .slice a6 m' c6, _, _, _, _, _, _, _, _, _, _, _, _, _, _, _, _, _, _, _, _, _, _, _, rfl, HS⟩, ?_⟩
      have hl := HLT.out
      simp [lenOf]
      omega
    · have d1 : decide (m' < m) = false := decide_eq_false hlt
      have d2 : decide ((m' : Int) < (m : Int)) = false := decide_eq_false (by omega)
      have HLT := Lib.hid hlt
      clear hlt hm hm' hv hll ho hold
      rw [HV.out]
      go_wp2_with (first
        | (go_at_call 42; (with_reducible refine (KP.out).mono ?_); rintro e w5 ⟨rfl, hra, hf5⟩; have f0 := hf5.cell e0 (fun e => hn3 e.symm); have f1 := hf5.cell e1 (fun e => hn3 e.symm); have f2 := hf5.cell e2 (fun e => hn3 e.symm); have f3 := hf5.cell e3 (fun e => hn3 e.symm); have HRA := Lib.hid hra; have HF5 := Lib.hid hf5; clear hra hf5)
        | (go_at_call 43; (with_reducible refine (KG.out _ HRA.out HF5.out).mono ?_); rintro e w6 ⟨v6, rfl, hnum, hrs, hf6⟩; obtain ⟨a6, c6, hv6, _⟩ := hnum.form; rw [HM'.out] at hv6; subst hv6; have k0 := hf6.cell f0 (fun e => hn2 e.symm); have k1 := hf6.cell f1 (fun e => hn2 e.symm); have k2 := hf6.cell f2 (fun e => hn2 e.symm); have k3 := hf6.cell f3 (fun e => hn2 e.symm); have hr6 : w6.heap[w.heap.size]? = some _ := (hf6.block _ (Nat.lt_of_lt_of_le (Array.getElem?_eq_some_iff.1 HJ.out.res).1 HF5.out.size) (fun e => HJ.out.n4 e.symm)).trans ((HF5.out.block _ (Array.getElem?_eq_some_iff.1 HJ.out.res).1 (fun e => HJ.out.n5 e.symm)).trans HJ.out.res); have r0 : w6.cell? ⟨w.heap.size, 0, none⟩ = some (.slice none 0 0) := cell_of_row _ _ _ _ _ _ hr6; have r1 : w6.cell? ⟨w.heap.size, 1, none⟩ = some (.slice none 0 0) := cell_of_row _ _ _ _ _ _ hr6; have r2 : w6.cell? ⟨w.heap.size, 2, none⟩ = some (.slice none 0 0) := cell_of_row _ _ _ _ _ _ hr6; have r3 : w6.cell? ⟨w.heap.size, 3, none⟩ = some (.slice none 0 0) := cell_of_row _ _ _ _ _ _ hr6; have z0 := frozen_of_row w6 w.heap.size 0 _ _ hr6; have z1 := frozen_of_row w6 w.heap.size 1 _ _ hr6; have z2 := frozen_of_row w6 w.heap.size 2 _ _ hr6; have z3 := frozen_of_row w6 w.heap.size 3 _ _ hr6; have HRS := Lib.hid hrs; have HF6 := Lib.hid hf6; clear hnum hrs hf6 hr6))
      simp only [Exit.jump]
      obtain ⟨s1, s2, s3, s4, s5⟩ := HJ.out.last HRA.out HF5.out ⟨HRS.out.heap, HJ.out.sz.ge⟩ HF6.out (by have h1 := HM.out; have h2 := HM'.out; rw [natsI_length] at h1 h2; rw [h1, h2]; exact HLT.out) (.slice a n c) (.slice (some ⟨gg, 0, none⟩) n n) (.slice (some ⟨gs, 0, none⟩) n n) (.slice (some ⟨ga, 0, none⟩) n n)
      exact bodyPost_ret (results_cell_row rfl _ _ w.heap.size 58 _ (0, 0) _ rfl s5 Try.underlying58 rfl (by kernel_rfl)) rfl ⟨gs, ga, rfl, s1, s2, s3, s4⟩
end Go.Proofs.Ytnjlcimeaoedcaa
