/-
  Items (layer 5): the contract of settle.
-/
import Derived.Test.YtfnlhammjallfaaAsmPa
import Derived.ScopeJumps
import Derived.WalkMore
import Derived.Deep.DeepCutAuto
namespace Go.Proofs.Ytfnlhammjallfaa
open Go.RowKit
set_option linter.unusedVariables false
set_option linter.unusedSimpArgs false
theorem frcell {w w' : World} (h : Fr (fun _ => False) w w') : (∀ b o, b < w.heap.size → w'.cell? ⟨b, o, none⟩ = w.cell? ⟨b, o, none⟩) ∧ (∀ b o, b < w.heap.size → w'.frozen? ⟨b, o, none⟩ = w.frozen? ⟨b, o, none⟩) :=
  ⟨fun b o hb => World.cell?_of_block (h.block b hb id), fun b o hb => World.frozen?_of_block (h.block b hb id)⟩
/-- At the label: so many rounds are done. -/
structure StJ (w : World) (l : List It) (goals : List Int) (sa sg : Value) (n r gs ga b : Nat) (v : Value) (i : Nat) (wr : World) : Prop where
  sz : IRow w.heap.size wr gs (szF l (farN l goals i))
  at_ : ∃ old, old.length = n ∧ IRow w.heap.size wr ga old
  box : wr.heap[b]? = some (.cells #[sa, sg, .slice (some ⟨gs, 0, none⟩) n n, .slice (some ⟨ga, 0, none⟩) n n] 71 (0, 0))
  res : wr.heap[r]? = some (.cells #[.slice none 0 0, .slice none 0 0, .slice none 0 0, .slice none 0 0] 71 (0, 0))
  num : NumAt w.heap.size wr v (natsI (nearF l (farN l goals i)))
  n1 : gs ≠ ga
  n2 : gs ≠ b
  n3 : ga ≠ b
  n4 : gs ≠ r
  n5 : ga ≠ r
  n6 : b ≠ r
  n7 : v.ownBlock ≠ some gs
  n8 : v.ownBlock ≠ some ga
  fr : Fr (fun _ => False) w wr
  down : ∀ j, j < i → (nearF l (farN l goals (j + 1))).length < (nearF l (farN l goals j)).length
/-- What settle leaves. -/
def SettleP (l : List It) (goals : List Int) (sa sg : Value) (n : Nat) (w : World) (e : Ending) (w' : World) : Prop :=
  ∃ gs ga, e = .returned (.agg #[sa, sg, .slice (some ⟨gs, 0, none⟩) n n, .slice (some ⟨ga, 0, none⟩) n n]) ∧ IRow w.heap.size w' gs (szF l (farE l goals)) ∧ IRow w.heap.size w' ga (atK (szF l (farE l goals))) ∧ Still l goals (farE l goals) ∧ Fr (fun _ => False) w w'
def lenOf : Value → Nat | .slice _ n _ => n | _ => 0
theorem NumAt.len {B : Nat} {w : World} {v : Value} {xs : List Int} (h : NumAt B w v xs) : lenOf v = xs.length := by
  obtain ⟨a, c, rfl, _⟩ := h.form; rfl
theorem natsI_length (l : List Nat) : (natsI l).length = l.length := by simp [natsI]
/-- The first time at the label. -/
theorem stj_first {w W w3 w4 : World} {l : List It} {goals : List Int} {sa sg v : Value} {n gs ga b : Nat} (hn : n = l.length) (hW : Fr (fun _ => False) w W) (hb : w.heap.size < W.heap.size) (hres : W.heap[w.heap.size]? = some (.cells #[.slice none 0 0, .slice none 0 0, .slice none 0 0, .slice none 0 0] 71 (0, 0)))
    (h : R1 w W (szF l (fun _ => false)) sa sg n gs ga b w3) (hnum : NumAt w3.heap.size w4 v (natsI (nearF l (fun _ => false)))) (hf : Fr (fun _ => False) w3 w4) : StJ w l goals sa sg n w.heap.size gs ga b v 0 w4 := by
  have b1 := h.sz.lt; have b2 := h.at_.lt; have g1 := h.g1; have g2 := h.g2; have g3 := h.g3; have hs := h.fr.size
  have hb3 := (Array.getElem?_eq_some_iff.1 h.box).1
  have own : ∀ k, v.ownBlock = some k → w3.heap.size ≤ k := fun k hk => (World.ownsRow.lt hnum k hk).1
  refine ⟨h.sz.fr hf id, ⟨zeros n, zeros_len n, h.at_.fr hf id⟩, (hf.block b hb3 id).trans h.box, ?_, hnum.mono (by omega), h.n1, h.n2, h.n3, by omega, by omega, by omega, fun e => ?_, fun e => ?_, hW.trans (h.fr.trans hf), fun j hj => by omega⟩
  · rw [hf.block _ (by omega) id, h.fr.block _ hb id]; exact hres
  · have := own _ e; omega
  · have := own _ e; omega
/-- One round more. -/
theorem StJ.next {w wr w5 w6 : World} {l : List It} {goals : List Int} {sa sg v v' : Value} {n gs ga b i : Nat} (h : StJ w l goals sa sg n w.heap.size gs ga b v i wr) (hn : n = l.length)
    (ha : IRow w.heap.size w5 ga (atK (szF l (farN l goals i)))) (h5 : Fr (fun j => j = ga) wr w5)
    (hnum : NumAt w5.heap.size w6 v' (natsI (nearF l (nextF l goals (farN l goals i))))) (hs : IRow w.heap.size w6 gs (szF l (nextF l goals (farN l goals i)))) (h6 : Fr (fun j => j = gs) w5 w6)
    (hlt : (nearF l (nextF l goals (farN l goals i))).length < (nearF l (farN l goals i)).length) : StJ w l goals sa sg n w.heap.size gs ga b v' (i + 1) w6 := by
  have hb3 := (Array.getElem?_eq_some_iff.1 h.box).1
  have hr3 := (Array.getElem?_eq_some_iff.1 h.res).1
  have s5 := h5.size
  have g5 := ha.lt
  have g6 := h.sz.lt
  have own : ∀ k, v'.ownBlock = some k → w5.heap.size ≤ k := fun k hk => (World.ownsRow.lt hnum k hk).1
  refine ⟨hs, ⟨_, by rw [atK_len, szF_len]; exact hn.symm, ha.fr h6 (fun e => h.n1 e.symm)⟩, ?_, ?_, hnum.mono (Nat.le_trans h.fr.size s5), h.n1, h.n2, h.n3, h.n4, h.n5, h.n6, fun e => ?_, fun e => ?_, ?_, fun j hj => ?_⟩
  · rw [h6.block _ (by omega) (fun e => h.n2 e.symm), h5.block _ hb3 (fun e => h.n3 e.symm)]; exact h.box
  · rw [h6.block _ (by omega) (fun e => h.n4 e.symm), h5.block _ hr3 (fun e => h.n5 e.symm)]; exact h.res
  · have := own _ e; omega
  · have := own _ e; omega
  · refine (h.fr.trans' h5 (fun j hj e => ?_)).trans' h6 (fun j hj e => ?_)
    · have := ha.ge; omega
    · have := h.sz.ge; omega
  · by_cases e : j = i
    · subst e; exact hlt
    · exact h.down j (by omega)
/-- The last round. -/
theorem StJ.last {w wr w5 w6 : World} {l : List It} {goals : List Int} {sa sg v : Value} {n gs ga b i : Nat} (h : StJ w l goals sa sg n w.heap.size gs ga b v i wr)
    (ha : IRow w.heap.size w5 ga (atK (szF l (farN l goals i)))) (h5 : Fr (fun j => j = ga) wr w5) (hs : IRow w.heap.size w6 gs (szF l (nextF l goals (farN l goals i)))) (h6 : Fr (fun j => j = gs) w5 w6)
    (hlt : ¬ (nearF l (nextF l goals (farN l goals i))).length < (nearF l (farN l goals i)).length) (v0 v1 v2 v3 : Value) :
    IRow w.heap.size (set4 w6 w.heap.size v0 v1 v2 v3) gs (szF l (farE l goals)) ∧ IRow w.heap.size (set4 w6 w.heap.size v0 v1 v2 v3) ga (atK (szF l (farE l goals))) ∧ Still l goals (farE l goals) ∧ Fr (fun _ => False) w (set4 w6 w.heap.size v0 v1 v2 v3) ∧
    (set4 w6 w.heap.size v0 v1 v2 v3).heap[w.heap.size]? = some (.cells #[v0, v1, v2, v3] 71 (0, 0)) := by
  have hst : Still l goals (farN l goals i) := still_of (by rw [← nearF_next]; exact hlt)
  have hd := near_down i h.down
  obtain ⟨e1, e2⟩ := farE_of (i := i) (by omega) hst
  have e3 : szF l (nextF l goals (farN l goals i)) = szF l (farN l goals i) := szF_congr fun k hk => next_still hst hk
  have hr3 := (Array.getElem?_eq_some_iff.1 h.res).1
  have s5 := h5.size
  have hres : w6.heap[w.heap.size]? = some (.cells #[.slice none 0 0, .slice none 0 0, .slice none 0 0, .slice none 0 0] 71 (0, 0)) := by
    rw [h6.block _ (by omega) (fun e => h.n4 e.symm), h5.block _ hr3 (fun e => h.n5 e.symm)]; exact h.res
  rw [e3, e1] at hs
  rw [e1] at ha
  refine ⟨⟨?_, hs.ge⟩, ⟨?_, ha.ge⟩, e2, ?_, set4_same _ _ _ _ hres⟩
  · rw [set4_other _ _ _ _ h.n4]; exact hs.heap
  · rw [set4_other _ _ _ _ h.n5]; exact (ha.fr h6 (fun e => h.n1 e.symm)).heap
  · refine set4_fr ((h.fr.trans' h5 (fun j hj e => ?_)).trans' h6 (fun j hj e => ?_)) (Nat.le_refl _) _ _ _ _
    · have := ha.ge; omega
    · have := hs.ge; omega
end Go.Proofs.Ytfnlhammjallfaa
