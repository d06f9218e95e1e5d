/-
  Flow (layer 16): the document's walk in memory.
-/
import Derived.Test.YtobibplilbchfaaFlL
namespace Go.Proofs.Ytobibplilbchfaa
open Go.RowKit
set_option linter.unusedVariables false
set_option linter.unusedSimpArgs false
set_option linter.unnecessarySimpa false
theorem on_append (I : Int → Wk → Wk) (n : Int) : ∀ (a b : List Int) (w : Wk), onG I n (a ++ b) w = onG I n b (onG I n a w)
  | [], b, w => rfl
  | y :: a, b, w => by
    show onG I n (a ++ b) _ = onG I n b (onG I n a _)
    exact on_append I n a b _
theorem on_take {bs : List Bk} {f : Nat} {n : Int} {l : List Int} {j : Nat} {w : Wk} (hj : j < l.length) : onF bs f n (l.take (j + 1)) w = onF bs f n [l.getD j 0] (onF bs f n (l.take j) w) := by
  have e : l.getD j 0 = l[j] := by rw [List.getD_eq_getElem?_getD, List.getElem?_eq_getElem hj]; rfl
  rw [List.take_add_one, List.getElem?_eq_getElem hj, e]
  exact on_append _ _ _ _ _
/-- How long the lists grow. -/
structure Lim (w : Wk) (L K : Nat) : Prop where
  l : w.left.length + zer w.st ≤ L
  b : w.back.length + 2 * zer w.st ≤ K
theorem lim_into (bs : List Bk) : ∀ f, ∀ (n : Int) (w : Wk) (L K : Nat), InB bs n → w.st.length = bs.length → w.st.getD n.toNat 0 = 0 → zer w.st ≤ f → Lim w L K → Lim (intoF bs f n w) L K ∧ (intoF bs f n w).st.length = bs.length ∧ zer (intoF bs f n w).st + 1 ≤ zer w.st
  | 0 => fun n w L K hn hl h0 hz hm => by
    have := zer_set (st := w.st) (n := n.toNat) (by unfold InB at hn; omega) h0
    omega
  | f + 1 => fun n w L K hn hl h0 hz hm => by
    have ih := lim_into bs f
    have on : ∀ (l : List Int) (w : Wk) (L K : Nat), (∀ y ∈ l, InB bs y) → w.st.length = bs.length → zer w.st ≤ f → w.left.length + zer w.st ≤ L → w.back.length + l.length + 2 * zer w.st ≤ K →
        (onF bs f n l w).left.length + zer (onF bs f n l w).st ≤ L ∧ (onF bs f n l w).back.length + 2 * zer (onF bs f n l w).st ≤ K ∧ (onF bs f n l w).st.length = bs.length ∧ zer (onF bs f n l w).st ≤ zer w.st := by
      intro l
      induction l with
      | nil => intro w L K _ h1 _ h3 h4; rw [on_nil]; exact ⟨h3, by simpa using h4, h1, Nat.le_refl _⟩
      | cons y l ihl =>
        intro w L K hy h1 h2 h3 h4
        rw [List.length_cons] at h4
        have hyl : ∀ z ∈ l, InB bs z := fun z hz => hy z (by simp [hz])
        by_cases q0 : w.st.getD y.toNat 0 = 0
        · rw [on_enter q0]
          obtain ⟨⟨a1, a2⟩, a3, a4⟩ := ih y w L (K - l.length) (hy y (by simp)) h1 q0 h2 ⟨h3, by omega⟩
          obtain ⟨b1, b2, b3, b4⟩ := ihl (intoF bs f y w) L K hyl a3 (by omega) a1 (by omega)
          exact ⟨b1, b2, b3, by omega⟩
        · by_cases q1 : w.st.getD y.toNat 0 = 1
          · rw [on_back q1]
            exact ihl ⟨w.st, w.left, w.back ++ [(n, y)]⟩ L K hyl h1 h2 h3 (by show (w.back ++ [(n, y)]).length + l.length + 2 * zer w.st ≤ K; rw [List.length_append, List.length_singleton]; omega)
          · rw [on_skip q0 q1]
            exact ihl w L K hyl h1 h2 h3 (by omega)
    have hnl : n.toNat < w.st.length := by unfold InB at hn; omega
    have hz1 := zer_set hnl h0
    have ho := outsF_len bs n.toNat
    obtain ⟨m1, m2⟩ := hm
    obtain ⟨b1, b2, b3, b4⟩ := on (outsF bs n.toNat) ⟨w.st.set n.toNat 1, w.left, w.back⟩ (L - 1) K (fun y hy => outsF_in hy) (by simp; exact hl) (by show zer (w.st.set n.toNat 1) ≤ f; omega) (by show w.left.length + zer (w.st.set n.toNat 1) ≤ L - 1; omega) (by show w.back.length + (outsF bs n.toNat).length + 2 * zer (w.st.set n.toNat 1) ≤ K; omega)
    rw [into_succ]
    have hz2 := zer_set2 (st := (onF bs f n (outsF bs n.toNat) ⟨w.st.set n.toNat 1, w.left, w.back⟩).st) (n := n.toNat)
    have b4' : zer (onF bs f n (outsF bs n.toNat) ⟨w.st.set n.toNat 1, w.left, w.back⟩).st ≤ zer (w.st.set n.toNat 1) := b4
    refine ⟨⟨?_, ?_⟩, by simp; exact b3, ?_⟩
    · show (List.length (_ ++ _)) + zer (List.set _ _ _) ≤ L
      rw [List.length_append, List.length_singleton]
      omega
    · show (onF bs f n (outsF bs n.toNat) ⟨w.st.set n.toNat 1, w.left, w.back⟩).back.length + 2 * zer (List.set _ _ _) ≤ K
      omega
    · show zer (List.set _ _ _) + 1 ≤ _
      omega
theorem lim_on (bs : List Bk) (f : Nat) (n : Int) : ∀ (l : List Int) (w : Wk) (L K : Nat), (∀ y ∈ l, InB bs y) → w.st.length = bs.length → zer w.st ≤ f → w.left.length + zer w.st ≤ L → w.back.length + l.length + 2 * zer w.st ≤ K →
    (onF bs f n l w).left.length + zer (onF bs f n l w).st ≤ L ∧ (onF bs f n l w).back.length + 2 * zer (onF bs f n l w).st ≤ K ∧ (onF bs f n l w).st.length = bs.length ∧ zer (onF bs f n l w).st ≤ zer w.st
  | [], w, L, K, _, h1, _, h3, h4 => by rw [on_nil]; exact ⟨h3, by simpa using h4, h1, Nat.le_refl _⟩
  | y :: l, w, L, K, hy, h1, h2, h3, h4 => by
    rw [List.length_cons] at h4
    have hyl : ∀ z ∈ l, InB bs z := fun z hz => hy z (by simp [hz])
    by_cases q0 : w.st.getD y.toNat 0 = 0
    · rw [on_enter q0]
      obtain ⟨⟨a1, a2⟩, a3, a4⟩ := lim_into bs f y w L (K - l.length) (hy y (by simp)) h1 q0 h2 ⟨h3, by omega⟩
      obtain ⟨b1, b2, b3, b4⟩ := lim_on bs f n l (intoF bs f y w) L K hyl a3 (by omega) a1 (by omega)
      exact ⟨b1, b2, b3, by omega⟩
    · by_cases q1 : w.st.getD y.toNat 0 = 1
      · rw [on_back q1]
        exact lim_on bs f n l ⟨w.st, w.left, w.back ++ [(n, y)]⟩ L K hyl h1 h2 h3 (by show (w.back ++ [(n, y)]).length + l.length + 2 * zer w.st ≤ K; rw [List.length_append, List.length_singleton]; omega)
      · rw [on_skip q0 q1]
        exact lim_on bs f n l w L K hyl h1 h2 h3 (by omega)
/-- The document's walk, as it lies in memory. -/
structure Wat (B tb S nb : Nat) (w : World) (vl vb : Value) (x : Wk) : Prop where
  bx : Bx w tb #[.slice (some ⟨S, 0, none⟩) nb nb, vl, vb] 36
  hs : Ints B w (.slice (some ⟨S, 0, none⟩) nb nb) x.st
  hl : Ints B w vl x.left
  hb : Row B 41 2 pC w vb x.back
  ap : vl.ownBlock ≠ some S
  bt : B ≤ tb
def WF (tb S : Nat) (vl vb : Value) (q : Nat) : Prop := q = tb ∨ q = S ∨ vl.ownBlock = some q ∨ vb.ownBlock = some q
section
variable {B tb S nb : Nat} {w w1 w2 : World} {vl vb vl' vb' : Value} {x : Wk}
theorem Wat.fr (h : Wat B tb S nb w vl vb x) (f : Fr (fun _ => False) w w1) : Wat B tb S nb w1 vl vb x :=
  ⟨h.bx.fr f id, h.hs.fr f (fun _ _ => id), h.hl.fr f (fun _ _ => id), Row.fr h.hb f (fun _ _ => id), h.ap, h.bt⟩
theorem Wat.ge (h : Wat B tb S nb w vl vb x) {q : Nat} (e : WF tb S vl vb q) : B ≤ q ∧ q < w.heap.size := by
  rcases e with rfl | rfl | e | e
  · exact ⟨h.bt, h.bx.lt⟩
  · exact Row.lt h.hs _ rfl
  · exact Row.lt h.hl _ e
  · exact Row.lt h.hb _ e
theorem Wat.no (h : Wat B tb S nb w vl vb x) {e2 : TypeId} {z : Array Value} {g : Nat} (hg : w.heap[g]? = some (.cells z e2 (0, 0))) (h1 : e2 ≠ 36) (h2 : e2 ≠ 3) (h3 : e2 ≠ 41) : ¬ WF tb S vl vb g := fun e => by
  obtain ⟨cs, hS⟩ := Row.typ h.hs S rfl
  rcases e with e | e | e | e
  · exact typ_ne hg h.bx h1 e
  · exact typ_ne hg hS h2 e
  · exact Row.apart_typ h.hl hg (fun q => h2 q.symm) e
  · exact Row.apart_typ h.hb hg (fun q => h3 q.symm) e
theorem Wat.noR (h : Wat B tb S nb w vl vb x) {g : Nat} (h1 : g ≠ S) (h2 : vl.ownBlock ≠ some g) (h3 : ∃ cur, w.heap[g]? = some (.cells cur 3 (0, 0))) : ¬ WF tb S vl vb g := fun q => by
  obtain ⟨cur, h3⟩ := h3
  rcases q with q | q | q | q
  · exact typ_ne h3 h.bx (by decide) q
  · exact h1 q
  · exact h2 q
  · exact Row.apart_typ h.hb h3 (by decide) q
theorem Wat.tS (h : Wat B tb S nb w vl vb x) : tb ≠ S := by
  obtain ⟨cs, hS⟩ := Row.typ h.hs S rfl
  exact typ_ne h.bx hS (by decide)
theorem Wat.lt (h : Wat B tb S nb w vl vb x) : vl.ownBlock ≠ some tb := Row.apart_typ h.hl h.bx (by decide)
theorem Wat.bt' (h : Wat B tb S nb w vl vb x) : vb.ownBlock ≠ some tb := Row.apart_typ h.hb h.bx (by decide)
theorem Wat.bS (h : Wat B tb S nb w vl vb x) : vb.ownBlock ≠ some S := by
  obtain ⟨cs, hS⟩ := Row.typ h.hs S rfl
  exact Row.apart_typ h.hb hS (by decide)
theorem Wat.lb (h : Wat B tb S nb w vl vb x) : ∀ k, vl.ownBlock = some k → vb.ownBlock ≠ some k := fun k hk => by
  obtain ⟨c, hc⟩ := Row.typ h.hl k hk
  exact Row.apart_typ h.hb hc (by decide)
theorem Wat.setS (h : Wat B tb S nb w vl vb x) {st' : List Int} (hI : Ints B w1 (.slice (some ⟨S, 0, none⟩) nb nb) st') (h1 : Fr (fun q => q = S) w w1) : Wat B tb S nb w1 vl vb ⟨st', x.left, x.back⟩ :=
  ⟨h.bx.fr h1 (fun e => h.tS e), hI, h.hl.fr h1 (fun k hk e => h.ap (by rw [← e]; exact hk)), Row.fr h.hb h1 (fun k hk e => h.bS (by rw [← e]; exact hk)), h.ap, h.bt⟩
theorem Wat.setL (h : Wat B tb S nb w vl vb x) {left' : List Int} (hR : Ints B w1 vl' left') (h1 : Fr (fun q => vl.ownBlock = some q) w w1) (hn : ∀ k, vl'.ownBlock = some k → vl.ownBlock = some k ∨ w.heap.size ≤ k) (bx : Bx w2 tb #[.slice (some ⟨S, 0, none⟩) nb nb, vl', vb] 36) (h2 : Fr (fun q => q = tb) w1 w2) : Wat B tb S nb w2 vl' vb ⟨x.st, left', x.back⟩ := by
  have b1 := h.bx.fr h1 (fun e => h.lt e)
  exact ⟨bx, (h.hs.fr h1 (fun k hk e => h.ap (by rw [own_S hk]; exact e))).fr h2 (fun k hk e => h.tS (by rw [own_S hk, e])), hR.fr h2 (fun k hk e => Row.apart_typ hR (show w1.heap[tb]? = _ from b1) (by decide) (by rw [← e]; exact hk)), Row.fr (Row.fr h.hb h1 (fun k hk e => h.lb k e hk)) h2 (fun k hk e => h.bt' (by rw [← e]; exact hk)), fun e => (hn S e).elim h.ap (fun q => by have := (Row.lt h.hs S rfl).2; omega), h.bt⟩
theorem Wat.setB (h : Wat B tb S nb w vl vb x) {back' : List (Int × Int)} (hR : Row B 41 2 pC w1 vb' back') (h1 : Fr (fun q => vb.ownBlock = some q) w w1) (bx : Bx w2 tb #[.slice (some ⟨S, 0, none⟩) nb nb, vl, vb'] 36) (h2 : Fr (fun q => q = tb) w1 w2) : Wat B tb S nb w2 vl vb' ⟨x.st, x.left, back'⟩ := by
  have b1 := h.bx.fr h1 (fun e => h.bt' e)
  exact ⟨bx, (h.hs.fr h1 (fun k hk e => h.bS (by rw [own_S hk]; exact e))).fr h2 (fun k hk e => h.tS (by rw [own_S hk, e])), (h.hl.fr h1 (fun k hk e => h.lb k hk e)).fr h2 (fun k hk e => h.lt (by rw [← e]; exact hk)), Row.fr hR h2 (fun k hk e => Row.apart_typ hR (show w1.heap[tb]? = _ from b1) (by decide) (by rw [← e]; exact hk)), h.ap, h.bt⟩
theorem Wat.rest (h : Wat B tb S nb w vl vb x) {a : Option Addr} {l : List Int} (hr : RestA w S vl a l) (f : Fr (WF tb S vl vb) w w1) (hv : ∀ k, vl'.ownBlock = some k → vl.ownBlock = some k ∨ w.heap.size ≤ k) : RestA w1 S vl' a l := fun k hk => by
  obtain ⟨g, o, e, hc, h1, h2, cur, h3⟩ := hr k hk
  have hlt := (Array.getElem?_eq_some_iff.1 h3).1
  have hng : ¬ WF tb S vl vb g := fun q => by
    rcases q with q | q | q | q
    · exact typ_ne h3 h.bx (by decide) q
    · exact h1 q
    · exact h2 q
    · exact Row.apart_typ h.hb h3 (by decide) q
  exact ⟨g, o, e, f.cell hc hng, h1, fun q => (hv g q).elim h2 (fun q => by omega), cur, (f.block g hlt hng).trans h3⟩
end
end Go.Proofs.Ytobibplilbchfaa
