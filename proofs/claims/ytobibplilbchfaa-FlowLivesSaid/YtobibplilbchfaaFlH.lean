/-
  Flow (layer 16): the traversal is the walk.
-/
import Derived.Test.YtobibplilbchfaaFlF
namespace Go.Proofs.Ytobibplilbchfaa
open Go.RowKit
set_option linter.unusedVariables false
set_option linter.unusedSimpArgs false
set_option linter.unnecessarySimpa false
/-- The walk, as it stands: what the document keeps. -/
structure Wk where
  st : List Int
  left : List Int
  back : List (Int × Int)
/-- On from a block. -/
def onG (I : Int → Wk → Wk) (n : Int) : List Int → Wk → Wk
  | [], w => w
  | y :: l, w => onG I n l (if (if w.st.getD y.toNat 0 = 1 then (⟨w.st, w.left, w.back ++ [(n, y)]⟩ : Wk) else w).st.getD y.toNat 0 = 0 then I y (if w.st.getD y.toNat 0 = 1 then (⟨w.st, w.left, w.back ++ [(n, y)]⟩ : Wk) else w) else (if w.st.getD y.toNat 0 = 1 then (⟨w.st, w.left, w.back ++ [(n, y)]⟩ : Wk) else w))
/-- Into a block, on, and out (with fuel). -/
def intoF (bs : List Bk) : Nat → Int → Wk → Wk
  | 0, _, w => w
  | f + 1, n, w => ⟨(onG (intoF bs f) n (outsF bs n.toNat) ⟨w.st.set n.toNat 1, w.left, w.back⟩).st.set n.toNat 2, (onG (intoF bs f) n (outsF bs n.toNat) ⟨w.st.set n.toNat 1, w.left, w.back⟩).left ++ [n], (onG (intoF bs f) n (outsF bs n.toNat) ⟨w.st.set n.toNat 1, w.left, w.back⟩).back⟩
def onF (bs : List Bk) (f : Nat) : Int → List Int → Wk → Wk := onG (intoF bs f)
theorem into_succ (bs : List Bk) (f : Nat) (n : Int) (w : Wk) : intoF bs (f + 1) n w = ⟨(onF bs f n (outsF bs n.toNat) ⟨w.st.set n.toNat 1, w.left, w.back⟩).st.set n.toNat 2, (onF bs f n (outsF bs n.toNat) ⟨w.st.set n.toNat 1, w.left, w.back⟩).left ++ [n], (onF bs f n (outsF bs n.toNat) ⟨w.st.set n.toNat 1, w.left, w.back⟩).back⟩ := rfl
theorem on_nil (bs : List Bk) (f : Nat) (n : Int) (w : Wk) : onF bs f n [] w = w := rfl
theorem on_back {bs : List Bk} {f : Nat} {n y : Int} {l : List Int} {w : Wk} (h : w.st.getD y.toNat 0 = 1) : onF bs f n (y :: l) w = onF bs f n l ⟨w.st, w.left, w.back ++ [(n, y)]⟩ := by
  show onG _ _ _ _ = _
  rw [onG, if_pos h]
  rw [if_neg (show ¬ w.st.getD y.toNat 0 = 0 by rw [h]; decide)]
  rfl
theorem on_enter {bs : List Bk} {f : Nat} {n y : Int} {l : List Int} {w : Wk} (h : w.st.getD y.toNat 0 = 0) : onF bs f n (y :: l) w = onF bs f n l (intoF bs f y w) := by
  show onG _ _ _ _ = _
  rw [onG, if_neg (show ¬ w.st.getD y.toNat 0 = 1 by rw [h]; decide), if_pos h]
  rfl
theorem on_skip {bs : List Bk} {f : Nat} {n y : Int} {l : List Int} {w : Wk} (h : w.st.getD y.toNat 0 ≠ 0) (h1 : w.st.getD y.toNat 0 ≠ 1) : onF bs f n (y :: l) w = onF bs f n l w := by
  show onG _ _ _ _ = _
  rw [onG, if_neg h1, if_neg h]
  rfl
def zer (st : List Int) : Nat := st.count 0
theorem zer_set {st : List Int} {n : Nat} (h : n < st.length) (h0 : st.getD n 0 = 0) : zer (st.set n 1) + 1 = zer st := by
  unfold zer
  have hp : 0 < st.count 0 := List.count_pos_iff.2 (by
    have : st[n] = 0 := by simpa [List.getD_eq_getElem?_getD, h] using h0
    rw [← this]; exact List.getElem_mem h)
  have e : st[n] = 0 := by simpa [List.getD_eq_getElem?_getD, h] using h0
  rw [List.count_set h]
  simp [e]
  omega
theorem zer_set2 {st : List Int} {n : Nat} : zer (st.set n 2) ≤ zer st := by
  unfold zer
  by_cases h : n < st.length
  · rw [List.count_set h]; simp
  · rw [List.set_eq_of_length_le (by omega)]; exact Nat.le_refl _
theorem iter_add (bs : List Bk) (c : Cf) (a : Nat) : ∀ b, iterC bs (a + b) c = iterC bs b (iterC bs a c)
  | 0 => rfl
  | b + 1 => by
    show stepC bs (iterC bs (a + b) c) = stepC bs (iterC bs b (iterC bs a c))
    rw [iter_add bs c a b]
theorem snoc_top (st left : List Int) (back : List (Int × Int)) (P : List (Int × List Int)) (x : Int × List Int) : (⟨st, P ++ [x], left, back⟩ : Cf).top = x := by
  unfold Cf.top
  simp [List.getD_eq_getElem?_getD]
theorem snoc_set (P : List (Int × List Int)) (x y : Int × List Int) : (P ++ [x]).set ((P ++ [x]).length - 1) y = P ++ [y] := by
  simp
theorem snoc_take (P : List (Int × List Int)) (x : Int × List Int) : (P ++ [x]).take ((P ++ [x]).length - 1) = P := by
  simp
/-- What a run of the traversal has done. -/
def Done (bs : List Bk) (k : Nat) (st left : List Int) (back : List (Int × Int)) (P : List (Int × List Int)) (l : List Int) (n : Int) (w' : Wk) : Prop :=
  iterC bs k ⟨st, P ++ [(n, l)], left, back⟩ = ⟨w'.st.set n.toNat 2, P, w'.left ++ [n], w'.back⟩
theorem sim (bs : List Bk) : ∀ f,
    (∀ (n : Int) (w : Wk) (P : List (Int × List Int)), InB bs n → w.st.length = bs.length → w.st.getD n.toNat 0 = 0 → zer w.st ≤ f →
      ∃ k, k + 3 * zer (intoF bs f n w).st ≤ 3 * zer w.st ∧ (intoF bs f n w).st.length = bs.length ∧ zer (intoF bs f n w).st + 1 ≤ zer w.st ∧
        iterC bs k ⟨w.st.set n.toNat 1, P ++ [(n, outsF bs n.toNat)], w.left, w.back⟩ = ⟨(intoF bs f n w).st, P, (intoF bs f n w).left, (intoF bs f n w).back⟩)
  | 0 => fun n w P hn hl h0 hz => by
    have := zer_set (st := w.st) (n := n.toNat) (by unfold InB at hn; omega) h0
    omega
  | f + 1 => fun n w P hn hl h0 hz => by
    have ih := sim bs f
    have on : ∀ (l : List Int) (w : Wk), (∀ y ∈ l, InB bs y) → w.st.length = bs.length → zer w.st ≤ f →
        ∃ k, k + 3 * zer (onF bs f n l w).st ≤ l.length + 1 + 3 * zer w.st ∧ (onF bs f n l w).st.length = bs.length ∧ zer (onF bs f n l w).st ≤ zer w.st ∧ Done bs k w.st w.left w.back P l n (onF bs f n l w) := by
      intro l
      induction l with
      | nil =>
        intro w hy hl hz
        rw [on_nil]
        refine ⟨1, by simp only [List.length_nil]; omega, hl, Nat.le_refl _, ?_⟩
        show stepC bs ⟨w.st, P ++ [(n, [])], w.left, w.back⟩ = _
        rw [step_leave (by simp) (by rw [snoc_top])]
        rw [snoc_top]
        show (⟨_, (P ++ [(n, [])]).take ((P ++ [(n, [])]).length - 1), _, _⟩ : Cf) = _
        rw [snoc_take]
      | cons y l ihl =>
        intro w hy hl hz
        have hyb := hy y (by simp)
        have hyl : ∀ z ∈ l, InB bs z := fun z hz => hy z (by simp [hz])
        by_cases q0 : w.st.getD y.toNat 0 = 0
        · obtain ⟨k1, a1, a2, a3, a4⟩ := ih y w (P ++ [(n, l)]) hyb hl q0 hz
          obtain ⟨k2, b1, b2, b3, b4⟩ := ihl (intoF bs f y w) hyl a2 (by omega)
          rw [on_enter q0]
          refine ⟨1 + (k1 + k2), by simp; omega, b2, by omega, ?_⟩
          unfold Done at b4 ⊢
          rw [iter_add, iter_add]
          have e1 : iterC bs 1 ⟨w.st, P ++ [(n, y :: l)], w.left, w.back⟩ = ⟨w.st.set y.toNat 1, P ++ [(n, l)] ++ [(y, outsF bs y.toNat)], w.left, w.back⟩ := by
            show stepC bs ⟨w.st, P ++ [(n, y :: l)], w.left, w.back⟩ = _
            rw [step_enter (y := y) (r := l) (by simp) (by rw [snoc_top]) q0, snoc_top]
            show (⟨_, (P ++ [(n, y :: l)]).set ((P ++ [(n, y :: l)]).length - 1) (n, l) ++ _, _, _⟩ : Cf) = _
            rw [snoc_set]
          rw [e1, a4]
          exact b4
        · by_cases q1 : w.st.getD y.toNat 0 = 1
          · obtain ⟨k2, b1, b2, b3, b4⟩ := ihl ⟨w.st, w.left, w.back ++ [(n, y)]⟩ hyl hl hz
            rw [on_back q1]
            refine ⟨1 + k2, by simp at b1 ⊢; omega, b2, b3, ?_⟩
            unfold Done at b4 ⊢
            rw [iter_add]
            have e1 : iterC bs 1 ⟨w.st, P ++ [(n, y :: l)], w.left, w.back⟩ = ⟨w.st, P ++ [(n, l)], w.left, w.back ++ [(n, y)]⟩ := by
              show stepC bs ⟨w.st, P ++ [(n, y :: l)], w.left, w.back⟩ = _
              rw [step_back (y := y) (r := l) (by simp) (by rw [snoc_top]) q1, snoc_top]
              show (⟨_, (P ++ [(n, y :: l)]).set ((P ++ [(n, y :: l)]).length - 1) (n, l), _, _⟩ : Cf) = _
              rw [snoc_set]
            rw [e1]
            exact b4
          · obtain ⟨k2, b1, b2, b3, b4⟩ := ihl w hyl hl hz
            rw [on_skip q0 q1]
            refine ⟨1 + k2, by simp; omega, b2, b3, ?_⟩
            unfold Done at b4 ⊢
            rw [iter_add]
            have e1 : iterC bs 1 ⟨w.st, P ++ [(n, y :: l)], w.left, w.back⟩ = ⟨w.st, P ++ [(n, l)], w.left, w.back⟩ := by
              show stepC bs ⟨w.st, P ++ [(n, y :: l)], w.left, w.back⟩ = _
              rw [step_skip (y := y) (r := l) (by simp) (by rw [snoc_top]) q0 q1, snoc_top]
              show (⟨_, (P ++ [(n, y :: l)]).set ((P ++ [(n, y :: l)]).length - 1) (n, l), _, _⟩ : Cf) = _
              rw [snoc_set]
            rw [e1]
            exact b4
    have hnl : n.toNat < w.st.length := by unfold InB at hn; omega
    have hz1 := zer_set hnl h0
    obtain ⟨k, c1, c2, c3, c4⟩ := on (outsF bs n.toNat) ⟨w.st.set n.toNat 1, w.left, w.back⟩ (fun y hy => outsF_in hy) (by simp; exact hl) (by show zer (w.st.set n.toNat 1) ≤ f; omega)
    rw [into_succ]
    have hz2 := zer_set2 (st := (onF bs f n (outsF bs n.toNat) ⟨w.st.set n.toNat 1, w.left, w.back⟩).st) (n := n.toNat)
    have ho := outsF_len bs n.toNat
    have c3' : zer (onF bs f n (outsF bs n.toNat) ⟨w.st.set n.toNat 1, w.left, w.back⟩).st ≤ zer (w.st.set n.toNat 1) := c3
    have c1' : k + 3 * zer (onF bs f n (outsF bs n.toNat) ⟨w.st.set n.toNat 1, w.left, w.back⟩).st ≤ (outsF bs n.toNat).length + 1 + 3 * zer (w.st.set n.toNat 1) := c1
    refine ⟨k, ?_, by simp; exact c2, ?_, c4⟩
    · show k + 3 * zer (List.set _ _ _) ≤ _
      omega
    · show zer (List.set _ _ _) + 1 ≤ _
      omega
/-- The walk of a procedure. -/
def walkedF (bs : List Bk) : Wk := if bs.length = 0 then ⟨[], [], []⟩ else intoF bs bs.length 0 ⟨List.replicate bs.length 0, [], []⟩
theorem zer_rep (n : Nat) : zer (List.replicate n 0) = n := by unfold zer; simp
theorem run_walked (bs : List Bk) : ∃ N, N ≤ 3 * bs.length ∧ iterC bs N (initC bs) = ⟨(walkedF bs).st, [], (walkedF bs).left, (walkedF bs).back⟩ := by
  unfold initC walkedF
  by_cases h : bs.length = 0
  · rw [if_pos h, if_pos h]
    exact ⟨0, by omega, rfl⟩
  · rw [if_neg h, if_neg h]
    have hz := zer_rep bs.length
    obtain ⟨k, h1, _, _, h2⟩ := sim bs bs.length 0 ⟨List.replicate bs.length 0, [], []⟩ [] ⟨Int.le_refl _, by omega⟩ (by simp) (by rw [List.getD_eq_getElem?_getD, List.getElem?_replicate]; show (if 0 < bs.length then some (0 : Int) else none).getD 0 = 0; split <;> rfl) (by show zer (List.replicate bs.length 0) ≤ _; omega)
    have h1' : k + 3 * zer (intoF bs bs.length 0 ⟨List.replicate bs.length 0, [], []⟩).st ≤ 3 * zer (List.replicate bs.length 0) := h1
    exact ⟨k, by omega, h2⟩
end Go.Proofs.Ytobibplilbchfaa
