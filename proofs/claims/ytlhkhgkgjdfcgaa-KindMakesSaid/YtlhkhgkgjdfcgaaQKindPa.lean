/-
  Tables of types (layer 8): a type that is made again has its number, and none is made.
-/
import Derived.Test.YtlhkhgkgjdfcgaaQKindOa
import Derived.Outline
namespace Go.Proofs.Ytlhkhgkgjdfcgaa
open Go.RowKit
set_option linter.unusedVariables false
set_option linter.unusedSimpArgs false
theorem made_self (x : Ent) : sameT x x = true := by unfold sameT; simp
theorem find_app {α : Type} {P : α → Bool} {es zs : List α} (h : es.findIdx P < es.length) : (es ++ zs).findIdx P = es.findIdx P := by
  rw [List.findIdx_append, if_pos h]
theorem makeL_found {es : List Ent} {x : Ent} (h : madeK es x < es.length) : makeL es x = es := by unfold makeL; rw [if_pos h]
theorem makeA_found {es : List Ent} {x : Ent} (h : madeK es x < es.length) : makeA es x = 3 + (madeK es x : Int) := by unfold makeA; rw [if_pos h]
theorem makeB_found {es : List Ent} {x : Ent} (h : madeK es x < es.length) : makeB es x = 0 := by unfold makeB; rw [if_pos h]
/-- What is made again. -/
theorem make_again (es zs : List Ent) (x : Ent) (h : madeK es x < es.length ∨ es.length ≠ 397) :
    makeA (makeL es x ++ zs) x = makeA es x ∧ makeB (makeL es x ++ zs) x = makeB es x ∧ makeL (makeL es x ++ zs) x = makeL es x ++ zs := by
  have key : madeK (makeL es x ++ zs) x < (makeL es x ++ zs).length ∧ 3 + (madeK (makeL es x ++ zs) x : Int) = makeA es x ∧ makeB es x = 0 := by
    by_cases hk : madeK es x < es.length
    · have e1 : makeL es x = es := by unfold makeL; rw [if_pos hk]
      have e2 : madeK (es ++ zs) x = madeK es x := find_app hk
      rw [e1, e2]
      unfold makeA makeB
      rw [if_pos hk, if_pos hk]
      exact ⟨by rw [List.length_append]; omega, rfl, rfl⟩
    · have hl : es.length ≠ 397 := by
        rcases h with h | h
        · exact absurd h hk
        · exact h
      have e1 : makeL es x = es ++ [x] := by unfold makeL; rw [if_neg hk, if_neg hl]
      have e3 : madeK (es ++ [x]) x = es.length := by
        unfold madeK at hk ⊢
        rw [List.findIdx_append, if_neg hk]
        simp [List.findIdx_cons, made_self]
      have e2 : madeK (es ++ [x] ++ zs) x = es.length := by
        have hlt : madeK (es ++ [x]) x < (es ++ [x]).length := by rw [e3]; simp
        have := find_app (zs := zs) hlt
        rw [← e3]; exact this
      rw [e1, e2]
      unfold makeA makeB addA addB
      rw [if_neg hk, if_neg hk, if_neg hl, if_neg hl]
      exact ⟨by rw [List.length_append, List.length_append]; simp only [List.length_singleton]; omega, rfl, rfl⟩
  obtain ⟨k1, k2, k3⟩ := key
  exact ⟨(makeA_found k1).trans k2, (makeB_found k1).trans k3.symm, makeL_found k1⟩
theorem make_full {es : List Ent} {x : Ent} (h : ¬ (madeK es x < es.length ∨ es.length ≠ 397)) : makeL es x = es ∧ es.length = 397 := by
  have h1 : ¬ madeK es x < es.length := fun e => h (.inl e)
  have h2 : es.length = 397 := Decidable.byContradiction fun e => h (.inr e)
  unfold makeL
  rw [if_neg h1, if_pos h2]
  exact ⟨rfl, h2⟩
theorem makeL_pre (es : List Ent) (x : Ent) : ∃ zs, makeL es x = es ++ zs ∧ (es.length = 397 → zs = []) := by
  unfold makeL
  split
  · exact ⟨[], by simp, fun _ => rfl⟩
  · split
    · exact ⟨[], by simp, fun _ => rfl⟩
    · rename_i h
      exact ⟨[x], rfl, fun e => absurd e h⟩
theorem entE_pre {es zs : List Ent} {n : Int} (h : entE es n = 0) : entE (es ++ zs) n = 0 ∧ entF (es ++ zs) n = entF es n := by
  unfold entE at h ⊢
  unfold entF
  by_cases h0 : n < 0 ∨ 3 + (es.length : Int) ≤ n
  · rw [if_pos h0] at h; cases h
  · have h1 : ¬ (n < 0 ∨ 3 + ((es ++ zs).length : Int) ≤ n) := by rw [List.length_append]; push_cast; omega
    rw [if_neg h1, if_neg h1, if_neg h0]
    refine ⟨rfl, ?_⟩
    split
    · rfl
    · rw [List.getD_eq_getElem?_getD, List.getD_eq_getElem?_getD, List.getElem?_append_left (by omega)]
theorem arrL_pre (es : List Ent) (n long : Int) : ∃ zs, arrL es n long = es ++ zs ∧ (es.length = 397 → zs = []) := by
  unfold arrL
  split
  · exact makeL_pre _ _
  · exact ⟨[], by simp, fun _ => rfl⟩
theorem ptrL_pre (es : List Ent) (n : Int) : ∃ zs, ptrL es n = es ++ zs ∧ (es.length = 397 → zs = []) := by
  unfold ptrL
  split
  · exact makeL_pre _ _
  · exact ⟨[], by simp, fun _ => rfl⟩
theorem entE_none {es : List Ent} {n : Int} (h : entE es n ≠ 0) (long : Int) : ptrL es n = es ∧ arrL es n long = es := by
  unfold ptrL arrL arrX
  rw [if_neg h, if_pos h, if_neg h]
  exact ⟨rfl, rfl⟩
/-- The pointer and the array, made again. -/
theorem once (es : List Ent) (n long : Int) :
    let es1 := ptrL es n
    let es2 := arrL es1 n long
    ptrA es2 n = ptrA es n ∧ ptrB es2 n = ptrB es n ∧ ptrL es2 n = es2 ∧ arrA es2 n long = arrA es1 n long ∧ arrB es2 n long = arrB es1 n long ∧ arrL es2 n long = es2 := by
  intro es1 es2
  by_cases h0 : entE es n = 0
  · obtain ⟨z1, e1, f1⟩ := ptrL_pre es n
    obtain ⟨h1, g1⟩ := entE_pre (zs := z1) h0
    obtain ⟨z2, e2, f2⟩ := arrL_pre es1 n long
    have he1 : es1 = es ++ z1 := e1
    have he2 : es2 = es1 ++ z2 := e2
    have h1' : entE es1 n = 0 := by rw [he1]; exact h1
    obtain ⟨h2, g2⟩ := entE_pre (zs := z2) h1'
    have h2' : entE es2 n = 0 := by rw [he2]; exact h2
    have g2' : entF es2 n = entF es1 n := by rw [he2]; exact g2
    have p1 : es1 = makeL es (ptrE n) := by show ptrL es n = _; unfold ptrL; rw [if_pos h0]
    have A1 : ptrA es2 n = ptrA es n ∧ ptrB es2 n = ptrB es n ∧ ptrL es2 n = es2 := by
      unfold ptrA ptrB ptrL
      rw [h2', h0]
      simp only [if_true]
      by_cases hm : madeK es (ptrE n) < es.length ∨ es.length ≠ 397
      · have := make_again es z2 (ptrE n) hm
        rw [← p1, ← he2] at this
        exact this
      · obtain ⟨k1, k2⟩ := make_full hm
        have q1 : es1 = es := p1.trans k1
        have q2 : es2 = es := by rw [he2, f2 (by rw [q1]; exact k2), q1]; simp
        rw [q2]
        exact ⟨rfl, rfl, k1⟩
    refine ⟨A1.1, A1.2.1, A1.2.2, ?_⟩
    have x1 : arrX es2 n long = arrX es1 n long := by
      unfold arrX
      rw [h2', h1', g2']
    unfold arrA arrB
    conv => rhs; rhs; unfold arrL
    rw [x1, g2']
    by_cases hx : arrX es1 n long = 0
    · rw [if_pos hx, if_pos hx, if_pos hx, if_pos hx, if_pos hx]
      have p2 : es2 = makeL es1 (arrE n long (entF es1 n)) := by show arrL es1 n long = _; unfold arrL; rw [if_pos hx]
      by_cases hm : madeK es1 (arrE n long (entF es1 n)) < es1.length ∨ es1.length ≠ 397
      · have := make_again es1 [] (arrE n long (entF es1 n)) hm
        rw [List.append_nil, ← p2] at this
        exact this
      · obtain ⟨k1, k2⟩ := make_full hm
        have q2 : es2 = es1 := p2.trans k1
        rw [q2]
        exact ⟨rfl, rfl, k1⟩
    · rw [if_neg hx, if_neg hx, if_neg hx, if_neg hx, if_neg hx]
      exact ⟨rfl, rfl, rfl⟩
  · have q1 : es1 = es := (entE_none h0 long).1
    have q2 : es2 = es := by show arrL es1 n long = es; rw [q1]; exact (entE_none h0 long).2
    rw [q2, q1]
    exact ⟨rfl, rfl, (entE_none h0 long).1, rfl, rfl, (entE_none h0 long).2⟩
end Go.Proofs.Ytlhkhgkgjdfcgaa
