/-
  Tables of types (layer 8): how types lie.
-/
import Derived.Test.YtlhkhgkgjdfcgaaQKindSa
import Derived.Outline
namespace Go.Proofs.Ytlhkhgkgjdfcgaa
open Go.RowKit
set_option linter.unusedVariables false
set_option linter.unusedSimpArgs false
/-- Where the first k fields end. -/
def endAt (es : List Ent) (fs : List Fld) (k : Nat) : Int := if k = 0 then 0 else (fs.getD (k - 1) fld0).off + (entF es (fs.getD (k - 1) fld0).type).size
def FldLie (es : List Ent) (al : Int) (fs : List Fld) (k : Nat) : Prop :=
  endAt es fs k ≤ (fs.getD k fld0).off ∧ 1 ≤ (entF es (fs.getD k fld0).type).align ∧ (fs.getD k fld0).off % (entF es (fs.getD k fld0).type).align = 0 ∧ al % (entF es (fs.getD k fld0).type).align = 0
/-- A type lies as the document says. -/
structure LieE (es : List Ent) (e : Ent) (fs : List Fld) : Prop where
  div : e.size ≠ 0 → e.size % e.align = 0
  al : e.align = 0 ∨ e.align = 1 ∨ e.align = 4
  nof : fs = [] → e.fa = none ∧ e.fn = 0 ∧ e.fc = 0
  opn : e.kind = 5 → fs = [] → e.size = 0 ∧ e.align = 0
  fld : ∀ k, k < fs.length → FldLie es e.align fs k
  fin : endAt es fs fs.length ≤ e.size
def Lie (es : List Ent) (fss : Nat → List Fld) : Prop := ∀ i, i < es.length → LieE es (es.getD i ent0) (fss i)
/-- Sized types stay as they are. -/
def Agree (es es' : List Ent) : Prop := ∀ n, 1 ≤ (entF es n).align → entF es' n = entF es n
theorem endAt_agree {es es' : List Ent} (h : Agree es es') {fs : List Fld} {k : Nat} (hk : ∀ j, j < k → 1 ≤ (entF es (fs.getD j fld0).type).align) : endAt es' fs k = endAt es fs k := by
  unfold endAt
  by_cases h0 : k = 0
  · rw [if_pos h0, if_pos h0]
  · rw [if_neg h0, if_neg h0, h _ (hk (k - 1) (by omega))]
theorem LieE.mono {es es' : List Ent} {e : Ent} {fs : List Fld} (h : LieE es e fs) (ha : Agree es es') : LieE es' e fs := by
  have hk : ∀ k, k ≤ fs.length → endAt es' fs k = endAt es fs k := fun k hk => endAt_agree ha (fun j hj => (h.fld j (by omega)).2.1)
  refine ⟨h.div, h.al, h.nof, h.opn, fun k hk2 => ?_, by rw [hk _ (Nat.le_refl _)]; exact h.fin⟩
  obtain ⟨f1, f2, f3, f4⟩ := h.fld k hk2
  unfold FldLie
  rw [hk k (by omega), ha _ f2]
  exact ⟨f1, f2, f3, f4⟩
theorem entF_lie {es : List Ent} {fss : Nat → List Fld} (h : Lie es fss) (n : Int) : ((entF es n).size ≠ 0 → (entF es n).size % (entF es n).align = 0) ∧ ((entF es n).align = 0 ∨ (entF es n).align = 1 ∨ (entF es n).align = 4) := by
  unfold entF
  split
  · exact ⟨fun e => absurd rfl e, .inl rfl⟩
  · split
    · unfold firstEnt
      split
      · exact ⟨fun e => absurd rfl e, .inl rfl⟩
      · split
        · exact ⟨fun _ => by decide, .inr (.inr rfl)⟩
        · exact ⟨fun _ => by decide, .inr (.inl rfl)⟩
    · have hk : (n - 3).toNat < es.length := by omega
      exact ⟨(h _ hk).div, (h _ hk).al⟩
theorem agree_app (es zs : List Ent) : Agree es (es ++ zs) := by
  intro n hn
  by_cases h0 : entE es n = 0
  · exact (entE_pre h0).2
  · exfalso
    unfold entE at h0
    unfold entF at hn
    by_cases h1 : n < 0 ∨ 3 + (es.length : Int) ≤ n
    · rw [if_pos h1] at hn; revert hn; decide
    · rw [if_neg h1] at h0; exact h0 rfl
/-- One type more, without fields. -/
theorem Lie.more {es : List Ent} {fss : Nat → List Fld} (h : Lie es fss) (hout : ∀ i, es.length ≤ i → fss i = []) {x : Ent} (h1 : x.size ≠ 0 → x.size % x.align = 0) (h2 : x.align = 0 ∨ x.align = 1 ∨ x.align = 4) (h3 : x.fa = none ∧ x.fn = 0 ∧ x.fc = 0) (h4 : x.kind = 5 → x.size = 0 ∧ x.align = 0) (h5 : 0 ≤ x.size) : Lie (es ++ [x]) fss := by
  intro i hi
  by_cases hlt : i < es.length
  · have e : (es ++ [x]).getD i ent0 = es.getD i ent0 := by rw [List.getD_eq_getElem?_getD, List.getElem?_append_left hlt, ← List.getD_eq_getElem?_getD]
    rw [e]
    exact (h i hlt).mono (agree_app _ _)
  · have hi' : i = es.length := by simp at hi; omega
    subst hi'
    have e : (es ++ [x]).getD es.length ent0 = x := by rw [List.getD_eq_getElem?_getD]; simp
    rw [e, hout _ (Nat.le_refl _)]
    exact ⟨h1, h2, fun _ => h3, fun k _ => h4 k, fun k hk => absurd hk (Nat.not_lt_zero _), h5⟩
theorem Lie.make {es : List Ent} {fss : Nat → List Fld} (h : Lie es fss) (hout : ∀ i, es.length ≤ i → fss i = []) {x : Ent} (h1 : x.size ≠ 0 → x.size % x.align = 0) (h2 : x.align = 0 ∨ x.align = 1 ∨ x.align = 4) (h3 : x.fa = none ∧ x.fn = 0 ∧ x.fc = 0) (h4 : x.kind = 5 → x.size = 0 ∧ x.align = 0) (h5 : 0 ≤ x.size) : Lie (makeL es x) fss := by
  rcases makeL_or es x with e | e
  · rw [e]; exact h
  · rw [e]; exact h.more hout h1 h2 h3 h4 h5
theorem Lie.ptr {es : List Ent} {fss : Nat → List Fld} (h : Lie es fss) (hout : ∀ i, es.length ≤ i → fss i = []) (n : Int) : Lie (ptrL es n) fss := by
  unfold ptrL
  split
  · exact h.make hout (fun _ => by show (4 : Int) % 4 = 0; decide) (.inr (.inr rfl)) ⟨rfl, rfl, rfl⟩ (fun e => by cases e) (by show (0 : Int) ≤ 4; decide)
  · exact h
theorem Lie.arr {es : List Ent} {fss : Nat → List Fld} (h : Lie es fss) (hok : EsOk es) (hout : ∀ i, es.length ≤ i → fss i = []) (n long : Int) : Lie (arrL es n long) fss := by
  unfold arrL
  split
  · rename_i hx
    obtain ⟨l1, l2⟩ := entF_lie h n
    have hs : (entF es n).size ≠ 0 := fun e => by
      unfold arrX at hx
      by_cases h0 : entE es n ≠ 0
      · rw [if_pos h0] at hx; exact h0 hx
      · rw [if_neg h0, if_pos e] at hx; cases hx
    refine h.make hout (fun _ => ?_) l2 ⟨rfl, rfl, rfl⟩ (fun e => by cases e) (arrE_ok hok hx).1.1
    show (long * (entF es n).size) % (entF es n).align = 0
    rw [Int.mul_emod, l1 hs]
    simp
  · exact h
theorem Lie.open {es : List Ent} {fss : Nat → List Fld} (h : Lie es fss) (hout : ∀ i, es.length ≤ i → fss i = []) (nm : ByteArray) : Lie (openL es nm) fss := by
  unfold openL
  split
  · rcases addL_or es (openE nm) with e | e
    · rw [e]; exact h
    · rw [e]; exact h.more hout (fun e => absurd rfl e) (.inl rfl) ⟨rfl, rfl, rfl⟩ (fun _ => ⟨rfl, rfl⟩) (Int.le_refl _)
  · exact h
/-- What a laying keeps. -/
theorem lay_lie {es : List Ent} {fss : Nat → List Fld} (h : Lie es fss) {fs : List Fld} (hs : Sized es fs) : ∀ k, k ≤ fs.length →
    endAt es (layS es fs k).2.2 k = (layS es fs k).1 ∧ ((layS es fs k).2.1 = 0 ∨ (layS es fs k).2.1 = 1 ∨ (layS es fs k).2.1 = 4) ∧
    ∀ j, j < k → endAt es (layS es fs k).2.2 j ≤ ((layS es fs k).2.2.getD j fld0).off ∧ ((entF es ((layS es fs k).2.2.getD j fld0).type).align = 1 ∨ (entF es ((layS es fs k).2.2.getD j fld0).type).align = 4) ∧ ((layS es fs k).2.2.getD j fld0).off % (entF es ((layS es fs k).2.2.getD j fld0).type).align = 0 ∧ (entF es ((layS es fs k).2.2.getD j fld0).type).align ≤ (layS es fs k).2.1 := by
  intro k
  induction k with
  | zero => intro _; exact ⟨rfl, .inl rfl, fun j hj => absurd hj (Nat.not_lt_zero _)⟩
  | succ k ih =>
    intro hk
    obtain ⟨i1, i2, i3⟩ := ih (by omega)
    obtain ⟨b0, b1, b2, b3, b4, b5⟩ := layS_bound hs k (by omega)
    obtain ⟨⟨c0, c1⟩, c2, c3⟩ := hs _ (getD_mem (by omega : k < fs.length))
    have c4 := (entF_lie h (fs.getD k fld0).type).2
    rw [layS_succ es fs k (by omega)]
    generalize layS es fs k = S at *
    obtain ⟨nx, al, out⟩ := S
    simp only at i1 i2 i3 b0 b1 b2 b3 b4 b5
    generalize fs.getD k fld0 = f at *
    have u2 := upI_ge (n := nx) c2
    simp only [layStep]
    have g1 : ∀ j, j < k → (out ++ [(⟨f.name, f.type, upI nx (entF es f.type).align⟩ : Fld)]).getD j fld0 = out.getD j fld0 := fun j hj => by rw [List.getD_eq_getElem?_getD, List.getElem?_append_left (by omega), ← List.getD_eq_getElem?_getD]
    have g2 : (out ++ [(⟨f.name, f.type, upI nx (entF es f.type).align⟩ : Fld)]).getD k fld0 = ⟨f.name, f.type, upI nx (entF es f.type).align⟩ := by rw [List.getD_eq_getElem?_getD, ← b5]; simp
    have e1 : ∀ j, j ≤ k → endAt es (out ++ [(⟨f.name, f.type, upI nx (entF es f.type).align⟩ : Fld)]) j = endAt es out j := fun j hj => by
      unfold endAt
      by_cases h0 : j = 0
      · rw [if_pos h0, if_pos h0]
      · rw [if_neg h0, if_neg h0, g1 (j - 1) (by omega)]
    refine ⟨?_, ?_, fun j hj => ?_⟩
    · unfold endAt
      rw [if_neg (by omega), Nat.add_sub_cancel, g2]
    · unfold layA
      split
      · rcases c4 with c4 | c4 | c4
        · omega
        · exact .inr (.inl c4)
        · exact .inr (.inr c4)
      · exact i2
    · by_cases hjk : j < k
      · rw [e1 j (by omega), g1 j hjk]
        obtain ⟨j1, j2, j3, j4⟩ := i3 j hjk
        refine ⟨j1, j2, j3, ?_⟩
        unfold layA
        split <;> omega
      · obtain rfl : j = k := by omega
        rw [e1 j (Nat.le_refl _), g2, i1]
        refine ⟨u2, ?_, ?_, ?_⟩
        · rcases c4 with c4 | c4 | c4
          · omega
          · exact .inl c4
          · exact .inr c4
        · show upI nx (entF es f.type).align % (entF es f.type).align = 0
          unfold upI
          exact Int.mul_emod_left _ _
        · show (entF es f.type).align ≤ layA al (entF es f.type).align
          unfold layA
          split <;> omega
end Go.Proofs.Ytlhkhgkgjdfcgaa
