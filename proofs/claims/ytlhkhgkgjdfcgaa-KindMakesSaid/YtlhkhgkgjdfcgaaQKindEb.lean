/-
  Tables of types (layer 8): the program's table and the document's, side by side.
-/
import Derived.Test.YtlhkhgkgjdfcgaaQKindDb
import Derived.Outline
namespace Go.Proofs.Ytlhkhgkgjdfcgaa
open Go.RowKit
set_option linter.unusedVariables false
set_option linter.unusedSimpArgs false
/-- The document's fields of each type. -/
def dF (fss : Nat → List Fld) (i : Nat) : List Fld := if i < 3 then [] else fss (i - 3)
def szE (es : List Ent) : Int → Int := fun n => (entF es n).size
def alE (es : List Ent) : Int → Int := fun n => (entF es n).align
/-- A type in both tables. -/
structure Twin (e : Ent) (t : RT) : Prop where
  kind : t.kind = e.kind
  elem : t.elem = e.elem
  len : t.len = e.len
  name : t.name = e.name
  fn : t.fn = e.fn
  opn : t.opn = (e.kind == 5 && e.fn == 0)
structure Mat (es : List Ent) (fss : Nat → List Fld) (rs : List RT) (rk : Int → Nat) : Prop where
  ok : EsOk es
  len : rs.length = 3 + es.length
  first : rs.getD 0 rt0 = rt0 ∧ rs.getD 1 rt0 = rt1 ∧ rs.getD 2 rt0 = rt2
  twin : ∀ i, i < es.length → Twin (es.getD i ent0) (rs.getD (3 + i) rt0)
  doc : Doc rs (dF fss) (szE es) (alE es) rk
  dep : ∀ n, rin rs n = true → (rAt rs n).opn = false → (rAt rs n).kind = 4 → 1 ≤ alE es (rAt rs n).elem
  dis : ∀ i, dupB (dF fss i) = false
  nof : ∀ i, i < es.length → fss i = [] → (es.getD i ent0).fa = none ∧ (es.getD i ent0).fn = 0 ∧ (es.getD i ent0).fc = 0
theorem Mat.first_kind {es : List Ent} {fss : Nat → List Fld} {rs : List RT} {rk : Int → Nat} (h : Mat es fss rs rk) {i : Nat} (hi : i < 3) : (rs.getD i rt0).kind ≤ 2 ∧ (rs.getD i rt0).fn = 0 ∧ (rs.getD i rt0).opn = false ∧ (rs.getD i rt0).fa = none := by
  obtain ⟨a, b, c⟩ := h.first
  match i, hi with
  | 0, _ => rw [a]; exact ⟨by decide, rfl, rfl, rfl⟩
  | 1, _ => rw [b]; exact ⟨by decide, rfl, rfl, rfl⟩
  | 2, _ => rw [c]; exact ⟨by decide, rfl, rfl, rfl⟩
/-- Where the first one of a sort is. -/
theorem Mat.idx {es : List Ent} {fss : Nat → List Fld} {rs : List RT} {rk : Int → Nat} (h : Mat es fss rs rk) {P : RT → Bool} {Q : Ent → Bool} (h3 : ∀ i, i < 3 → P (rs.getD i rt0) = false) (hq : ∀ e t, Twin e t → P t = Q e) : rs.findIdx P = 3 + es.findIdx Q := by
  have hget : ∀ j, j < es.length → P (rs.getD (3 + j) rt0) = Q (es.getD j ent0) := fun j hj => hq _ _ (h.twin j hj)
  by_cases hk : es.findIdx Q < es.length
  · refine rt_at (by have := h.len; omega) ?_ (fun j hj => ?_)
    · rw [hget _ hk, List.getD_eq_getElem?_getD, List.getElem?_eq_getElem hk]
      exact List.findIdx_getElem (p := Q) (w := hk)
    · by_cases h3j : j < 3
      · exact h3 j h3j
      · have e : j = 3 + (j - 3) := by omega
        have hlt : j - 3 < es.findIdx Q := by omega
        rw [e, hget _ (by omega), List.getD_eq_getElem?_getD, List.getElem?_eq_getElem (by omega)]
        have := List.not_of_lt_findIdx (p := Q) (xs := es) hlt
        simpa using this
  · have hk2 : es.findIdx Q = es.length := by
      have := List.findIdx_le_length (p := Q) (xs := es); omega
    rw [hk2, ← h.len]
    refine rt_no (fun j hj => ?_)
    by_cases h3j : j < 3
    · exact h3 j h3j
    · have e : j = 3 + (j - 3) := by omega
      have hlt : j - 3 < es.length := by have := h.len; omega
      rw [e, hget _ hlt, List.getD_eq_getElem?_getD, List.getElem?_eq_getElem hlt]
      have := List.not_of_lt_findIdx (p := Q) (xs := es) (i := j - 3) (by omega)
      simpa using this
theorem Mat.rfind {es : List Ent} {fss : Nat → List Fld} {rs : List RT} {rk : Int → Nat} (h : Mat es fss rs rk) (nm : ByteArray) : rfind rs nm = 3 + findK es nm := by
  refine h.idx (fun i hi => ?_) (fun e t ht => ?_)
  · have := (h.first_kind hi).1
    unfold isRName
    have e : ((rs.getD i rt0).kind == 5) = false := by rw [beq_eq_false_iff_ne]; omega
    rw [e]; rfl
  · unfold isRName isName
    rw [ht.kind, ht.name]
theorem Mat.ridx {es : List Ent} {fss : Nat → List Fld} {rs : List RT} {rk : Int → Nat} (h : Mat es fss rs rk) {x : Ent} {t : RT} (hk : t.kind = x.kind) (he : t.elem = x.elem) (hl : t.len = x.len) (h3 : 3 ≤ x.kind) (h5 : x.kind ≠ 5) : rs.findIdx (rsame t) = 3 + madeK es x := by
  refine h.idx (fun i hi => ?_) (fun e u hu => ?_)
  · have := (h.first_kind hi).1
    unfold rsame
    have e : ((rs.getD i rt0).kind == t.kind) = false := by rw [beq_eq_false_iff_ne]; omega
    rw [e]; rfl
  · unfold rsame sameT
    have e5 : (t.kind != 5) = true := by rw [bne_iff_ne]; omega
    rw [e5, hu.kind, hu.elem, hu.len, hk, he, hl, Bool.and_true]
theorem Mat.put {es : List Ent} {fss : Nat → List Fld} {rs : List RT} {rk : Int → Nat} (h : Mat es fss rs rk) (hfew : es.length ≤ 397) {x : Ent} {t : RT} (hk : t.kind = x.kind) (he : t.elem = x.elem) (hl : t.len = x.len) (h3 : 3 ≤ x.kind) (h5 : x.kind ≠ 5) :
    putN rs t = makeA es x ∧ putX rs t = makeB es x ∧ ((putL rs t = rs ∧ makeL es x = es) ∨ (putL rs t = rs ++ [t] ∧ makeL es x = es ++ [x])) := by
  have hi := h.ridx hk he hl h3 h5
  have hl2 := h.len
  unfold putN putX putL makeA makeB makeL addA addB
  rw [hi, hl2]
  by_cases hm : madeK es x < es.length
  · have m1 : 3 + madeK es x < 3 + es.length := by omega
    simp only [if_pos hm, if_pos m1]
    exact ⟨by omega, trivial, .inl ⟨trivial, trivial⟩⟩
  · have m1 : ¬ 3 + madeK es x < 3 + es.length := by omega
    by_cases hf : es.length = 397
    · have m2 : 400 ≤ 3 + es.length := by omega
      simp only [if_neg hm, if_neg m1, if_pos hf, if_pos m2]
      exact ⟨trivial, trivial, .inl ⟨trivial, trivial⟩⟩
    · have m2 : ¬ 400 ≤ 3 + es.length := by omega
      simp only [if_neg hm, if_neg m1, if_neg hf, if_neg m2]
      exact ⟨by omega, trivial, .inr ⟨trivial, trivial⟩⟩
theorem Mat.putOpen {es : List Ent} {fss : Nat → List Fld} {rs : List RT} {rk : Int → Nat} (h : Mat es fss rs rk) (hfew : es.length ≤ 397) (nm : ByteArray) :
    putN rs (openR nm) = addA es ∧ putX rs (openR nm) = addB es ∧ ((putL rs (openR nm) = rs ∧ addL es (openE nm) = es) ∨ (putL rs (openR nm) = rs ++ [openR nm] ∧ addL es (openE nm) = es ++ [openE nm])) := by
  have hi : rs.findIdx (rsame (openR nm)) = rs.length := rt_no (fun j hj => by unfold rsame openR; simp)
  have hl2 := h.len
  unfold putN putX putL addA addB addL
  have m1 : ¬ 3 + es.length < 3 + es.length := Nat.lt_irrefl _
  rw [hi, hl2]
  by_cases hf : es.length = 397
  · have m2 : 400 ≤ 3 + es.length := by omega
    simp only [if_neg m1, if_pos hf, if_pos m2]
    exact ⟨trivial, trivial, .inl ⟨trivial, trivial⟩⟩
  · have m2 : ¬ 400 ≤ 3 + es.length := by omega
    simp only [if_neg m1, if_neg hf, if_neg m2]
    exact ⟨by omega, trivial, .inr ⟨trivial, trivial⟩⟩
theorem Mat.inE {es : List Ent} {fss : Nat → List Fld} {rs : List RT} {rk : Int → Nat} (h : Mat es fss rs rk) (n : Int) : entE es n = if rin rs n then 0 else 4 := by
  unfold entE Proofs.Ytlhkhgkgjdfcgaa.rin
  have hl := h.len
  by_cases h0 : n < 0 ∨ 3 + (es.length : Int) ≤ n
  · rw [if_pos h0, decide_eq_false (by omega), if_neg (by decide)]
  · rw [if_neg h0, decide_eq_true (by omega), if_pos rfl]
/-- The errors of an array. -/
theorem Mat.arr {es : List Ent} {fss : Nat → List Fld} {rs : List RT} {rk : Int → Nat} (h : Mat es fss rs rk) (n long : Int) : arrX es n long = (if Proofs.Ytlhkhgkgjdfcgaa.rin rs n then (if szE es n = 0 then 5 else if long < 1 then 1 else if 32768 < long then 2 else if 32768 < long * szE es n then 2 else 0) else 4) := by
  unfold arrX
  rw [h.inE n]
  have ho := entF_ok h.ok n
  change _ = if Proofs.Ytlhkhgkgjdfcgaa.rin rs n then (if (entF es n).size = 0 then 5 else if long < 1 then 1 else if 32768 < long then 2 else if 32768 < long * (entF es n).size then 2 else 0) else 4
  cases Proofs.Ytlhkhgkgjdfcgaa.rin rs n with
  | false => rfl
  | true =>
    rw [if_pos rfl, if_pos rfl, if_neg (by decide)]
    obtain ⟨⟨s0, s1⟩, _⟩ := ho
    generalize (entF es n).size = s at *
    by_cases hs : s = 0
    · rw [if_pos hs, if_pos hs]
    · rw [if_neg hs, if_neg hs]
      by_cases hl : long < 1
      · rw [if_pos hl, if_pos hl]
      · rw [if_neg hl, if_neg hl]
        have hsp : 0 < s := by omega
        have key : 32768 / s < long ↔ 32768 < long * s := Int.ediv_lt_iff_lt_mul hsp
        by_cases h1 : 32768 < long
        · have h2 : 32768 < long * s := by
            have : long * 1 ≤ long * s := Int.mul_le_mul_of_nonneg_left (by omega) (by omega)
            omega
          rw [if_pos (key.2 h2), if_pos h1]
        · rw [if_neg h1]
          by_cases h2 : 32768 < long * s
          · rw [if_pos (key.2 h2), if_pos h2]
          · rw [if_neg (fun q => h2 (key.1 q)), if_neg h2]
theorem firstEnt_al (n : Int) : 0 ≤ (firstEnt n).size ∧ (firstEnt n).size ≤ 4 ∧ 0 ≤ (firstEnt n).align ∧ (firstEnt n).align ≤ 4 := by
  unfold firstEnt
  split
  · refine ⟨?_, ?_, ?_, ?_⟩ <;> simp [ent0]
  · split
    · refine ⟨?_, ?_, ?_, ?_⟩ <;> simp [ent1]
    · refine ⟨?_, ?_, ?_, ?_⟩ <;> simp [ent2]
/-- At the first. -/
theorem Mat.start : Mat [] (fun _ => []) begin3 (fun _ => 0) := by
  have hin : ∀ n : Int, rin begin3 n = true → n = 0 ∨ n = 1 ∨ n = 2 := fun n h => by
    have := of_decide_eq_true h
    have e : (begin3.length : Int) = 3 := rfl
    omega
  have hs : ∀ n : Int, rin begin3 n = false → entF [] n = ent0 := fun n h => by
    have := of_decide_eq_false h
    have e : (begin3.length : Int) = 3 := rfl
    have e2 : (([] : List Ent).length : Int) = 0 := rfl
    unfold entF
    rw [if_pos (by omega)]
  refine ⟨fun e he => (by cases he), rfl, ⟨rfl, rfl, rfl⟩, fun i hi => absurd hi (Nat.not_lt_zero _), ?_, fun n hn ho hk => ?_, fun i => ?_, fun i hi => absurd hi (Nat.not_lt_zero _)⟩
  · refine ⟨fun n hn => ?_, fun n hn hz => ?_, fun n hn ho hk => ?_, fun n hn ho hk => ?_, fun n hn ho hk => ?_, fun n hn ho k0 k2 k4 k5 => ?_, fun n => ?_⟩
    · unfold szE alE; rw [hs n hn]; exact ⟨rfl, rfl⟩
    · rcases hin n hn with rfl | rfl | rfl
      · exact ⟨rfl, rfl⟩
      · rcases hz with hz | hz <;> cases hz
      · rcases hz with hz | hz <;> cases hz
    · rcases hin n hn with rfl | rfl | rfl
      · cases hk
      · cases hk
      · exact ⟨rfl, rfl⟩
    · rcases hin n hn with rfl | rfl | rfl <;> cases hk
    · rcases hin n hn with rfl | rfl | rfl <;> cases hk
    · rcases hin n hn with rfl | rfl | rfl
      · exact absurd rfl k0
      · exact ⟨rfl, rfl⟩
      · exact absurd rfl k2
    · cases hb : rin begin3 n with
      | false => unfold szE alE; rw [hs n hb]; refine ⟨?_, ?_, ?_, ?_⟩ <;> simp [ent0]
      | true => rcases hin n hb with rfl | rfl | rfl <;> refine ⟨?_, ?_, ?_, ?_⟩ <;> decide
  · rcases hin n hn with rfl | rfl | rfl <;> cases hk
  · unfold dF
    split <;> rfl
end Go.Proofs.Ytlhkhgkgjdfcgaa
