/-
  Tables of types (layer 8): the program's table and the document's, after each making.
-/
import Derived.Test.YtlhkhgkgjdfcgaaQKindEb
import Derived.Test.YtlhkhgkgjdfcgaaQKindWa
import Derived.Outline
namespace Go.Proofs.Ytlhkhgkgjdfcgaa
open Go.RowKit Go.Maps
set_option linter.unusedVariables false
set_option linter.unusedSimpArgs false
theorem entF_add (es : List Ent) (x : Ent) (n : Int) : entF (es ++ [x]) n = if n = (3 + es.length : Nat) then x else entF es n := by
  by_cases e : n = (3 + es.length : Nat)
  · rw [if_pos e]
    unfold entF
    rw [if_neg (by simp; omega), if_neg (by omega)]
    have e2 : (n - 3).toNat = es.length := by omega
    rw [e2, List.getD_eq_getElem?_getD]
    simp
  · rw [if_neg e]
    unfold entF
    by_cases h0 : n < 0 ∨ 3 + (es.length : Int) ≤ n
    · rw [if_pos h0, if_pos (by simp; omega)]
    · rw [if_neg h0, if_neg (by simp; omega)]
      by_cases h1 : n < 3
      · rw [if_pos h1, if_pos h1]
      · rw [if_neg h1, if_neg h1, List.getD_eq_getElem?_getD, List.getElem?_append_left (by omega), ← List.getD_eq_getElem?_getD]
theorem entF_set (es : List Ent) (k : Nat) (hk : k < es.length) (x : Ent) (n : Int) : entF (es.set k x) n = if n = (3 + k : Nat) then x else entF es n := by
  by_cases e : n = (3 + k : Nat)
  · rw [if_pos e]
    unfold entF
    rw [if_neg (by simp; omega), if_neg (by omega)]
    have e2 : (n - 3).toNat = k := by omega
    rw [e2, List.getD_eq_getElem?_getD, List.getElem?_set_self hk]
    rfl
  · rw [if_neg e]
    unfold entF
    rw [List.length_set]
    by_cases h0 : n < 0 ∨ 3 + (es.length : Int) ≤ n
    · rw [if_pos h0, if_pos h0]
    · rw [if_neg h0, if_neg h0]
      by_cases h1 : n < 3
      · rw [if_pos h1, if_pos h1]
      · rw [if_neg h1, if_neg h1, List.getD_eq_getElem?_getD, List.getElem?_set_ne (by omega), ← List.getD_eq_getElem?_getD]
theorem app_last {α : Type} (l : List α) (x d : α) : (l ++ [x]).getD l.length d = x := by rw [List.getD_eq_getElem?_getD]; simp
theorem app_left {α : Type} (l : List α) (x d : α) {i : Nat} (h : i < l.length) : (l ++ [x]).getD i d = l.getD i d := by rw [List.getD_eq_getElem?_getD, List.getElem?_append_left h, ← List.getD_eq_getElem?_getD]
theorem Mat.add {es : List Ent} {fss : Nat → List Fld} {rs : List RT} {rk : Int → Nat} (h : Mat es fss rs rk) {x : Ent} {t : RT} (ht : Twin x t) (hx : EntOk x) (hnf : x.fa = none ∧ x.fn = 0 ∧ x.fc = 0)
    (h3 : t.kind = 3 ∧ x.size = 4 ∧ x.align = 4 ∧ t.opn = false ∨ t.kind = 4 ∧ x.size = t.len * szE es t.elem ∧ x.align = alE es t.elem ∧ 1 ≤ x.align ∧ t.opn = false ∨ t.opn = true ∧ x.size = 0 ∧ x.align = 0) :
    ∃ rk', Mat (es ++ [x]) fss (rs ++ [t]) rk' := by
  have hl := h.len
  have D := h.doc.add h.dep t x.size x.align ⟨hx.1.1, by have := hx.1.2; omega⟩ hx.2.1 h3
  have e1 : (fun n => if n = (rs.length : Int) then x.size else szE es n) = szE (es ++ [x]) := funext fun n => by
    show _ = (entF (es ++ [x]) n).size
    rw [entF_add, hl]
    by_cases e : n = ((3 + es.length : Nat) : Int)
    · rw [if_pos e, if_pos e]
    · rw [if_neg e, if_neg e]; rfl
  have e2 : (fun n => if n = (rs.length : Int) then x.align else alE es n) = alE (es ++ [x]) := funext fun n => by
    show _ = (entF (es ++ [x]) n).align
    rw [entF_add, hl]
    by_cases e : n = ((3 + es.length : Nat) : Int)
    · rw [if_pos e, if_pos e]
    · rw [if_neg e, if_neg e]; rfl
  rw [e1, e2] at D
  have hN : rin rs (rs.length : Int) = false := by unfold rin; exact decide_eq_false (by omega)
  have h0 : alE es (rs.length : Int) = 0 := (h.doc.no _ hN).2
  have hal : ∀ m : Int, 1 ≤ alE es m → alE (es ++ [x]) m = alE es m := fun m hm => by
    rw [← e2]
    dsimp only
    rw [if_neg (fun e => by rw [e, h0] at hm; omega)]
  refine ⟨_, ⟨fun e he => ?_, by simp; omega, ?_, fun i hi => ?_, D, fun n hn ho hk => ?_, h.dis, fun i hi hf => ?_⟩⟩
  · rcases List.mem_append.1 he with q | q
    · exact h.ok e q
    · simp at q; subst q; exact hx
  · obtain ⟨a, b, c⟩ := h.first
    exact ⟨by rw [app_left rs t rt0 (by omega)]; exact a, by rw [app_left rs t rt0 (by omega)]; exact b, by rw [app_left rs t rt0 (by omega)]; exact c⟩
  · by_cases hlt : i < es.length
    · rw [app_left es x ent0 hlt, app_left rs t rt0 (by omega)]
      exact h.twin i hlt
    · have hi' : i = es.length := by simp at hi; omega
      rw [hi', app_last, show 3 + es.length = rs.length from hl.symm, app_last]
      exact ht
  · rcases rin_add.1 hn with q | q
    · rw [rAt_add q] at ho hk ⊢
      have := h.dep n q ho hk
      rw [hal _ this]; exact this
    · rw [q, rAt_new] at ho hk ⊢
      rcases h3 with ⟨r, _⟩ | ⟨r, _, r2, r3, _⟩ | ⟨r, _⟩
      · omega
      · rw [hal _ (by omega)]; omega
      · rw [r] at ho; cases ho
  · by_cases hlt : i < es.length
    · rw [app_left es x ent0 hlt]; exact h.nof i hlt hf
    · have hi' : i = es.length := by simp at hi; omega
      rw [hi', app_last]; exact hnf
theorem layS_is {es : List Ent} {fs : List Fld} (hs : Sized es fs) : ∀ k, k ≤ fs.length → (layS es fs k).1 = endF (szE es) (alE es) fs k ∧ (layS es fs k).2.1 = (if k = 0 then 0 else alF (alE es) fs k) ∧ (layS es fs k).2.2 = ownF (szE es) (alE es) fs k := by
  intro k
  induction k with
  | zero => intro _; exact ⟨rfl, rfl, rfl⟩
  | succ k ih =>
    intro hk
    obtain ⟨i1, i2, i3⟩ := ih (by omega)
    have hm := hs _ (getD_mem (by omega : k < fs.length))
    rw [layS_succ es fs k (by omega), endF_succ _ _ fs k _ (by omega) rfl, if_neg (by omega), alF_succ _ fs k _ (by omega) rfl]
    unfold layStep
    dsimp only
    rw [i1, i2, i3]
    refine ⟨rfl, ?_, ?_⟩
    · show layA _ (alE es (fs.getD k fld0).type) = _
      have h1 : 1 ≤ alE es (fs.getD k fld0).type := hm.2.1
      by_cases h0 : k = 0
      · subst h0
        rw [if_pos rfl]
        show layA 0 _ = layA 1 _
        unfold layA
        split <;> split <;> omega
      · rw [if_neg h0]
    · unfold ownF
      rw [List.range_succ, List.map_append]
      rfl
theorem sameN_own (sz al : Int → Int) (fs : List Fld) : dupB (ownF sz al fs fs.length) = dupB fs := by
  unfold dupB
  rw [ownF_len]
  have e : ∀ i k, i < fs.length → k < i → sameN ((ownF sz al fs fs.length).getD k fld0) ((ownF sz al fs fs.length).getD i fld0) = sameN (fs.getD k fld0) (fs.getD i fld0) := fun i k hi hk => by
    rw [ownF_get _ _ _ _ _ (by omega), ownF_get _ _ _ _ _ hi]; rfl
  rw [Bool.eq_iff_iff, List.any_eq_true, List.any_eq_true]
  constructor
  · rintro ⟨i, hi, h⟩
    obtain ⟨k, hk, h⟩ := List.any_eq_true.1 h
    rw [e i k (List.mem_range.1 hi) (List.mem_range.1 hk)] at h
    exact ⟨i, hi, List.any_eq_true.2 ⟨k, hk, h⟩⟩
  · rintro ⟨i, hi, h⟩
    obtain ⟨k, hk, h⟩ := List.any_eq_true.1 h
    rw [← e i k (List.mem_range.1 hi) (List.mem_range.1 hk)] at h
    exact ⟨i, hi, List.any_eq_true.2 ⟨k, hk, h⟩⟩
theorem key_same (f h : Fld) : (nameKey f).sameKey (nameKey h) = sameN f h := by
  unfold nameKey sameN
  rw [ByteArray.toList_eq, ByteArray.toList_eq]
  rfl
theorem keys_len (xs : List Lit) : ∀ L : List Lit, (xs.foldl addKey L).length ≤ L.length + xs.length := by
  induction xs with
  | nil => intro L; simp
  | cons x t ih =>
    intro L
    rw [List.foldl_cons]
    have h1 := ih (addKey L x)
    have h2 : (addKey L x).length ≤ L.length + 1 := by unfold addKey; split <;> simp
    rw [List.length_cons]
    omega
/-- As many keys as names, where no name comes twice; fewer where one does. -/
theorem keys_fs (fs : List Fld) : ∀ k, k ≤ fs.length →
    (∀ x, ((nameKeys fs k).foldl addKey []).any (fun y => y.sameKey (nameKey x)) = (List.range k).any (fun j => sameN (fs.getD j fld0) x)) ∧
    (((nameKeys fs k).foldl addKey []).length = k ↔ (List.range k).any (fun i => (List.range i).any fun j => sameN (fs.getD j fld0) (fs.getD i fld0)) = false) := by
  intro k
  induction k with
  | zero => intro _; exact ⟨fun x => rfl, ⟨fun _ => rfl, fun _ => rfl⟩⟩
  | succ k ih =>
    intro hk
    obtain ⟨i1, i2⟩ := ih (by omega)
    have hle := keys_len (nameKeys fs k) []
    have hnk : (nameKeys fs k).length = k := by unfold nameKeys; rw [List.length_map, List.length_take]; omega
    have e : nameKeys fs (k + 1) = nameKeys fs k ++ [nameKey (fs.getD k fld0)] := by
      unfold nameKeys
      rw [List.take_add_one, List.map_append, List.getD_eq_getElem?_getD, List.getElem?_eq_getElem (by omega : k < fs.length)]
      rfl
    rw [e, List.foldl_append, List.foldl_cons, List.foldl_nil, List.range_succ, List.any_append]
    generalize (nameKeys fs k).foldl addKey [] = L at *
    have hk1 := i1 (fs.getD k fld0)
    have hcell : ∀ x, (List.range k ++ [k]).any (fun j => sameN (fs.getD j fld0) x) = ((List.range k).any (fun j => sameN (fs.getD j fld0) x) || sameN (fs.getD k fld0) x) := fun x => by rw [List.any_append]; simp
    simp only [List.any_cons, List.any_nil, Bool.or_false]
    unfold addKey
    by_cases ha : L.any (fun y => y.sameKey (nameKey (fs.getD k fld0))) = true
    · rw [if_pos ha]
      refine ⟨fun x => ?_, ⟨fun hh => ?_, fun hh => ?_⟩⟩
      · rw [hcell, ← i1 x]
        cases hq : sameN (fs.getD k fld0) x with
        | false => rw [Bool.or_false]
        | true =>
          have : nameKey (fs.getD k fld0) = nameKey x := by
            have := key_same (fs.getD k fld0) x
            rw [hq] at this
            exact WideAt.sameKey_eq this
          rw [← this, ha]; rfl
      · simp at hle; omega
      · rw [← hk1, ha, Bool.or_true] at hh; cases hh
    · rw [if_neg ha]
      have ha' : L.any (fun y => y.sameKey (nameKey (fs.getD k fld0))) = false := by
        cases hq : L.any (fun y => y.sameKey (nameKey (fs.getD k fld0))) with
        | false => rfl
        | true => exact absurd hq ha
      refine ⟨fun x => ?_, ?_⟩
      · rw [List.any_append, hcell, ← i1 x]
        simp [key_same]
      · rw [← hk1, ha', Bool.or_false, List.length_append, List.length_singleton]
        rw [← i2]
        omega
theorem rep_dup (fs : List Fld) : repB fs = dupB fs := by
  have h := (keys_fs fs fs.length (Nat.le_refl _)).2
  have hle := keys_len (nameKeys fs fs.length) []
  have hnk : (nameKeys fs fs.length).length = fs.length := by unfold nameKeys; rw [List.length_map, List.length_take]; omega
  have hsz : size (nameSet fs fs.length) = ((nameKeys fs fs.length).foldl addKey []).length := size_setOf _ _ (fun x hx => by
    unfold nameKeys at hx
    obtain ⟨f, _, rfl⟩ := List.mem_map.1 hx
    exact trivial)
  unfold repB
  rw [hsz]
  change _ = (List.range fs.length).any (fun i => (List.range i).any fun j => sameN (fs.getD j fld0) (fs.getD i fld0))
  simp only [List.length_nil] at hle
  cases hq : (List.range fs.length).any (fun i => (List.range i).any fun j => sameN (fs.getD j fld0) (fs.getD i fld0)) with
  | false => exact decide_eq_false (by have := h.2 hq; omega)
  | true => exact decide_eq_true (by
      have : ((nameKeys fs fs.length).foldl addKey []).length ≠ fs.length := fun q => by rw [h.1 q] at hq; cases hq
      omega)
theorem Mat.may {es : List Ent} {fss : Nat → List Fld} {rs : List RT} {rk : Int → Nat} (h : Mat es fss rs rk) (fs : List Fld) : mayV rs (szE es) fs = chk es fs := by
  have e1 : noRT rs = noType es := funext fun f => by
    unfold noRT noType
    rw [h.inE f.type]
    cases rin rs f.type <;> rfl
  have e2 : noRS (szE es) = noSize es := rfl
  unfold mayV chk
  rw [e1, e2, rep_dup]
theorem Mat.set {es : List Ent} {fss : Nat → List Fld} {rs : List RT} {rk : Int → Nat} (h : Mat es fss rs rk) {nm : ByteArray} {fs : List Fld} (hx : structX es nm fs = 0) (hlen : fs.length ≤ 1000) (g c : Nat) (fa : Option Addr) (fc : Nat) :
    ∃ rk', Mat (es.set (findK es nm) (laidE es nm fs g c)) (setFs fss (findK es nm) (layS es fs fs.length).2.2) (rs.set (3 + findK es nm) (laidR nm fa fs.length fc)) rk' := by
  obtain ⟨k0, k1, k2, k3⟩ := structX_zero hx
  have hs := sized_of h.ok k2
  have hl1 := (chk_zero k2).1
  have hl := h.len
  obtain ⟨l1, l2, l3⟩ := layS_is hs fs.length (Nat.le_refl _)
  rw [if_neg (by omega)] at l2
  obtain ⟨b0, b1, _⟩ := layS_bound hs fs.length (Nat.le_refl _)
  have hw := h.twin _ k0
  have hopn : (rs.getD (3 + findK es nm) rt0).opn = true := by
    rw [hw.opn, findK_is k0, k1]; rfl
  have hin : rin rs ((3 + findK es nm : Nat) : Int) = true := decide_eq_true (by omega)
  have hz := h.doc.zero ((3 + findK es nm : Nat) : Int) hin (.inr (by unfold rAt; rw [Int.toNat_natCast]; exact hopn))
  have D := h.doc.set h.dep (3 + findK es nm) (by omega) hz.2 fs (fun f hf => (hs f hf).2.1) (by rw [← l1]; omega) nm fa fs.length fc
  have e1 : (fun n => if n = ((3 + findK es nm : Nat) : Int) then upI (endF (szE es) (alE es) fs fs.length) (alF (alE es) fs fs.length) else szE es n) = szE (es.set (findK es nm) (laidE es nm fs g c)) := funext fun n => by
    show _ = (entF (es.set (findK es nm) (laidE es nm fs g c)) n).size
    rw [entF_set es _ k0]
    by_cases e : n = ((3 + findK es nm : Nat) : Int)
    · rw [if_pos e, if_pos e]
      show _ = upI (layS es fs fs.length).1 (layS es fs fs.length).2.1
      rw [l1, l2]
    · rw [if_neg e, if_neg e]; rfl
  have e2 : (fun n => if n = ((3 + findK es nm : Nat) : Int) then alF (alE es) fs fs.length else alE es n) = alE (es.set (findK es nm) (laidE es nm fs g c)) := funext fun n => by
    show _ = (entF (es.set (findK es nm) (laidE es nm fs g c)) n).align
    rw [entF_set es _ k0]
    by_cases e : n = ((3 + findK es nm : Nat) : Int)
    · rw [if_pos e, if_pos e]
      show _ = (layS es fs fs.length).2.1
      rw [l2]
    · rw [if_neg e, if_neg e]; rfl
  have e3 : (fun i => if i = 3 + findK es nm then ownF (szE es) (alE es) fs fs.length else dF fss i) = dF (setFs fss (findK es nm) (layS es fs fs.length).2.2) := funext fun i => by
    unfold dF setFs
    rw [l3]
    by_cases e : i = 3 + findK es nm
    · rw [if_pos e, if_neg (by omega), if_pos (by omega)]
    · rw [if_neg e]
      by_cases h3 : i < 3
      · rw [if_pos h3, if_pos h3]
      · rw [if_neg h3, if_neg h3, if_neg (by omega)]
  have hal : ∀ m : Int, 1 ≤ alE es m → alE (es.set (findK es nm) (laidE es nm fs g c)) m = alE es m := fun m hm => by
    rw [← e2]
    dsimp only
    rw [if_neg (fun e => by rw [e, hz.2] at hm; omega)]
  rw [e1, e2, e3] at D
  have hsg : ∀ i, i ≠ 3 + findK es nm → (rs.set (3 + findK es nm) (laidR nm fa fs.length fc)).getD i rt0 = rs.getD i rt0 := fun i hi => by
    rw [List.getD_eq_getElem?_getD, List.getElem?_set_ne (by omega), ← List.getD_eq_getElem?_getD]
  refine ⟨_, ⟨fun e he => ?_, by rw [List.length_set, List.length_set]; exact hl, ?_, fun i hi => ?_, D, fun n hn ho hk => ?_, fun i => ?_, fun i hi hf => ?_⟩⟩
  · rcases List.mem_or_eq_of_mem_set he with q | q
    · exact h.ok e q
    · subst q
      have b := layS_bound hs fs.length (Nat.le_refl _)
      have u := upI_ge (n := (layS es fs fs.length).1) (b.2.2.2.2.1 (by omega))
      exact ⟨⟨by show 0 ≤ upI (layS es fs fs.length).1 (layS es fs fs.length).2.1; omega, by show upI (layS es fs fs.length).1 (layS es fs fs.length).2.1 ≤ 32768; omega⟩, ⟨b.2.2.1, b.2.2.2.1⟩, fun _ => b.2.2.2.2.1 (by omega)⟩
  · obtain ⟨a, b, c⟩ := h.first
    exact ⟨by rw [hsg 0 (by omega)]; exact a, by rw [hsg 1 (by omega)]; exact b, by rw [hsg 2 (by omega)]; exact c⟩
  · rw [List.length_set] at hi
    by_cases e : i = findK es nm
    · subst e
      rw [List.getD_eq_getElem?_getD, List.getElem?_set_self hi, List.getD_eq_getElem?_getD, List.getElem?_set_self (by omega)]
      refine ⟨rfl, rfl, rfl, rfl, rfl, ?_⟩
      show false = ((5 : Int) == 5 && fs.length == 0)
      have : (fs.length == 0) = false := by rw [beq_eq_false_iff_ne]; omega
      rw [this]; rfl
    · rw [hsg (3 + i) (by omega), List.getD_eq_getElem?_getD, List.getElem?_set_ne (fun q => e q.symm), ← List.getD_eq_getElem?_getD]
      exact h.twin i hi
  · rw [rin_set] at hn
    have hn0 : 0 ≤ n := (of_decide_eq_true hn).1
    by_cases e : n = ((3 + findK es nm : Nat) : Int)
    · rw [e, rAt_set_self (by omega)] at hk; cases hk
    · rw [rAt_set hn0 e] at ho hk ⊢
      have := h.dep n hn ho hk
      rw [hal _ this]; exact this
  · rw [← e3]
    dsimp only
    by_cases e : i = 3 + findK es nm
    · rw [if_pos e, sameN_own, ← rep_dup]; exact (chk_zero k2).2.2.2.2
    · rw [if_neg e]; exact h.dis i
  · rw [List.length_set] at hi
    by_cases e : i = findK es nm
    · exfalso
      unfold setFs at hf
      rw [if_pos e, l3] at hf
      have := ownF_len (szE es) (alE es) fs fs.length
      rw [hf] at this
      simp at this
      omega
    · unfold setFs at hf
      rw [if_neg e] at hf
      rw [List.getD_eq_getElem?_getD, List.getElem?_set_ne (fun q => e q.symm), ← List.getD_eq_getElem?_getD]
      exact h.nof i hi hf
end Go.Proofs.Ytlhkhgkgjdfcgaa
