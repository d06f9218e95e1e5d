/-
  Tables of types (layer 8): what a caller sees of a table, or of none.
-/
import Derived.Test.YtlhkhgkgjdfcgaaQKindFa
import Derived.Outline
namespace Go.Proofs.Ytlhkhgkgjdfcgaa
open Go.RowKit
set_option linter.unusedVariables false
set_option linter.unusedSimpArgs false
/-- A state of memory that calls turn: what holds, and which blocks are none of its own. -/
structure Face where
  P : World → Prop
  off : World → Nat → Prop
  lo : Nat
  keep : ∀ W W', P W → Fr (fun j => off W j ∧ lo ≤ j) W W' → P W' ∧ ∀ b, off W b → off W' b
  new : ∀ W b, P W → W.heap.size ≤ b → off W b
  old : ∀ W b, P W → b < lo → off W b
  le : ∀ W, P W → lo ≤ W.heap.size
theorem Face.quiet (F : Face) {W W' : World} (h : F.P W) (hf : Fr (fun _ => False) W W') : F.P W' := (F.keep W W' h (hf.mono (fun _ _ f => f.elim))).1
theorem Face.offq (F : Face) {W W' : World} (h : F.P W) (hf : Fr (fun _ => False) W W') {b : Nat} (ho : F.off W b) : F.off W' b := (F.keep W W' h (hf.mono (fun _ _ f => f.elim))).2 b ho
/-- What a call leaves of the blocks that are none of the state's. -/
def Trn (F G : Face) (w w' : World) : Prop := w.heap.size ≤ w'.heap.size ∧ ∀ b, b < w.heap.size → F.off w b → w'.heap[b]? = w.heap[b]? ∧ G.off w' b
theorem Trn.trans {F G H : Face} {a b c : World} (h : Trn F G a b) (k : Trn G H b c) : Trn F H a c :=
  ⟨Nat.le_trans h.1 k.1, fun i hi ho => by
    obtain ⟨x, y⟩ := h.2 i hi ho
    obtain ⟨x2, y2⟩ := k.2 i (Nat.lt_of_lt_of_le hi h.1) y
    exact ⟨x2.trans x, y2⟩⟩
theorem Trn.quiet {F : Face} {w w' : World} (h : F.P w) (hf : Fr (fun _ => False) w w') : Trn F F w w' := ⟨hf.size, fun b hb ho => ⟨hf.block b hb id, F.offq h hf ho⟩⟩
/-- A write to new blocks alone. -/
theorem Trn.write {F G : Face} {w W W' : World} (h : G.P W) (hf : Fr (fun j => G.off W j ∧ G.lo ≤ j ∧ w.heap.size ≤ j) W W') (ht : Trn F G w W) : Trn F G w W' := by
  have k := G.keep W W' h (hf.mono (fun _ _ e => ⟨e.1, e.2.1⟩))
  refine ⟨Nat.le_trans ht.1 hf.size, fun b hb ho => ?_⟩
  obtain ⟨x, y⟩ := ht.2 b hb ho
  exact ⟨(hf.block b (Nat.lt_of_lt_of_le hb ht.1) (fun e => by have := e.2.2; omega)).trans x, k.2 b y⟩
theorem Trn.cell {F G : Face} {w w' : World} (h : Trn F G w w') {a : Addr} {v : Value} (hc : w.cell? a = some v) (ho : F.off w a.block) : w'.cell? a = some v :=
  (World.cell?_of_block (h.2 a.block (World.block_lt_of_cell? w a hc) ho).1).trans hc
theorem Trn.frozen {F G : Face} {w w' : World} (h : Trn F G w w') {a : Addr} {v : Value} (hc : w.cell? a = some v) (ho : F.off w a.block) : w'.frozen? a = w.frozen? a :=
  World.frozen?_of_block (h.2 a.block (World.block_lt_of_cell? w a hc) ho).1
/-- The block of a slice is none of the state's. -/
def Face.offA (F : Face) (w : World) (a : Option Addr) (n : Nat) : Prop := ∀ g o, a = some ⟨g, o, none⟩ → n ≠ 0 → F.off w g ∧ g < w.heap.size
theorem Trn.rat {F G : Face} {w w' : World} (h : Trn F G w w') {a : Option Addr} {n : Nat} {rs : List RT} (hr : RAt w a n rs) (ho : F.offA w a rs.length) : RAt w' a n rs := by
  refine ⟨hr.1, fun k hk => ?_⟩
  obtain ⟨g, ha, hc⟩ := hr.2 k hk
  refine ⟨g, ha, fun j hj => ?_⟩
  have h1 : ∃ x, (rs.getD k rt0).vals[j]? = some x := ⟨_, List.getElem?_eq_getElem (by simpa [RT.vals] using hj)⟩
  obtain ⟨x, h1⟩ := h1
  rw [h1]
  exact h.cell ((hc j hj).trans h1) (ho g 0 ha (by omega)).1
theorem Trn.fld {F G : Face} {w w' : World} (h : Trn F G w w') {a : Option Addr} {n : Nat} {fs : List Fld} (hr : FldAt w a n fs) (ho : F.offA w a fs.length) : FldAt w' a n fs := by
  refine ⟨hr.1, fun k hk => ?_⟩
  obtain ⟨g, o, ha, hc⟩ := hr.2 k hk
  refine ⟨g, o, ha, fun j hj => ?_⟩
  have h1 : ∃ x, (fs.getD k fld0).vals[j]? = some x := ⟨_, List.getElem?_eq_getElem (by simpa [Fld.vals] using hj)⟩
  obtain ⟨x, h1⟩ := h1
  rw [h1]
  exact h.cell ((hc j hj).trans h1) (ho g o ha (by omega)).1
theorem Trn.offA {F G : Face} {w w' : World} (h : Trn F G w w') {a : Option Addr} {n : Nat} (ho : F.offA w a n) : G.offA w' a n := fun g o e hn => ⟨(h.2 g (ho g o e hn).2 (ho g o e hn).1).2, Nat.lt_of_lt_of_le (ho g o e hn).2 h.1⟩
/-- No table at all. -/
def nilFace (w0 : World) : Face where
  P W := Fr (fun _ => False) w0 W
  off _ _ := True
  lo := w0.heap.size
  keep W W' h hf := ⟨h.trans' hf (fun j hj e => by have := e.2; omega), fun _ _ => trivial⟩
  new _ _ _ _ := trivial
  old _ _ _ _ := trivial
  le W h := h.size
def RowOff (es : List Ent) (fss : Nat → List Fld) (b : Nat) : Prop := ∀ i, i < es.length → ∀ g o, (es.getD i ent0).fa = some ⟨g, o, none⟩ → (fss i).length ≠ 0 → g ≠ b
/-- A table. -/
def tabFace (w0 : World) (tb : Nat) (es : List Ent) (fss : Nat → List Fld) : Face where
  P W := Tab w0 W tb es fss
  off W b := Off W tb b ∧ RowOff es fss b
  lo := w0.heap.size
  keep W W' h hf := by
    obtain ⟨v, ht, hfl⟩ := h.ex
    have hc : W'.cell? ⟨tb, 0, none⟩ = some v := hf.cell ht.cell (fun e => e.1.1.1 rfl)
    refine ⟨⟨⟨v, ht.kept hf (fun e => e.1.1.1 rfl) (fun k hk e => e.1.1.2 v ht.cell hk), fun i hi => ⟨(hfl i hi).1.kept hf (fun g o e hne hh => hh.1.2 i hi g o e hne rfl), fun g o e hne => ?_⟩⟩, h.fr.trans' hf (fun j hj e => by have := e.2; omega), h.ge, h.ok, h.out, h.few⟩, fun b hb => ⟨⟨hb.1.1, fun v' hv' => ?_⟩, hb.2⟩⟩
    · obtain ⟨y1, y2, y3, y4⟩ := (hfl i hi).2 g o e hne
      exact ⟨y1, Nat.lt_of_lt_of_le y2 hf.size, y3, y4⟩
    · rw [hc] at hv'; injection hv' with hv'; subst hv'; exact hb.1.2 _ ht.cell
  new W b h hb := by
    obtain ⟨v, ht, hfl⟩ := h.ex
    have lt : tb < W.heap.size := World.block_lt_of_cell? W _ ht.cell
    refine ⟨⟨by omega, fun v' hv' e => ?_⟩, fun i hi g o e hne q => ?_⟩
    · rw [ht.cell] at hv'; injection hv' with hv'; subst hv'; have := (ht.own.lt b e).2; omega
    · have := ((hfl i hi).2 g o e hne).2.1; omega
  old W b h hb := by
    obtain ⟨v, ht, hfl⟩ := h.ex
    refine ⟨⟨by have := h.ge; omega, fun v' hv' e => ?_⟩, fun i hi g o e hne q => ?_⟩
    · rw [ht.cell] at hv'; injection hv' with hv'; subst hv'; have := (ht.own.lt b e).1; omega
    · have := ((hfl i hi).2 g o e hne).1; omega
  le W h := h.fr.size
theorem Trn.of_turn {w0 w w' : World} {tb : Nat} {es es' : List Ent} {fss fss' : Nat → List Fld} (h : Turn w w' tb) (hr : ∀ b, b < w.heap.size → RowOff es fss b → RowOff es' fss' b) : Trn (tabFace w0 tb es fss) (tabFace w0 tb es' fss') w w' :=
  ⟨h.1, fun b hb ho => by
    obtain ⟨x, y⟩ := h.2 b hb ho.1
    exact ⟨x, y, hr b hb ho.2⟩⟩
theorem row_more {es es' : List Ent} {fss : Nat → List Fld} (hout : ∀ i, es.length ≤ i → fss i = []) (hx : es' = es ∨ ∃ x, es' = es ++ [x]) {b : Nat} (h : RowOff es fss b) : RowOff es' fss b := by
  rcases hx with rfl | ⟨x, rfl⟩
  · exact h
  · intro i hi g o e hne
    by_cases hlt : i < es.length
    · have e1 : (es ++ [x]).getD i ent0 = es.getD i ent0 := by rw [List.getD_eq_getElem?_getD, List.getElem?_append_left hlt, ← List.getD_eq_getElem?_getD]
      rw [e1] at e
      exact h i hlt g o e hne
    · rw [hout i (by omega)] at hne
      exact absurd rfl hne
theorem makeL_more (es : List Ent) (x : Ent) : makeL es x = es ∨ ∃ y, makeL es x = es ++ [y] := (makeL_or es x).imp id (fun e => ⟨x, e⟩)
theorem ptrL_more (es : List Ent) (n : Int) : ptrL es n = es ∨ ∃ y, ptrL es n = es ++ [y] := by
  unfold ptrL; split
  · exact makeL_more _ _
  · exact .inl rfl
theorem arrL_more (es : List Ent) (n long : Int) : arrL es n long = es ∨ ∃ y, arrL es n long = es ++ [y] := by
  unfold arrL; split
  · exact makeL_more _ _
  · exact .inl rfl
theorem openL_more (es : List Ent) (nm : ByteArray) : openL es nm = es ∨ ∃ y, openL es nm = es ++ [y] := by
  unfold openL; split
  · exact (addL_or es (openE nm)).imp id (fun e => ⟨_, e⟩)
  · exact .inl rfl
theorem ptr_face {w0 w : World} {tb : Nat} {es : List Ent} {fss : Nat → List Fld} (h : (tabFace w0 tb es fss).P w) (n : Int) :
    Calls Try.prog 25 #[.pointer (some ⟨tb, 0, none⟩), .int .i64 n] w fun r w' => r = .returned (.tuple #[.int .i64 (ptrA es n), .int .i64 (ptrB es n)]) ∧ (tabFace w0 tb (ptrL es n) fss).P w' ∧ Trn (tabFace w0 tb es fss) (tabFace w0 tb (ptrL es n) fss) w w' :=
  (ptr_tab h n).mono fun r w' hr => ⟨hr.1, hr.2.1, Trn.of_turn hr.2.2 (fun b _ ho => row_more h.out (ptrL_more es n) ho)⟩
theorem array_face {w0 w : World} {tb : Nat} {es : List Ent} {fss : Nat → List Fld} (h : (tabFace w0 tb es fss).P w) (n long : Int) :
    Calls Try.prog 26 #[.pointer (some ⟨tb, 0, none⟩), .int .i64 n, .int .i64 long] w fun r w' => r = .returned (.tuple #[.int .i64 (arrA es n long), .int .i64 (arrB es n long)]) ∧ (tabFace w0 tb (arrL es n long) fss).P w' ∧ Trn (tabFace w0 tb es fss) (tabFace w0 tb (arrL es n long) fss) w w' :=
  (array_tab h n long).mono fun r w' hr => ⟨hr.1, hr.2.1, Trn.of_turn hr.2.2 (fun b _ ho => row_more h.out (arrL_more es n long) ho)⟩
theorem open_face {w0 w : World} {tb : Nat} {es : List Ent} {fss : Nat → List Fld} (h : (tabFace w0 tb es fss).P w) (nm : ByteArray) :
    Calls Try.prog 27 #[.pointer (some ⟨tb, 0, none⟩), .string nm] w fun r w' => r = .returned (.tuple #[.int .i64 (openA es nm), .int .i64 (openB es nm)]) ∧ (tabFace w0 tb (openL es nm) fss).P w' ∧ Trn (tabFace w0 tb es fss) (tabFace w0 tb (openL es nm) fss) w w' :=
  (open_tab h nm).mono fun r w' hr => ⟨hr.1, hr.2.1, Trn.of_turn hr.2.2 (fun b _ ho => row_more h.out (openL_more es nm) ho)⟩
/-- What Struct leaves, with the new table. -/
def StructF (w0 w : World) (tb : Nat) (es : List Ent) (fss : Nat → List Fld) (nm : ByteArray) (fs : List Fld) (r : Ending) (w' : World) : Prop :=
  ∃ es' fss', ((structX es nm fs ≠ 0 ∧ r = .returned (.tuple #[.int .i64 0, .int .i64 (structX es nm fs)]) ∧ es' = es ∧ fss' = fss) ∨
    (structX es nm fs = 0 ∧ r = .returned (.tuple #[.int .i64 (3 + (findK es nm : Int)), .int .i64 0]) ∧ fss' = setFs fss (findK es nm) (layS es fs fs.length).2.2 ∧ ∃ g c, es' = es.set (findK es nm) (laidE es nm fs g c))) ∧
    (tabFace w0 tb es' fss').P w' ∧ Trn (tabFace w0 tb es fss) (tabFace w0 tb es' fss') w w'
theorem struct_face {w0 w : World} {tb : Nat} {es : List Ent} {fss : Nat → List Fld} (h : (tabFace w0 tb es fss).P w) (nm : ByteArray) (a : Option Addr) (n c : Nat) (fs : List Fld) (hfs : FldAt w a n fs) (hlen : fs.length ≤ 1000) (hnm : ∀ f ∈ fs, f.name.size ≤ maxLen) :
    Calls Try.prog 28 #[.pointer (some ⟨tb, 0, none⟩), .string nm, .slice a n c] w (StructF w0 w tb es fss nm fs) := by
  refine (struct_tab h nm a n c fs hfs hlen hnm).mono fun r w' hr => ?_
  rcases hr with ⟨h1, h2, h3, h4⟩ | ⟨h1, h2, g, c, h3, h4, h5⟩
  · exact ⟨es, fss, .inl ⟨h1, h2, rfl, rfl⟩, h3, Trn.of_turn h4 (fun b _ ho => ho)⟩
  · refine ⟨_, _, .inr ⟨h1, h2, rfl, g, c, rfl⟩, h3, Trn.of_turn h4 (fun b hb ho => ?_)⟩
    intro i hi g' o e hne
    rw [List.length_set] at hi
    by_cases hik : i = findK es nm
    · subst hik
      have e1 : (es.set (findK es nm) (laidE es nm fs g c)).getD (findK es nm) ent0 = laidE es nm fs g c := by rw [List.getD_eq_getElem?_getD, List.getElem?_set_self hi]; rfl
      rw [e1] at e
      have e4 : (laidE es nm fs g c).fa = some ⟨g, 0, none⟩ := rfl
      rw [e4] at e
      injection e with e
      injection e with e
      omega
    · have e1 : (es.set (findK es nm) (laidE es nm fs g c)).getD i ent0 = es.getD i ent0 := by rw [List.getD_eq_getElem?_getD, List.getElem?_set_ne (fun q => hik q.symm), ← List.getD_eq_getElem?_getD]
      have e2 : setFs fss (findK es nm) (layS es fs fs.length).2.2 i = fss i := by unfold setFs; rw [if_neg hik]
      rw [e1] at e
      rw [e2] at hne
      exact ho i hi g' o e hne
theorem fld_lt {w : World} {a : Option Addr} {n : Nat} {fs : List Fld} (h : FldAt w a n fs) : ∀ g o, a = some ⟨g, o, none⟩ → fs.length ≠ 0 → g < w.heap.size := fun g o e hn => by
  obtain ⟨g', o', e', hc⟩ := h.2 0 (by omega)
  rw [e] at e'
  injection e' with e'
  injection e' with e1 e2
  subst e1
  have h1 : ∃ x, (fs.getD 0 fld0).vals[0]? = some x := ⟨_, rfl⟩
  obtain ⟨x, h1⟩ := h1
  exact World.block_lt_of_cell? w _ ((hc 0 (by decide)).trans h1)
end Go.Proofs.Ytlhkhgkgjdfcgaa
