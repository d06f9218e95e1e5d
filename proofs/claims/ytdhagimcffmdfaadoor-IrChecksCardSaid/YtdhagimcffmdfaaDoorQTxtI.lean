/-
  Few blocks with small numbers are such as the lines' contracts want (layer 13); a procedure that came in, opened.
-/
import Derived.Test.YtdhagimcffmdfaaDoorQTxtC
import Derived.Test.YtdhagimcffmdfaaDoorQTxtH
namespace Go.Proofs.YtdhagimcffmdfaaDoor
open Go.ChangeShapes Go.WideShapes Go.ChangeAt Go.RowKit Go.Deep
set_option linter.unusedVariables false
set_option linter.unusedSimpArgs false
theorem Lo.sm {x : Int} (h : Lo x) : Sm x := ⟨by have := h.1; omega, by have := h.2; omega⟩
theorem of_getD {P : Int → Prop} {l : List Int} {n : Nat} (hn : l.length = n) (h : ∀ m, m < n → P (l.getD m 0)) : ∀ x ∈ l, P x := fun x hx => by
  obtain ⟨i, hi, rfl⟩ := List.getElem_of_mem hx
  have := h i (by omega)
  rwa [List.getD_eq_getElem?_getD, List.getElem?_eq_getElem hi] at this
theorem of_getI {P : Inn → Prop} {l : List Inn} (h : ∀ m, m < l.length → P (l.getD m inn0)) : ∀ x ∈ l, P x := fun x hx => by
  obtain ⟨i, hi, rfl⟩ := List.getElem_of_mem hx
  have := h i (by omega)
  rwa [List.getD_eq_getElem?_getD, List.getElem?_eq_getElem hi] at this
theorem of_getB {P : Bk → Prop} {l : List Bk} (h : ∀ m, m < l.length → P (l.getD m bk0)) : ∀ x ∈ l, P x := fun x hx => by
  obtain ⟨i, hi, rfl⟩ := List.getElem_of_mem hx
  have := h i (by omega)
  rwa [List.getD_eq_getElem?_getD, List.getElem?_eq_getElem hi] at this
theorem fi_ok {i : Inn} (hw : i.wide) (h : FI i) : i.ok := ⟨hw.r, hw.ra, by have := h.1; omega, hw.u0, hw.u1⟩
theorem fi_sm {i : Inn} (h : FI i) : i.sm := ⟨of_getD (n := 8) rfl (fun m hm => (h.2.1 m hm).sm), of_getD rfl (fun m hm => (h.2.2 m hm).sm)⟩
/-- A block's end has small numbers. -/
def FE (b : Bk) : Prop := Lo b.en ∧ Lo b.a ∧ Lo b.t ∧ Lo b.el
theorem fb_ok {b : Bk} (hw : b.wide) (h : FB b) : b.ok := ⟨fun x hx => fi_ok (hw.i x hx) (of_getI h.2 x hx), by have := h.1; omega, hw.r⟩
theorem fb_sm {b : Bk} (h : FB b) (he : FE b) : b.sm := by
  refine ⟨fun x hx => fi_sm (of_getI h.2 x hx), fun x hx => ?_⟩
  simp only [List.mem_cons, List.mem_nil_iff, or_false] at hx
  rcases hx with rfl | rfl | rfl | rfl
  · exact he.1.sm
  · exact he.2.1.sm
  · exact he.2.2.1.sm
  · exact he.2.2.2.sm
section
variable {H : Type} {enc : TypeId × Value → H} {w : World} {spare : Nat → Bool} {held : Bool}
theorem cellsPrc : Tryd.prog.cellsOf 50 = 6 := by kernel_rfl
theorem cellsStr : Tryd.prog.cellsOf 9 = 1 := by kernel_rfl
theorem cellsSs : Tryd.prog.cellsOf 22 = 1 := by kernel_rfl
theorem cellsSb : Tryd.prog.cellsOf 48 = 1 := by kernel_rfl
set_option maxRecDepth 100000 in
/-- A slice of slots: how it looks. -/
theorem open_slots0 {fuel : Nat} {cs : List Value} {x : DataW H × List MemPlace} (h : DataW.trod enc Tryd.prog w 0 spare held fuel 22 cs = some x) :
    ∃ (a : Option Addr) (n c : Nat), cs = [.slice a n c] ∧ n ≤ maxLen := by
  rcases open_slice Tryd.underlying22 h with ⟨rfl, _⟩ | ⟨a, len, cap, m, n, D, Pl, rfl, _, hl, hm, hmm, _, hi⟩
  · exact ⟨none, 0, 0, rfl, by simp⟩
  · have hlm : len ≤ m := by rw [hmm]; split <;> omega
    exact ⟨some a, len, cap, rfl, by omega⟩
set_option maxRecDepth 100000 in
theorem open_prc {fuel : Nat} {cs : List Value} {x : DataW H × List MemPlace} (h : DataW.trod enc Tryd.prog w 0 spare held fuel 50 cs = some x) :
    ∃ (nm : ByteArray) (vd : Bool) (pa rg : Int) (oa : Option Addr) (on oc : Nat) (ab : Option Addr) (l : List Bk) (cb : Nat), cs = [.string nm, .bool vd, .int .i64 pa, .int .i64 rg, .slice oa on oc, .slice ab l.length cb] ∧ on ≤ maxLen ∧ BkL w ab l ∧ l.length ≤ maxLen ∧ ∀ y ∈ l, y.wide := by
  obtain ⟨xs, n, _, _, hl, hlen, hg⟩ := DataW.trod_struct Tryd.underlying50 h
  rw [cellsPrc] at hl
  match cs, hl, xs, hlen with
  | [c0, c1, c2, c3, c4, c5], _, [y0, y1, y2, y3, y4, y5], _ =>
    have g0 : DataW.trod enc Tryd.prog w 0 spare held n 9 [c0] = some y0 := by simpa [cellsInt, cellsStr, cellsBool, cellsSs, cellsSb] using hg 0 _ rfl
    have g1 : DataW.trod enc Tryd.prog w 0 spare held n 4 [c1] = some y1 := by simpa [cellsInt, cellsStr, cellsBool, cellsSs, cellsSb] using hg 1 _ rfl
    have g2 : DataW.trod enc Tryd.prog w 0 spare held n 3 [c2] = some y2 := by simpa [cellsInt, cellsStr, cellsBool, cellsSs, cellsSb] using hg 2 _ rfl
    have g3 : DataW.trod enc Tryd.prog w 0 spare held n 3 [c3] = some y3 := by simpa [cellsInt, cellsStr, cellsBool, cellsSs, cellsSb] using hg 3 _ rfl
    have g4 : DataW.trod enc Tryd.prog w 0 spare held n 22 [c4] = some y4 := by simpa [cellsInt, cellsStr, cellsBool, cellsSs, cellsSb] using hg 4 _ rfl
    have g5 : DataW.trod enc Tryd.prog w 0 spare held n 48 [c5] = some y5 := by simpa [cellsInt, cellsStr, cellsBool, cellsSs, cellsSb] using hg 5 _ rfl
    obtain ⟨nm, e0, _⟩ := DataW.trod_string Tryd.underlying9 g0
    obtain ⟨vd, e1, _⟩ := DataW.trod_bool Tryd.underlying4 g1
    obtain ⟨a2, e2, _, _⟩ := DataW.trod_int Tryd.underlying3 g2
    obtain ⟨a3, e3, _, _⟩ := DataW.trod_int Tryd.underlying3 g3
    obtain ⟨oa, on, oc, e4, hon⟩ := open_slots0 g4
    obtain ⟨ab, l, cb, e5, hat, hlm, hwd⟩ := open_bks g5
    simp only [List.cons.injEq, and_true] at e0 e1 e2 e3 e4 e5
    subst e0 e1 e2 e3 e4 e5
    exact ⟨nm, vd, a2, a3, oa, on, oc, ab, l, cb, rfl, hon, hat, hlm, hwd⟩
end
end Go.Proofs.YtdhagimcffmdfaaDoor
