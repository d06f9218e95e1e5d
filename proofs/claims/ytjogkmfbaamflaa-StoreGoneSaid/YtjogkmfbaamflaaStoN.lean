/-
  Memories (layer 11): an act as an argument, opened.
-/
import Derived.Test.YtjogkmfbaamflaaStoM
import Derived.Deep.Slices
import Derived.ProofKit
import Derived.OpenShut
import Derived.WideShapes
import Derived.ChangeSame
namespace Go.Proofs.Ytjogkmfbaamflaa
open Go.ChangeShapes Go.WideShapes Go.ChangeAt Go.RowKit Go.Deep
set_option linter.unusedVariables false
set_option linter.unusedSimpArgs false
theorem Fr.frame {W W' : World} (h : Fr (fun _ => False) W W') (may : MemPlace → Prop) : W.keptBut W' may := by
  refine ⟨h.os, h.output, fun i hi => ?_⟩
  rw [h.block i hi id]
  split <;> simp_all
theorem Fr.same {W W' : World} (h : Fr (fun _ => False) W W') {p : MemPlace} (hp : p.block < W.heap.size) : W.sameAt W' p := by
  cases p with
  | cell b o => exact World.cell?_of_block (w := W) (h.block b hp id)
  | map b => exact h.block b hp id
theorem Fr.trod {H : Type} {enc : TypeId × Value → H} {P : Program} {t : TypeId} (hl : laidOutB P = true) (hr : P.readableRec t = true) (hrow : t < P.types.size) {W W' : World} {v : Value} {d : DataW H} {ps : List MemPlace}
    (h : DataW.Trod enc P W 0 (fun _ => true) true t v d ps) (hb : Fr (fun _ => False) W W') (hlt : ∀ x ∈ ps, x.block < W.heap.size) :
    DataW.Trod enc P W' 0 (fun b => decide (b < W.heap.size)) true t v d ps :=
  WideElems.Trod_stays hl hr hrow h (fun x hx => hb.same (hlt x hx)) (fun x hx => by simpa using hlt x hx)
theorem storeLaid : laidOutB Try.prog = true := by kernel_rfl
theorem cellsAct : Try.prog.cellsOf 46 = 16 := by kernel_rfl
theorem cellsInt : Try.prog.cellsOf 3 = 1 := by kernel_rfl
theorem cellsBool : Try.prog.cellsOf 4 = 1 := by kernel_rfl
theorem cellsU32 : Try.prog.cellsOf 22 = 1 := by kernel_rfl
theorem cellsBytes : Try.prog.cellsOf 41 = 1 := by kernel_rfl
theorem cellsPtr : Try.prog.cellsOf 24 = 4 := by kernel_rfl
theorem cellsVal : Try.prog.cellsOf 26 = 6 := by kernel_rfl
section
variable {H : Type} {enc : TypeId × Value → H} {w : World} {spare : Nat → Bool} {held : Bool}
set_option maxRecDepth 100000 in
theorem open_ptr {fuel : Nat} {cs : List Value} {x : DataW H × List MemPlace} (h : DataW.trod enc Try.prog w 0 spare held fuel 24 cs = some x) :
    ∃ a b c d : Int, cs = [.int .i64 a, .int .i64 b, .int .i64 c, .int .i64 d] := by
  obtain ⟨xs, n, _, _, hl, hlen, hg⟩ := DataW.trod_struct Try.underlying24 h
  rw [cellsPtr] at hl
  match cs, hl, xs, hlen with
  | [c0, c1, c2, c3], _, [y0, y1, y2, y3], _ =>
    have g0 : DataW.trod enc Try.prog w 0 spare held n 3 [c0] = some y0 := by simpa [cellsInt, cellsBool, cellsBytes, cellsPtr, cellsVal, cellsU32] using hg 0 _ rfl
    have g1 : DataW.trod enc Try.prog w 0 spare held n 3 [c1] = some y1 := by simpa [cellsInt, cellsBool, cellsBytes, cellsPtr, cellsVal, cellsU32] using hg 1 _ rfl
    have g2 : DataW.trod enc Try.prog w 0 spare held n 3 [c2] = some y2 := by simpa [cellsInt, cellsBool, cellsBytes, cellsPtr, cellsVal, cellsU32] using hg 2 _ rfl
    have g3 : DataW.trod enc Try.prog w 0 spare held n 3 [c3] = some y3 := by simpa [cellsInt, cellsBool, cellsBytes, cellsPtr, cellsVal, cellsU32] using hg 3 _ rfl
    obtain ⟨a0, e0, _, _⟩ := DataW.trod_int Try.underlying3 g0
    obtain ⟨a1, e1, _, _⟩ := DataW.trod_int Try.underlying3 g1
    obtain ⟨a2, e2, _, _⟩ := DataW.trod_int Try.underlying3 g2
    obtain ⟨a3, e3, _, _⟩ := DataW.trod_int Try.underlying3 g3
    simp only [List.cons.injEq, and_true] at e0 e1 e2 e3
    subst e0 e1 e2 e3
    exact ⟨a0, a1, a2, a3, rfl⟩
set_option maxRecDepth 100000 in
theorem open_val {fuel : Nat} {cs : List Value} {x : DataW H × List MemPlace} (h : DataW.trod enc Try.prog w 0 spare held fuel 26 cs = some x) :
    ∃ (u a b c d : Int) (p : Bool), cs = [.int .u32 u, .int .i64 a, .int .i64 b, .int .i64 c, .int .i64 d, .bool p] := by
  obtain ⟨xs, n, _, _, hl, hlen, hg⟩ := DataW.trod_struct Try.underlying26 h
  rw [cellsVal] at hl
  match cs, hl, xs, hlen with
  | [c0, c1, c2, c3, c4, c5], _, [y0, y1, y2], _ =>
    have g0 : DataW.trod enc Try.prog w 0 spare held n 22 [c0] = some y0 := by simpa [cellsInt, cellsBool, cellsBytes, cellsPtr, cellsVal, cellsU32] using hg 0 _ rfl
    have g1 : DataW.trod enc Try.prog w 0 spare held n 24 [c1, c2, c3, c4] = some y1 := by simpa [cellsInt, cellsBool, cellsBytes, cellsPtr, cellsVal, cellsU32] using hg 1 _ rfl
    have g2 : DataW.trod enc Try.prog w 0 spare held n 4 [c5] = some y2 := by simpa [cellsInt, cellsBool, cellsBytes, cellsPtr, cellsVal, cellsU32] using hg 2 _ rfl
    obtain ⟨u, e0, _, _⟩ := DataW.trod_int Try.underlying22 g0
    obtain ⟨a, b, c, d, e1⟩ := open_ptr g1
    obtain ⟨p, e2, _⟩ := DataW.trod_bool Try.underlying4 g2
    simp only [List.cons.injEq, and_true] at e0 e1 e2
    obtain ⟨rfl, rfl, rfl, rfl⟩ := e1
    subst e0 e2
    exact ⟨u, a, b, c, d, p, rfl⟩
set_option maxRecDepth 100000 in
theorem open_act {fuel : Nat} {cs : List Value} {x : DataW H × List MemPlace} (h : DataW.trod enc Try.prog w 0 spare held fuel 46 cs = some x) :
    ∃ y : ActS, cs = y.vals.toList ∧ (-9223372036854775808 ≤ y.kind ∧ y.kind ≤ 9223372036854775807) := by
  obtain ⟨xs, n, _, _, hl, hlen, hg⟩ := DataW.trod_struct Try.underlying46 h
  rw [cellsAct] at hl
  match cs, hl, xs, hlen with
  | [c0, c1, c2, c3, c4, c5, c6, c7, c8, c9, c10, c11, c12, c13, c14, c15], _, [y0, y1, y2, y3, y4, y5, y6, y7], _ =>
    have g0 : DataW.trod enc Try.prog w 0 spare held n 3 [c0] = some y0 := by simpa [cellsInt, cellsBool, cellsBytes, cellsPtr, cellsVal, cellsU32] using hg 0 _ rfl
    have g1 : DataW.trod enc Try.prog w 0 spare held n 3 [c1] = some y1 := by simpa [cellsInt, cellsBool, cellsBytes, cellsPtr, cellsVal, cellsU32] using hg 1 _ rfl
    have g2 : DataW.trod enc Try.prog w 0 spare held n 3 [c2] = some y2 := by simpa [cellsInt, cellsBool, cellsBytes, cellsPtr, cellsVal, cellsU32] using hg 2 _ rfl
    have g3 : DataW.trod enc Try.prog w 0 spare held n 3 [c3] = some y3 := by simpa [cellsInt, cellsBool, cellsBytes, cellsPtr, cellsVal, cellsU32] using hg 3 _ rfl
    have g4 : DataW.trod enc Try.prog w 0 spare held n 4 [c4] = some y4 := by simpa [cellsInt, cellsBool, cellsBytes, cellsPtr, cellsVal, cellsU32] using hg 4 _ rfl
    have g5 : DataW.trod enc Try.prog w 0 spare held n 41 [c5] = some y5 := by simpa [cellsInt, cellsBool, cellsBytes, cellsPtr, cellsVal, cellsU32] using hg 5 _ rfl
    have g6 : DataW.trod enc Try.prog w 0 spare held n 24 [c6, c7, c8, c9] = some y6 := by simpa [cellsInt, cellsBool, cellsBytes, cellsPtr, cellsVal, cellsU32] using hg 6 _ rfl
    have g7 : DataW.trod enc Try.prog w 0 spare held n 26 [c10, c11, c12, c13, c14, c15] = some y7 := by simpa [cellsInt, cellsBool, cellsBytes, cellsPtr, cellsVal, cellsU32] using hg 7 _ rfl
    obtain ⟨a0, e0, _, hw0⟩ := DataW.trod_int Try.underlying3 g0
    obtain ⟨a1, e1, _, _⟩ := DataW.trod_int Try.underlying3 g1
    obtain ⟨a2, e2, _, _⟩ := DataW.trod_int Try.underlying3 g2
    obtain ⟨a3, e3, _, _⟩ := DataW.trod_int Try.underlying3 g3
    obtain ⟨p4, e4, _⟩ := DataW.trod_bool Try.underlying4 g4
    obtain ⟨da, dn, dc, e5⟩ : ∃ (da : Option Addr) (dn dc : Nat), [c5] = [Value.slice da dn dc] := by
      rcases open_slice Try.underlying41 g5 with ⟨e, _⟩ | ⟨a, len, cap, m, n, D, Pl, e, _⟩
      · exact ⟨none, 0, 0, e⟩
      · exact ⟨some a, len, cap, e⟩
    obtain ⟨b0, b1, b2, b3, e6⟩ := open_ptr g6
    obtain ⟨u, f0, f1, f2, f3, fp, e7⟩ := open_val g7
    simp only [List.cons.injEq, and_true] at e0 e1 e2 e3 e4 e5 e6 e7
    obtain ⟨rfl, rfl, rfl, rfl⟩ := e6
    obtain ⟨rfl, rfl, rfl, rfl, rfl, rfl⟩ := e7
    subst e0 e1 e2 e3 e4 e5
    refine ⟨⟨a0, a1, a2, a3, p4, da, dn, dc, b0, b1, b2, b3, u, f0, f1, f2, f3, fp⟩, rfl, ?_⟩
    have hw : (decide (IntKind.i64.min ≤ a0) && decide (a0 ≤ IntKind.i64.max)) = true := hw0
    rw [Bool.and_eq_true] at hw
    have h1 := of_decide_eq_true hw.1
    have h2 := of_decide_eq_true hw.2
    have m1 : IntKind.i64.min = -9223372036854775808 := by decide
    have m2 : IntKind.i64.max = 9223372036854775807 := by decide
    rw [m1] at h1
    rw [m2] at h2
    exact ⟨h1, h2⟩
end
end Go.Proofs.Ytjogkmfbaamflaa
