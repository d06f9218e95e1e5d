/-
  Memories (layer 11): what is put, as an argument, opened; the walk of the law on what is put and told.
-/
import Derived.Test.YtonkfgjmienalaaStoZa
import Derived.Test.YtonkfgjmienalaaStoZff
import Derived.Test.YtonkfgjmienalaaStoZft
import Derived.Test.YtonkfgjmienalaaStoZtf
import Derived.Test.YtonkfgjmienalaaStoZtt
import Derived.Deep.Slices
import Derived.ProofKit
import Derived.OpenShut
import Derived.WideShapes
import Derived.ChangeSame
namespace Go.Proofs.Ytonkfgjmienalaa
open Go.ChangeShapes Go.WideShapes Go.ChangeAt Go.RowKit Go.Deep
set_option linter.unusedVariables false
set_option linter.unusedSimpArgs false
theorem Fr.frame {W W' : World} (h : Fr (fun _ => False) W W') (may : MemPlace → Prop) : W.keptBut W' may := by
  refine ⟨h.os, h.output, fun i hi => ?_⟩
  rw [h.block i hi id]
  split <;> simp_all
theorem Fr.same {W W' : World} (h : Fr (fun _ => False) W W') {p : MemPlace} (hp : p.block < W.heap.size) : W.sameAt W' p := by
  cases p with
  | cell b o => exact World.cell?_of_block (w := W) (h.block b hp id)
  | map b => exact h.block b hp id
theorem Fr.trod {H : Type} {enc : TypeId × Value → H} {P : Program} {t : TypeId} (hl : laidOutB P = true) (hr : P.readableRec t = true) (hrow : t < P.types.size) {W W' : World} {v : Value} {d : DataW H} {ps : List MemPlace}
    (h : DataW.Trod enc P W 0 (fun _ => true) true t v d ps) (hb : Fr (fun _ => False) W W') (hlt : ∀ x ∈ ps, x.block < W.heap.size) :
    DataW.Trod enc P W' 0 (fun b => decide (b < W.heap.size)) true t v d ps :=
  WideElems.Trod_stays hl hr hrow h (fun x hx => hb.same (hlt x hx)) (fun x hx => by simpa using hlt x hx)
theorem storeLaid : laidOutB Try.prog = true := by kernel_rfl
theorem cellsInt : Try.prog.cellsOf 3 = 1 := by kernel_rfl
theorem cellsBool : Try.prog.cellsOf 4 = 1 := by kernel_rfl
theorem cellsU32 : Try.prog.cellsOf 22 = 1 := by kernel_rfl
theorem cellsPtr : Try.prog.cellsOf 24 = 4 := by kernel_rfl
theorem cellsVal : Try.prog.cellsOf 26 = 6 := by kernel_rfl
theorem wf32 {a : Int} (h : (Lit.int .u32 a).wf = true) : 0 ≤ a ∧ a < 4294967296 := by
  have hw : (decide (IntKind.u32.min ≤ a) && decide (a ≤ IntKind.u32.max)) = true := h
  rw [Bool.and_eq_true] at hw
  have h1 := of_decide_eq_true hw.1
  have h2 := of_decide_eq_true hw.2
  have m1 : IntKind.u32.min = 0 := by decide
  have m2 : IntKind.u32.max = 4294967295 := by decide
  rw [m1] at h1
  rw [m2] at h2
  omega
theorem wf64 {a : Int} (h : (Lit.int .i64 a).wf = true) : -9223372036854775808 ≤ a ∧ a ≤ 9223372036854775807 := by
  have hw : (decide (IntKind.i64.min ≤ a) && decide (a ≤ IntKind.i64.max)) = true := h
  rw [Bool.and_eq_true] at hw
  have h1 := of_decide_eq_true hw.1
  have h2 := of_decide_eq_true hw.2
  have m1 : IntKind.i64.min = -9223372036854775808 := by decide
  have m2 : IntKind.i64.max = 9223372036854775807 := by decide
  rw [m1] at h1
  rw [m2] at h2
  exact ⟨h1, h2⟩
theorem cellsPut : Try.prog.cellsOf 28 = 14 := by kernel_rfl
section
variable {H : Type} {enc : TypeId × Value → H} {w : World} {spare : Nat → Bool} {held : Bool}
set_option maxRecDepth 100000 in
theorem open_ptr {fuel : Nat} {cs : List Value} {x : DataW H × List MemPlace} (h : DataW.trod enc Try.prog w 0 spare held fuel 24 cs = some x) :
    ∃ a b c d : Int, cs = [.int .i64 a, .int .i64 b, .int .i64 c, .int .i64 d] := by
  obtain ⟨xs, n, _, _, hl, hlen, hg⟩ := DataW.trod_struct Try.underlying24 h
  rw [cellsPtr] at hl
  match cs, hl, xs, hlen with
  | [c0, c1, c2, c3], _, [y0, y1, y2, y3], _ =>
    have g0 : DataW.trod enc Try.prog w 0 spare held n 3 [c0] = some y0 := by simpa [cellsInt, cellsBool, cellsPtr, cellsVal, cellsU32] using hg 0 _ rfl
    have g1 : DataW.trod enc Try.prog w 0 spare held n 3 [c1] = some y1 := by simpa [cellsInt, cellsBool, cellsPtr, cellsVal, cellsU32] using hg 1 _ rfl
    have g2 : DataW.trod enc Try.prog w 0 spare held n 3 [c2] = some y2 := by simpa [cellsInt, cellsBool, cellsPtr, cellsVal, cellsU32] using hg 2 _ rfl
    have g3 : DataW.trod enc Try.prog w 0 spare held n 3 [c3] = some y3 := by simpa [cellsInt, cellsBool, cellsPtr, cellsVal, cellsU32] using hg 3 _ rfl
    obtain ⟨a0, e0, _, _⟩ := DataW.trod_int Try.underlying3 g0
    obtain ⟨a1, e1, _, _⟩ := DataW.trod_int Try.underlying3 g1
    obtain ⟨a2, e2, _, _⟩ := DataW.trod_int Try.underlying3 g2
    obtain ⟨a3, e3, _, _⟩ := DataW.trod_int Try.underlying3 g3
    simp only [List.cons.injEq, and_true] at e0 e1 e2 e3
    subst e0 e1 e2 e3
    exact ⟨a0, a1, a2, a3, rfl⟩
set_option maxRecDepth 100000 in
theorem open_val {fuel : Nat} {cs : List Value} {x : DataW H × List MemPlace} (h : DataW.trod enc Try.prog w 0 spare held fuel 26 cs = some x) :
    ∃ (u : Int) (q : PV) (p : Bool), cs = [.int .u32 u, .int .i64 q.ob, .int .i64 q.lo, .int .i64 q.hi, .int .i64 q.off, .bool p] ∧ (0 ≤ u ∧ u < 4294967296) := by
  obtain ⟨xs, n, _, _, hl, hlen, hg⟩ := DataW.trod_struct Try.underlying26 h
  rw [cellsVal] at hl
  match cs, hl, xs, hlen with
  | [c0, c1, c2, c3, c4, c5], _, [y0, y1, y2], _ =>
    have g0 : DataW.trod enc Try.prog w 0 spare held n 22 [c0] = some y0 := by simpa [cellsInt, cellsBool, cellsPtr, cellsVal, cellsU32] using hg 0 _ rfl
    have g1 : DataW.trod enc Try.prog w 0 spare held n 24 [c1, c2, c3, c4] = some y1 := by simpa [cellsInt, cellsBool, cellsPtr, cellsVal, cellsU32] using hg 1 _ rfl
    have g2 : DataW.trod enc Try.prog w 0 spare held n 4 [c5] = some y2 := by simpa [cellsInt, cellsBool, cellsPtr, cellsVal, cellsU32] using hg 2 _ rfl
    obtain ⟨u, e0, _, hw⟩ := DataW.trod_int Try.underlying22 g0
    obtain ⟨a, b, c, d, e1⟩ := open_ptr g1
    obtain ⟨p, e2, _⟩ := DataW.trod_bool Try.underlying4 g2
    simp only [List.cons.injEq, and_true] at e0 e1 e2
    obtain ⟨rfl, rfl, rfl, rfl⟩ := e1
    subst e0 e2
    exact ⟨u, ⟨a, b, c, d⟩, p, rfl, wf32 hw⟩
set_option maxRecDepth 100000 in
theorem open_put {fuel : Nat} {cs : List Value} {x : DataW H × List MemPlace} (h : DataW.trod enc Try.prog w 0 spare held fuel 28 cs = some x) :
    ∃ (size at_ u : Int) (p : PV) (b1 : Bool) (y0 : Int) (q : PV) (b2 : Bool), cs = [.int .i64 size, .int .i64 at_, .int .u32 u, .int .i64 p.ob, .int .i64 p.lo, .int .i64 p.hi, .int .i64 p.off, .bool b1, .int .u32 y0, .int .i64 q.ob, .int .i64 q.lo, .int .i64 q.hi, .int .i64 q.off, .bool b2] ∧ (0 ≤ u ∧ u < 4294967296) ∧ (0 ≤ y0 ∧ y0 < 4294967296) ∧ (-9223372036854775808 ≤ size ∧ size ≤ 9223372036854775807) := by
  obtain ⟨xs, n, _, _, hl, hlen, hg⟩ := DataW.trod_struct Try.underlying28 h
  rw [cellsPut] at hl
  match cs, hl, xs, hlen with
  | [c0, c1, c2, c3, c4, c5, c6, c7, c8, c9, c10, c11, c12, c13], _, [y0, y1, y2, y3], _ =>
    have g0 : DataW.trod enc Try.prog w 0 spare held n 3 [c0] = some y0 := by simpa [cellsInt, cellsBool, cellsPtr, cellsVal, cellsU32] using hg 0 _ rfl
    have g1 : DataW.trod enc Try.prog w 0 spare held n 3 [c1] = some y1 := by simpa [cellsInt, cellsBool, cellsPtr, cellsVal, cellsU32] using hg 1 _ rfl
    have g2 : DataW.trod enc Try.prog w 0 spare held n 26 [c2, c3, c4, c5, c6, c7] = some y2 := by simpa [cellsInt, cellsBool, cellsPtr, cellsVal, cellsU32] using hg 2 _ rfl
    have g3 : DataW.trod enc Try.prog w 0 spare held n 26 [c8, c9, c10, c11, c12, c13] = some y3 := by simpa [cellsInt, cellsBool, cellsPtr, cellsVal, cellsU32] using hg 3 _ rfl
    obtain ⟨a0, e0, _, hw0⟩ := DataW.trod_int Try.underlying3 g0
    obtain ⟨a1, e1, _, _⟩ := DataW.trod_int Try.underlying3 g1
    obtain ⟨u, p, b1, e2, hu⟩ := open_val g2
    obtain ⟨v, q, b2, e3, hv⟩ := open_val g3
    simp only [List.cons.injEq, and_true] at e0 e1 e2 e3
    obtain ⟨rfl, rfl, rfl, rfl, rfl, rfl⟩ := e2
    obtain ⟨rfl, rfl, rfl, rfl, rfl, rfl⟩ := e3
    subst e0 e1
    exact ⟨a0, a1, u, p, b1, v, q, b2, rfl, hu, hv, wf64 hw0⟩
end
namespace storeBack
theorem walk (size at_ u : Int) (p : PV) (b1 : Bool) (y0 : Int) (q : PV) (b2 : Bool) (hu : 0 ≤ u ∧ u < 4294967296) (hy0 : 0 ≤ y0 ∧ y0 < 4294967296) (hs : -9223372036854775808 ≤ size ∧ size ≤ 9223372036854775807) (w : World) :
    Calls Try.prog 3 #[.agg #[.int .i64 size, .int .i64 at_, .int .u32 u, .int .i64 p.ob, .int .i64 p.lo, .int .i64 p.hi, .int .i64 p.off, .bool b1, .int .u32 y0, .int .i64 q.ob, .int .i64 q.lo, .int .i64 q.hi, .int .i64 q.off, .bool b2]] w fun e w' => e = .returned (.bool true) ∧ Fr (fun _ => False) w w' := by
  by_cases h : 8 ≤ size ∧ size ≤ 300 ∧ 0 ≤ at_ ∧ at_ ≤ size - 8
  · obtain ⟨n, rfl⟩ : ∃ n : Nat, size = n := ⟨size.toNat, by omega⟩
    obtain ⟨k, rfl⟩ : ∃ k : Nat, at_ = k := ⟨at_.toNat, by omega⟩
    cases b1 <;> cases b2
    · exact walk_ff n k u y0 p q (by omega) hu hy0 w
    · exact walk_ft n k u y0 p q (by omega) hu hy0 w
    · exact walk_tf n k u y0 p q (by omega) hu hy0 w
    · exact walk_tt n k u y0 p q (by omega) hu hy0 w
  · exact walk_bad size at_ u y0 p q b1 b2 h hs w
end storeBack
end Go.Proofs.Ytonkfgjmienalaa
