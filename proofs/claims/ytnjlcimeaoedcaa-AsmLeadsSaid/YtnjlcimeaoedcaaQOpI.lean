/-
  Items (layer 5): a list of items as an argument, opened.
-/
import Derived.Test.YtnjlcimeaoedcaaQAsmB
import Derived.Test.YtnjlcimeaoedcaaQAxA
import Derived.Deep.Slices
import Derived.ProofKit
import Derived.OpenShut
import Derived.WideShapes
import Derived.ChangeSame
import Derived.Laws.IdiomArrays
namespace Go.Proofs.Ytnjlcimeaoedcaa
open Go.ChangeShapes Go.WideShapes Go.ChangeAt Go.RowKit Go.Deep
set_option linter.unusedVariables false
set_option linter.unusedSimpArgs false
theorem Fr.frame {W W' : World} (h : Fr (fun _ => False) W W') (may : MemPlace → Prop) : W.keptBut W' may := by
  refine ⟨h.os, h.output, fun i hi => ?_⟩
  rw [h.block i hi id]
  split <;> simp_all
theorem Fr.same {W W' : World} (h : Fr (fun _ => False) W W') {p : MemPlace} (hp : p.block < W.heap.size) : W.sameAt W' p := by
  cases p with
  | cell b o => exact World.cell?_of_block (w := W) (h.block b hp id)
  | map b => exact h.block b hp id
theorem Fr.trod {H : Type} {enc : TypeId × Value → H} {P : Program} {t : TypeId} (hl : laidOutB P = true) (hr : P.readableRec t = true) (hrow : t < P.types.size) {W W' : World} {v : Value} {d : DataW H} {ps : List MemPlace}
    (h : DataW.Trod enc P W 0 (fun _ => true) true t v d ps) (hb : Fr (fun _ => False) W W') (hlt : ∀ x ∈ ps, x.block < W.heap.size) :
    DataW.Trod enc P W' 0 (fun b => decide (b < W.heap.size)) true t v d ps :=
  WideElems.Trod_stays hl hr hrow h (fun x hx => hb.same (hlt x hx)) (fun x hx => by simpa using hlt x hx)
theorem itemLaid : laidOutB Try.prog = true := by kernel_rfl
theorem cellsItem : Try.prog.cellsOf 40 = 7 := by kernel_rfl
theorem cellsInst : Try.prog.cellsOf 38 = 5 := by kernel_rfl
theorem cellsInt : Try.prog.cellsOf 3 = 1 := by kernel_rfl
section
variable {H : Type} {enc : TypeId × Value → H} {w : World} {spare : Nat → Bool} {held : Bool}
set_option maxRecDepth 100000 in
theorem open_in5 {fuel : Nat} {cs : List Value} {x : DataW H × List MemPlace} (h : DataW.trod enc Try.prog w 0 spare held fuel 38 cs = some x) :
    ∃ a b c d e : Int, cs = [.int .i64 a, .int .i64 b, .int .i64 c, .int .i64 d, .int .i64 e] := by
  obtain ⟨xs, n, _, _, hl, hlen, hg⟩ := DataW.trod_struct Try.underlying38 h
  rw [cellsInst] at hl
  match cs, hl, xs, hlen with
  | [c0, c1, c2, c3, c4], _, [y0, y1, y2, y3, y4], _ =>
    have g0 : DataW.trod enc Try.prog w 0 spare held n 3 [c0] = some y0 := by simpa [cellsInt] using hg 0 _ rfl
    have g1 : DataW.trod enc Try.prog w 0 spare held n 3 [c1] = some y1 := by simpa [cellsInt] using hg 1 _ rfl
    have g2 : DataW.trod enc Try.prog w 0 spare held n 3 [c2] = some y2 := by simpa [cellsInt] using hg 2 _ rfl
    have g3 : DataW.trod enc Try.prog w 0 spare held n 3 [c3] = some y3 := by simpa [cellsInt] using hg 3 _ rfl
    have g4 : DataW.trod enc Try.prog w 0 spare held n 3 [c4] = some y4 := by simpa [cellsInt] using hg 4 _ rfl
    obtain ⟨a0, e0, _, _⟩ := DataW.trod_int Try.underlying3 g0
    obtain ⟨a1, e1, _, _⟩ := DataW.trod_int Try.underlying3 g1
    obtain ⟨a2, e2, _, _⟩ := DataW.trod_int Try.underlying3 g2
    obtain ⟨a3, e3, _, _⟩ := DataW.trod_int Try.underlying3 g3
    obtain ⟨a4, e4, _, _⟩ := DataW.trod_int Try.underlying3 g4
    simp only [List.cons.injEq, and_true] at e0 e1 e2 e3 e4
    subst e0 e1 e2 e3 e4
    exact ⟨a0, a1, a2, a3, a4, rfl⟩
set_option maxRecDepth 100000 in
theorem open_it {fuel : Nat} {cs : List Value} {x : DataW H × List MemPlace} (h : DataW.trod enc Try.prog w 0 spare held fuel 40 cs = some x) :
    ∃ y : It, cs = [.int .i64 y.k, .int .i64 y.op, .int .i64 y.rd, .int .i64 y.r1, .int .i64 y.r2, .int .i64 y.imm, .int .i64 y.lab] := by
  obtain ⟨xs, n, _, _, hl, hlen, hg⟩ := DataW.trod_struct Try.underlying40 h
  rw [cellsItem] at hl
  match cs, hl, xs, hlen with
  | [c0, c1, c2, c3, c4, c5, c6], _, [y0, y1, y2], _ =>
    have g0 : DataW.trod enc Try.prog w 0 spare held n 3 [c0] = some y0 := by simpa [cellsInt, cellsInst] using hg 0 _ rfl
    have g1 : DataW.trod enc Try.prog w 0 spare held n 38 [c1, c2, c3, c4, c5] = some y1 := by simpa [cellsInt, cellsInst] using hg 1 _ rfl
    have g2 : DataW.trod enc Try.prog w 0 spare held n 3 [c6] = some y2 := by simpa [cellsInt, cellsInst] using hg 2 _ rfl
    obtain ⟨a0, e0, _, _⟩ := DataW.trod_int Try.underlying3 g0
    obtain ⟨a1, a2, a3, a4, a5, e1⟩ := open_in5 g1
    obtain ⟨a6, e2, _, _⟩ := DataW.trod_int Try.underlying3 g2
    simp only [List.cons.injEq, and_true] at e0 e1 e2
    obtain ⟨rfl, rfl, rfl, rfl, rfl⟩ := e1
    subst e0 e2
    exact ⟨⟨a0, a1, a2, a3, a4, a5, a6⟩, rfl⟩
set_option maxRecDepth 100000 in
theorem open_items {fuel : Nat} {cs : List Value} {x : DataW H × List MemPlace} (h : DataW.trod enc Try.prog w 0 spare held fuel 22 cs = some x) :
    ∃ (a : Option Addr) (l : List It) (c : Nat), cs = [.slice a l.length c] ∧ ItAt w.heap.size w a l := by
  rcases open_slice Try.underlying22 h with ⟨rfl, _⟩ | ⟨a, len, cap, m, n, D, Pl, rfl, _, hl, hm, hmm, _, hi⟩
  · exact ⟨none, [], 0, rfl, fun k hk => by simp at hk⟩
  · have hlm : len ≤ m := by rw [hmm]; split <;> omega
    have each : ∀ i, i < len → ∃ y : It, ∀ j, j < 7 → w.cell? (a.add (i * 7 + j)) = y.vals[j]? := fun i hil => by
      obtain ⟨cs', h1, h2⟩ := hi i (by omega)
      rw [cellsItem] at h1
      obtain ⟨y, rfl⟩ := open_it h2
      obtain ⟨_, _, hc⟩ := World.cells?_some h1
      exact ⟨y, fun j hj => by have := hc j hj; rw [Addr.add_add] at this; exact this⟩
    have hch : ∃ Y : Nat → It, ∀ i, i < len → ∀ j, j < 7 → w.cell? (a.add (i * 7 + j)) = (Y i).vals[j]? :=
      ⟨fun i => if hi : i < len then (each i hi).choose else it0, fun i hi => by simp only [dif_pos hi]; exact (each i hi).choose_spec⟩
    obtain ⟨Y, hY⟩ := hch
    refine ⟨some a, (List.range len).map Y, cap, by simp, fun k hk => ?_⟩
    have hk' : k < len := by simpa using hk
    have g0 := hY k hk' 0 (by decide)
    rw [show (Y k).vals[0]? = some (.int .i64 (Y k).k) by rfl] at g0
    have g00 := hY 0 (by omega) 0 (by decide)
    rw [show (Y 0).vals[0]? = some (.int .i64 (Y 0).k) by rfl] at g00
    obtain ⟨b, off, spot⟩ := a
    have hspot : spot = none := World.cell?_spot g00
    subst hspot
    have e : ((List.range len).map Y).getD k it0 = Y k := by simp [List.getD_eq_getElem?_getD, List.getElem?_range hk']
    rw [e]
    refine ⟨b, off, rfl, ?_, fun j hj => ?_⟩
    · rw [Addr.add_lit] at g0
      exact block_lt g0
    · have := hY k hk' j hj
      rw [Addr.add_lit] at this
      exact this
end
end Go.Proofs.Ytnjlcimeaoedcaa
