/-
  Listing (layer 6): an instruction and a list of words as arguments, opened.
-/
import Derived.Test.YtlagdgkjpnocfaaGreatDoorQLtF
import Derived.Deep.Slices
import Derived.ProofKit
import Derived.OpenShut
import Derived.WideShapes
import Derived.ChangeSame
namespace Go.Proofs.YtlagdgkjpnocfaaGreatDoor
open Go.ChangeShapes Go.WideShapes Go.ChangeAt Go.RowKit Go.Deep
set_option linter.unusedVariables false
set_option linter.unusedSimpArgs false
theorem Fr.frame {W W' : World} (h : Fr (fun _ => False) W W') (may : MemPlace → Prop) : W.keptBut W' may := by
  refine ⟨h.os, h.output, fun i hi => ?_⟩
  rw [h.block i hi id]
  split <;> simp_all
theorem Fr.same {W W' : World} (h : Fr (fun _ => False) W W') {p : MemPlace} (hp : p.block < W.heap.size) : W.sameAt W' p := by
  cases p with
  | cell b o => exact World.cell?_of_block (w := W) (h.block b hp id)
  | map b => exact h.block b hp id
theorem Fr.trod {H : Type} {enc : TypeId × Value → H} {P : Program} {t : TypeId} (hl : laidOutB P = true) (hr : P.readableRec t = true) (hrow : t < P.types.size) {W W' : World} {v : Value} {d : DataW H} {ps : List MemPlace}
    (h : DataW.Trod enc P W 0 (fun _ => true) true t v d ps) (hb : Fr (fun _ => False) W W') (hlt : ∀ x ∈ ps, x.block < W.heap.size) :
    DataW.Trod enc P W' 0 (fun b => decide (b < W.heap.size)) true t v d ps :=
  WideElems.Trod_stays hl hr hrow h (fun x hx => hb.same (hlt x hx)) (fun x hx => by simpa using hlt x hx)
theorem laidOut : laidOutB Tryz.prog = true := by kernel_rfl
theorem cellsInst : Tryz.prog.cellsOf 23 = 5 := by kernel_rfl
theorem cellsInt : Tryz.prog.cellsOf 3 = 1 := by kernel_rfl
theorem cellsU32 : Tryz.prog.cellsOf 40 = 1 := by kernel_rfl
theorem agg_of {l c : List Value} (h : (Value.agg l.toArray).cells.toList = c) : Value.agg l.toArray = .agg c.toArray := by
  have e : l = c := by simpa [Value.cells] using h
  rw [e]
theorem wf64 {a : Int} (h : (Lit.int .i64 a).wf = true) : I64 a := by
  simpa [I64, Lit.wf, IntKind.min, IntKind.max, IntKind.signed, IntKind.bits] using h
theorem wfu32 {a : Int} (h : (Lit.int .u32 a).wf = true) : 0 ≤ a ∧ a ≤ 4294967295 := by
  simpa [Lit.wf, IntKind.min, IntKind.max, IntKind.signed, IntKind.bits] using h
section
variable {H : Type} {enc : TypeId × Value → H} {w : World} {spare : Nat → Bool} {held : Bool}
set_option maxRecDepth 100000 in
theorem open_in5 {fuel : Nat} {cs : List Value} {x : DataW H × List MemPlace} (h : DataW.trod enc Tryz.prog w 0 spare held fuel 23 cs = some x) :
    ∃ a b c d e : Int, cs = [.int .i64 a, .int .i64 b, .int .i64 c, .int .i64 d, .int .i64 e] ∧ I64 b ∧ I64 c ∧ I64 d ∧ I64 e := by
  obtain ⟨xs, n, _, _, hl, hlen, hg⟩ := DataW.trod_struct Tryz.underlying23 h
  rw [cellsInst] at hl
  match cs, hl, xs, hlen with
  | [c0, c1, c2, c3, c4], _, [y0, y1, y2, y3, y4], _ =>
    have g0 : DataW.trod enc Tryz.prog w 0 spare held n 3 [c0] = some y0 := by simpa [cellsInt] using hg 0 _ rfl
    have g1 : DataW.trod enc Tryz.prog w 0 spare held n 3 [c1] = some y1 := by simpa [cellsInt] using hg 1 _ rfl
    have g2 : DataW.trod enc Tryz.prog w 0 spare held n 3 [c2] = some y2 := by simpa [cellsInt] using hg 2 _ rfl
    have g3 : DataW.trod enc Tryz.prog w 0 spare held n 3 [c3] = some y3 := by simpa [cellsInt] using hg 3 _ rfl
    have g4 : DataW.trod enc Tryz.prog w 0 spare held n 3 [c4] = some y4 := by simpa [cellsInt] using hg 4 _ rfl
    obtain ⟨a0, e0, _, k0⟩ := DataW.trod_int Tryz.underlying3 g0
    obtain ⟨a1, e1, _, k1⟩ := DataW.trod_int Tryz.underlying3 g1
    obtain ⟨a2, e2, _, k2⟩ := DataW.trod_int Tryz.underlying3 g2
    obtain ⟨a3, e3, _, k3⟩ := DataW.trod_int Tryz.underlying3 g3
    obtain ⟨a4, e4, _, k4⟩ := DataW.trod_int Tryz.underlying3 g4
    simp only [List.cons.injEq, and_true] at e0 e1 e2 e3 e4
    subst e0 e1 e2 e3 e4
    exact ⟨a0, a1, a2, a3, a4, rfl, wf64 k1, wf64 k2, wf64 k3, wf64 k4⟩
theorem open_u32s {fuel : Nat} {cs : List Value} {x : DataW H × List MemPlace} (h : DataW.trod enc Tryz.prog w 0 spare held fuel 35 cs = some x) :
    ∃ (a : Option Addr) (l : List Nat) (c : Nat), cs = [.slice a l.length c] ∧ U32At w a l ∧ ∀ k, k < l.length → l.getD k 0 < 4294967296 := by
  rcases open_slice1 Tryz.underlying35 cellsU32 h with ⟨rfl, _⟩ | ⟨a, len, cap, m, n, V, D, Pl, rfl, _, hl, hm, hmm, _, hi⟩
  · exact ⟨none, [], 0, rfl, fun k hk => by simp at hk, fun k hk => by simp at hk⟩
  · have hlm : len ≤ m := by rw [hmm]; split <;> omega
    have each : ∀ i, ∃ f : Nat, i < len → w.cell? (a.add i) = some (.int .u32 (f : Int)) ∧ f < 4294967296 := fun i => by
      by_cases hil : i < len
      · obtain ⟨h1, h2⟩ := hi i (by omega)
        obtain ⟨f, e, _, hw⟩ := DataW.trod_int Tryz.underlying40 h2
        have hw := wfu32 hw
        have e : V i = .int .u32 f := by simpa using e
        refine ⟨f.toNat, fun _ => ⟨?_, by omega⟩⟩
        rw [h1, e, Int.toNat_of_nonneg hw.1]
      · exact ⟨0, fun h => absurd h hil⟩
    have hch : ∃ F : Nat → Nat, ∀ i, i < len → w.cell? (a.add i) = some (.int .u32 (F i : Int)) ∧ F i < 4294967296 := ⟨fun i => (each i).choose, fun i hi => (each i).choose_spec hi⟩
    obtain ⟨F, hF⟩ := hch
    refine ⟨some a, (List.range len).map F, cap, by simp, fun k hk => ?_, fun k hk => ?_⟩
    · simp at hk
      obtain ⟨g0, _⟩ := hF k (by omega)
      obtain ⟨b, off, spot⟩ := a
      have hspot : spot = none := World.cell?_spot (hF 0 (by omega)).1
      subst hspot
      have e : ((List.range len).map F).getD k 0 = F k := by simp [List.getD_eq_getElem?_getD, List.getElem?_range hk]
      rw [e]
      refine ⟨b, off, rfl, ?_⟩
      rw [Addr.add_lit] at g0
      exact g0
    · simp at hk
      have e : ((List.range len).map F).getD k 0 = F k := by simp [List.getD_eq_getElem?_getD, List.getElem?_range hk]
      rw [e]
      exact (hF k hk).2
end
end Go.Proofs.YtlagdgkjpnocfaaGreatDoor
