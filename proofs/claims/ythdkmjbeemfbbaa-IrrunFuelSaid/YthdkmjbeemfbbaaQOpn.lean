/-
  An instruction and a block's end as arguments, opened (layer 13); the table that the row lays. Instructions and blocks that came in, opened (layer 13). Blocks that came in, opened (layer 13). Whether a module of one procedure is few (layer 13). Few blocks with small numbers are such as the lines' contracts want (layer 13); a procedure that came in, opened.
-/
import Derived.Test.YthdkmjbeemfbbaaQIqE
import Derived.Test.YthdkmjbeemfbbaaRows
import Derived.Lib.LaidTab
import Derived.ChangeArms
import Derived.Deep.Slices
import Derived.ProofKit
import Derived.OpenShut
import Derived.WideShapes
import Derived.ChangeSame
import Derived.Test.YthdkmjbeemfbbaaQTxtA
namespace Go.Proofs.Ythdkmjbeemfbbaa
open Go.ChangeShapes Go.WideShapes Go.ChangeAt Go.RowKit Go.Deep
set_option linter.unusedVariables false
set_option linter.unusedSimpArgs false
theorem Fr.frame {W W' : World} (h : Fr (fun _ => False) W W') (may : MemPlace → Prop) : W.keptBut W' may := by
  refine ⟨h.os, h.output, fun i hi => ?_⟩
  rw [h.block i hi id]
  split <;> simp_all
theorem Fr.same {W W' : World} (h : Fr (fun _ => False) W W') {p : MemPlace} (hp : p.block < W.heap.size) : W.sameAt W' p := by
  cases p with
  | cell b o => exact World.cell?_of_block (w := W) (h.block b hp id)
  | map b => exact h.block b hp id
theorem Fr.trod {H : Type} {enc : TypeId × Value → H} {P : Program} {t : TypeId} (hl : laidOutB P = true) (hr : P.readableRec t = true) (hrow : t < P.types.size) {W W' : World} {v : Value} {d : DataW H} {ps : List MemPlace}
    (h : DataW.Trod enc P W 0 (fun _ => true) true t v d ps) (hb : Fr (fun _ => False) W W') (hlt : ∀ x ∈ ps, x.block < W.heap.size) :
    DataW.Trod enc P W' 0 (fun b => decide (b < W.heap.size)) true t v d ps :=
  WideElems.Trod_stays hl hr hrow h (fun x hx => hb.same (hlt x hx)) (fun x hx => by simpa using hlt x hx)
theorem laidOut : laidOutB Try.prog = true := by kernel_rfl
theorem cellsIns : Try.prog.cellsOf 48 = 11 := by kernel_rfl
theorem cellsBlk : Try.prog.cellsOf 44 = 5 := by kernel_rfl
theorem cellsInt : Try.prog.cellsOf 3 = 1 := by kernel_rfl
theorem cellsU32 : Try.prog.cellsOf 31 = 1 := by kernel_rfl
theorem cellsBool : Try.prog.cellsOf 4 = 1 := by kernel_rfl
theorem cellsSl : Try.prog.cellsOf 46 = 1 := by kernel_rfl
theorem cellsSi : Try.prog.cellsOf 42 = 1 := by kernel_rfl
section
variable {H : Type} {enc : TypeId × Value → H} {w : World} {spare : Nat → Bool} {held : Bool}
end
theorem wf64 {a : Int} (h : (Lit.int .i64 a).wf = true) : InR a := by
  simpa [Lit.wf, IntKind.min, IntKind.max, IntKind.signed, IntKind.bits, InR] using h
theorem wf32 {a : Int} (h : (Lit.int .u32 a).wf = true) : 0 ≤ a ∧ a ≤ 4294967295 := by
  simpa [Lit.wf, IntKind.min, IntKind.max, IntKind.signed, IntKind.bits] using h
section
variable {H : Type} {enc : TypeId × Value → H} {w : World} {spare : Nat → Bool} {held : Bool}
set_option maxRecDepth 100000 in
theorem open_intsR {fuel : Nat} {cs : List Value} {x : DataW H × List MemPlace} (h : DataW.trod enc Try.prog w 0 spare held fuel 46 cs = some x) :
    ∃ (a : Option Addr) (l : List Int) (c : Nat), cs = [.slice a l.length c] ∧ IntsAt w a l ∧ l.length ≤ maxLen ∧ ∀ y ∈ l, InR y := by
  rcases open_slice Try.underlying46 h with ⟨rfl, _⟩ | ⟨a, len, cap, m, n, D, Pl, rfl, _, hl, hm, hmm, _, hi⟩
  · exact ⟨none, [], 0, rfl, fun k hk => by simp at hk, by simp, fun y hy => by simp at hy⟩
  · have hlm : len ≤ m := by rw [hmm]; split <;> omega
    have each : ∀ i, i < len → ∃ f : Int, w.cell? (a.add i) = some (.int .i64 f) ∧ InR f := fun i hil => by
      obtain ⟨cs', h1, h2⟩ := hi i (by omega)
      rw [cellsInt] at h1
      obtain ⟨f, rfl, _, hw⟩ := DataW.trod_int Try.underlying3 h2
      obtain ⟨_, _, hc⟩ := World.cells?_some h1
      have q := hc 0 (by decide)
      rw [Addr.add_add, Nat.mul_one, Nat.add_zero] at q
      exact ⟨f, q, wf64 hw⟩
    have hch : ∃ F : Nat → Int, ∀ i, i < len → w.cell? (a.add i) = some (.int .i64 (F i)) ∧ InR (F i) :=
      ⟨fun i => if hi : i < len then (each i hi).choose else 0, fun i hi => by simp only [dif_pos hi]; exact (each i hi).choose_spec⟩
    obtain ⟨F, hF⟩ := hch
    refine ⟨some a, (List.range len).map F, cap, by simp, fun k hk => ?_, by simp; omega, fun y hy => ?_⟩
    · simp at hk
      have g0 := (hF 0 (by omega)).1
      obtain ⟨b, off, spot⟩ := a
      have hspot : spot = none := World.cell?_spot g0
      subst hspot
      have e : ((List.range len).map F).getD k 0 = F k := by simp [List.getD_eq_getElem?_getD, List.getElem?_range hk]
      rw [e]
      refine ⟨b, off, rfl, ?_⟩
      have := (hF k hk).1
      rw [Addr.add_lit] at this
      exact this
    · simp only [List.mem_map, List.mem_range] at hy
      obtain ⟨i, hil, rfl⟩ := hy
      exact (hF i hil).2
/-- What an instruction's eleven cells are, the Args read behind them; all but how many Args there are. -/
structure InnIn (w : World) (i : Inn) (vs : List Value) : Prop where
  v : ∃ a c, vs = [.int .i64 i.x0, .int .i64 i.x1, .int .i64 i.x2, .int .i64 i.x3, .int .i64 i.x4, .int .i64 i.x5, .int .i64 i.x6, .int .i64 i.x7, .int .u32 i.u, .slice a i.args.length c, .bool i.lg] ∧ IntsAt w a i.args
  n : i.args.length ≤ maxLen
  r : ∀ x ∈ i.l8, InR x
  ra : ∀ x ∈ i.args, InR x
  u0 : 0 ≤ i.u
  u1 : i.u ≤ 4294967295
set_option maxRecDepth 100000 in
theorem open_inn {fuel : Nat} {cs : List Value} {x : DataW H × List MemPlace} (h : DataW.trod enc Try.prog w 0 spare held fuel 48 cs = some x) : ∃ i : Inn, InnIn w i cs := by
  obtain ⟨xs, n, _, _, hl, hlen, hg⟩ := DataW.trod_struct Try.underlying48 h
  rw [cellsIns] at hl
  match cs, hl, xs, hlen with
  | [c0, c1, c2, c3, c4, c5, c6, c7, c8, c9, c10], _, [y0, y1, y2, y3, y4, y5, y6, y7, y8, y9, y10], _ =>
    have g0 : DataW.trod enc Try.prog w 0 spare held n 3 [c0] = some y0 := by simpa [cellsInt, cellsU32, cellsSl, cellsBool] using hg 0 _ rfl
    have g1 : DataW.trod enc Try.prog w 0 spare held n 3 [c1] = some y1 := by simpa [cellsInt, cellsU32, cellsSl, cellsBool] using hg 1 _ rfl
    have g2 : DataW.trod enc Try.prog w 0 spare held n 3 [c2] = some y2 := by simpa [cellsInt, cellsU32, cellsSl, cellsBool] using hg 2 _ rfl
    have g3 : DataW.trod enc Try.prog w 0 spare held n 3 [c3] = some y3 := by simpa [cellsInt, cellsU32, cellsSl, cellsBool] using hg 3 _ rfl
    have g4 : DataW.trod enc Try.prog w 0 spare held n 3 [c4] = some y4 := by simpa [cellsInt, cellsU32, cellsSl, cellsBool] using hg 4 _ rfl
    have g5 : DataW.trod enc Try.prog w 0 spare held n 3 [c5] = some y5 := by simpa [cellsInt, cellsU32, cellsSl, cellsBool] using hg 5 _ rfl
    have g6 : DataW.trod enc Try.prog w 0 spare held n 3 [c6] = some y6 := by simpa [cellsInt, cellsU32, cellsSl, cellsBool] using hg 6 _ rfl
    have g7 : DataW.trod enc Try.prog w 0 spare held n 3 [c7] = some y7 := by simpa [cellsInt, cellsU32, cellsSl, cellsBool] using hg 7 _ rfl
    have g8 : DataW.trod enc Try.prog w 0 spare held n 31 [c8] = some y8 := by simpa [cellsInt, cellsU32, cellsSl, cellsBool] using hg 8 _ rfl
    have g9 : DataW.trod enc Try.prog w 0 spare held n 46 [c9] = some y9 := by simpa [cellsInt, cellsU32, cellsSl, cellsBool] using hg 9 _ rfl
    have g10 : DataW.trod enc Try.prog w 0 spare held n 4 [c10] = some y10 := by simpa [cellsInt, cellsU32, cellsSl, cellsBool] using hg 10 _ rfl
    obtain ⟨a0, e0, _, w0⟩ := DataW.trod_int Try.underlying3 g0
    obtain ⟨a1, e1, _, w1⟩ := DataW.trod_int Try.underlying3 g1
    obtain ⟨a2, e2, _, w2⟩ := DataW.trod_int Try.underlying3 g2
    obtain ⟨a3, e3, _, w3⟩ := DataW.trod_int Try.underlying3 g3
    obtain ⟨a4, e4, _, w4⟩ := DataW.trod_int Try.underlying3 g4
    obtain ⟨a5, e5, _, w5⟩ := DataW.trod_int Try.underlying3 g5
    obtain ⟨a6, e6, _, w6⟩ := DataW.trod_int Try.underlying3 g6
    obtain ⟨a7, e7, _, w7⟩ := DataW.trod_int Try.underlying3 g7
    obtain ⟨a8, e8, _, w8⟩ := DataW.trod_int Try.underlying31 g8
    obtain ⟨fa, fs, fc, e9, hf, hlm, hr⟩ := open_intsR g9
    obtain ⟨lg, e10, _⟩ := DataW.trod_bool Try.underlying4 g10
    simp only [List.cons.injEq, and_true] at e0 e1 e2 e3 e4 e5 e6 e7 e8 e9 e10
    subst e0 e1 e2 e3 e4 e5 e6 e7 e8 e9 e10
    refine ⟨⟨a0, a1, a2, a3, a4, a5, a6, a7, a8, fs, lg⟩, ⟨fa, fc, rfl, hf⟩, hlm, ?_, hr, (wf32 w8).1, (wf32 w8).2⟩
    intro x hx
    simp only [Inn.l8, List.mem_cons, List.mem_nil_iff, or_false] at hx
    rcases hx with rfl | rfl | rfl | rfl | rfl | rfl | rfl | rfl
    · exact wf64 w0
    · exact wf64 w1
    · exact wf64 w2
    · exact wf64 w3
    · exact wf64 w4
    · exact wf64 w5
    · exact wf64 w6
    · exact wf64 w7
/-- What is known of an instruction that came in, but for how many Args it has. -/
structure Inn.wide (i : Inn) : Prop where
  n : i.args.length ≤ maxLen
  r : ∀ x ∈ i.l8, InR x
  ra : ∀ x ∈ i.args, InR x
  u0 : 0 ≤ i.u
  u1 : i.u ≤ 4294967295
set_option maxRecDepth 100000 in
theorem open_inss {fuel : Nat} {cs : List Value} {x : DataW H × List MemPlace} (h : DataW.trod enc Try.prog w 0 spare held fuel 42 cs = some x) :
    ∃ (a : Option Addr) (l : List Inn) (c : Nat), cs = [.slice a l.length c] ∧ InsL w a l ∧ l.length ≤ maxLen ∧ ∀ y ∈ l, y.wide := by
  rcases open_slice Try.underlying42 h with ⟨rfl, _⟩ | ⟨a, len, cap, m, n, D, Pl, rfl, _, hl, hm, hmm, _, hi⟩
  · exact ⟨none, [], 0, rfl, fun k hk => by simp at hk, by simp, fun y hy => by simp at hy⟩
  · have hlm : len ≤ m := by rw [hmm]; split <;> omega
    have each : ∀ i, i < len → ∃ q : Inn, (∃ a' c', (∀ j y, ([.int .i64 q.x0, .int .i64 q.x1, .int .i64 q.x2, .int .i64 q.x3, .int .i64 q.x4, .int .i64 q.x5, .int .i64 q.x6, .int .i64 q.x7, .int .u32 q.u, .slice a' q.args.length c', .bool q.lg] : List Value)[j]? = some y → w.cell? (a.add (i * 11 + j)) = some y) ∧ IntsAt w a' q.args) ∧ q.wide := fun i hil => by
      obtain ⟨cs', h1, h2⟩ := hi i (by omega)
      rw [cellsIns] at h1
      obtain ⟨q, ⟨⟨a', c', rfl, ha⟩, b1, b2, b3, b4, b5⟩⟩ := open_inn h2
      obtain ⟨_, _, hc⟩ := World.cells?_some h1
      refine ⟨q, ⟨a', c', fun j y hy => ?_, ha⟩, ⟨b1, b2, b3, b4, b5⟩⟩
      have hj : j < 11 := by
        have := (List.getElem?_eq_some_iff.1 hy).1
        simpa using this
      rw [← Addr.add_add, hc j hj]
      exact hy
    have hch : ∃ F : Nat → Inn, ∀ i, i < len → (∃ a' c', (∀ j y, ([.int .i64 (F i).x0, .int .i64 (F i).x1, .int .i64 (F i).x2, .int .i64 (F i).x3, .int .i64 (F i).x4, .int .i64 (F i).x5, .int .i64 (F i).x6, .int .i64 (F i).x7, .int .u32 (F i).u, .slice a' (F i).args.length c', .bool (F i).lg] : List Value)[j]? = some y → w.cell? (a.add (i * 11 + j)) = some y) ∧ IntsAt w a' (F i).args) ∧ (F i).wide :=
      ⟨fun i => if hi : i < len then (each i hi).choose else inn0, fun i hi => by simp only [dif_pos hi]; exact (each i hi).choose_spec⟩
    obtain ⟨F, hF⟩ := hch
    refine ⟨some a, (List.range len).map F, cap, by simp, fun k hk => ?_, by simp; omega, fun y hy => ?_⟩
    · simp at hk
      obtain ⟨⟨a0, c0, g0, _⟩, _⟩ := hF 0 (by omega)
      have g1 := g0 0 _ rfl
      obtain ⟨b, off, spot⟩ := a
      have hspot : spot = none := World.cell?_spot g1
      subst hspot
      have e : ((List.range len).map F).getD k inn0 = F k := by simp [List.getD_eq_getElem?_getD, List.getElem?_range hk]
      rw [e]
      obtain ⟨⟨a', c', q, ha⟩, _⟩ := hF k hk
      have q' : ∀ j y, _ → w.cell? ⟨b, off + k * 11 + j, none⟩ = some y := fun j y hy => by
        have := q j y hy
        rw [Addr.add_lit, ← Nat.add_assoc] at this
        exact this
      exact ⟨b, off, rfl, q' 0 _ rfl, q' 1 _ rfl, q' 2 _ rfl, q' 3 _ rfl, q' 4 _ rfl, q' 5 _ rfl, q' 6 _ rfl, q' 7 _ rfl, q' 8 _ rfl, ⟨a', c', q' 9 _ rfl, ha⟩, q' 10 _ rfl⟩
    · simp only [List.mem_map, List.mem_range] at hy
      obtain ⟨i, hil, rfl⟩ := hy
      exact (hF i hil).2
end
/-- What is known of a block that came in, but for how much stands in it. -/
structure Bk.wide (b : Bk) : Prop where
  n : b.ins.length ≤ maxLen
  i : ∀ x ∈ b.ins, x.wide
  r : ∀ x ∈ [b.en, b.a, b.t, b.el], InR x
section
variable {H : Type} {enc : TypeId × Value → H} {w : World} {spare : Nat → Bool} {held : Bool}
set_option maxRecDepth 100000 in
theorem open_bk {fuel : Nat} {cs : List Value} {x : DataW H × List MemPlace} (h : DataW.trod enc Try.prog w 0 spare held fuel 44 cs = some x) :
    ∃ b : Bk, (∃ a c, cs = [.slice a b.ins.length c, .int .i64 b.en, .int .i64 b.a, .int .i64 b.t, .int .i64 b.el] ∧ InsL w a b.ins) ∧ b.wide := by
  obtain ⟨xs, n, _, _, hl, hlen, hg⟩ := DataW.trod_struct Try.underlying44 h
  rw [cellsBlk] at hl
  match cs, hl, xs, hlen with
  | [c0, c1, c2, c3, c4], _, [y0, y1, y2, y3, y4], _ =>
    have g0 : DataW.trod enc Try.prog w 0 spare held n 42 [c0] = some y0 := by simpa [cellsInt, cellsSi] using hg 0 _ rfl
    have g1 : DataW.trod enc Try.prog w 0 spare held n 3 [c1] = some y1 := by simpa [cellsInt, cellsSi] using hg 1 _ rfl
    have g2 : DataW.trod enc Try.prog w 0 spare held n 3 [c2] = some y2 := by simpa [cellsInt, cellsSi] using hg 2 _ rfl
    have g3 : DataW.trod enc Try.prog w 0 spare held n 3 [c3] = some y3 := by simpa [cellsInt, cellsSi] using hg 3 _ rfl
    have g4 : DataW.trod enc Try.prog w 0 spare held n 3 [c4] = some y4 := by simpa [cellsInt, cellsSi] using hg 4 _ rfl
    obtain ⟨fa, fs, fc, e0, hf, hlm, hr⟩ := open_inss g0
    obtain ⟨a1, e1, _, w1⟩ := DataW.trod_int Try.underlying3 g1
    obtain ⟨a2, e2, _, w2⟩ := DataW.trod_int Try.underlying3 g2
    obtain ⟨a3, e3, _, w3⟩ := DataW.trod_int Try.underlying3 g3
    obtain ⟨a4, e4, _, w4⟩ := DataW.trod_int Try.underlying3 g4
    simp only [List.cons.injEq, and_true] at e0 e1 e2 e3 e4
    subst e0 e1 e2 e3 e4
    refine ⟨⟨fs, a1, a2, a3, a4⟩, ⟨fa, fc, rfl, hf⟩, hlm, hr, ?_⟩
    intro x hx
    simp only [List.mem_cons, List.mem_nil_iff, or_false] at hx
    rcases hx with rfl | rfl | rfl | rfl
    · exact wf64 w1
    · exact wf64 w2
    · exact wf64 w3
    · exact wf64 w4
set_option maxRecDepth 100000 in
theorem open_bks {fuel : Nat} {cs : List Value} {x : DataW H × List MemPlace} (h : DataW.trod enc Try.prog w 0 spare held fuel 39 cs = some x) :
    ∃ (a : Option Addr) (l : List Bk) (c : Nat), cs = [.slice a l.length c] ∧ BkL w a l ∧ l.length ≤ maxLen ∧ ∀ y ∈ l, y.wide := by
  rcases open_slice Try.underlying39 h with ⟨rfl, _⟩ | ⟨a, len, cap, m, n, D, Pl, rfl, _, hl, hm, hmm, _, hi⟩
  · exact ⟨none, [], 0, rfl, fun k hk => by simp at hk, by simp, fun y hy => by simp at hy⟩
  · have hlm : len ≤ m := by rw [hmm]; split <;> omega
    have each : ∀ i, i < len → ∃ q : Bk, (∃ a' c', (∀ j y, ([.slice a' q.ins.length c', .int .i64 q.en, .int .i64 q.a, .int .i64 q.t, .int .i64 q.el] : List Value)[j]? = some y → w.cell? (a.add (i * 5 + j)) = some y) ∧ InsL w a' q.ins) ∧ q.wide := fun i hil => by
      obtain ⟨cs', h1, h2⟩ := hi i (by omega)
      rw [cellsBlk] at h1
      obtain ⟨q, ⟨a', c', rfl, ha⟩, b1⟩ := open_bk h2
      obtain ⟨_, _, hc⟩ := World.cells?_some h1
      refine ⟨q, ⟨a', c', fun j y hy => ?_, ha⟩, b1⟩
      have hj : j < 5 := by
        have := (List.getElem?_eq_some_iff.1 hy).1
        simpa using this
      rw [← Addr.add_add, hc j hj]
      exact hy
    have hch : ∃ F : Nat → Bk, ∀ i, i < len → (∃ a' c', (∀ j y, ([.slice a' (F i).ins.length c', .int .i64 (F i).en, .int .i64 (F i).a, .int .i64 (F i).t, .int .i64 (F i).el] : List Value)[j]? = some y → w.cell? (a.add (i * 5 + j)) = some y) ∧ InsL w a' (F i).ins) ∧ (F i).wide :=
      ⟨fun i => if hi : i < len then (each i hi).choose else bk0, fun i hi => by simp only [dif_pos hi]; exact (each i hi).choose_spec⟩
    obtain ⟨F, hF⟩ := hch
    refine ⟨some a, (List.range len).map F, cap, by simp, fun k hk => ?_, by simp; omega, fun y hy => ?_⟩
    · simp at hk
      obtain ⟨⟨a0, c0, g0, _⟩, _⟩ := hF 0 (by omega)
      have g1 := g0 0 _ rfl
      obtain ⟨b, off, spot⟩ := a
      have hspot : spot = none := World.cell?_spot g1
      subst hspot
      have e : ((List.range len).map F).getD k bk0 = F k := by simp [List.getD_eq_getElem?_getD, List.getElem?_range hk]
      rw [e]
      obtain ⟨⟨a', c', q, ha⟩, _⟩ := hF k hk
      have q' : ∀ j y, _ → w.cell? ⟨b, off + k * 5 + j, none⟩ = some y := fun j y hy => by
        have := q j y hy
        rw [Addr.add_lit, ← Nat.add_assoc] at this
        exact this
      exact ⟨b, off, rfl, ⟨a', c', q' 0 _ rfl, ha⟩, q' 1 _ rfl, q' 2 _ rfl, q' 3 _ rfl, q' 4 _ rfl⟩
    · simp only [List.mem_map, List.mem_range] at hy
      obtain ⟨i, hil, rfl⟩ := hy
      exact (hF i hil).2
end
def FI (i : Inn) : Prop := i.args.length ≤ 12 ∧ (∀ m, m < 8 → Lo (i.l8.getD m 0)) ∧ ∀ m, m < i.args.length → Lo (i.args.getD m 0)
def FB (b : Bk) : Prop := b.ins.length ≤ 60 ∧ ∀ j, j < b.ins.length → FI (b.ins.getD j inn0)
def FewP (l : List Bk) (e : Ending) : Prop := ∃ t : Bool, e = .returned (.bool t) ∧ (t = true → l.length ≤ 40 ∧ ∀ k, k < l.length → FB (l.getD k bk0))
theorem FewP.no (l : List Bk) : FewP l (.returned (.bool false)) := ⟨false, rfl, fun h => by cases h⟩
theorem of_getI {P : Inn → Prop} {l : List Inn} (h : ∀ m, m < l.length → P (l.getD m inn0)) : ∀ x ∈ l, P x := fun x hx => by
  obtain ⟨i, hi, rfl⟩ := List.getElem_of_mem hx
  have := h i (by omega)
  rwa [List.getD_eq_getElem?_getD, List.getElem?_eq_getElem hi] at this
theorem of_getB {P : Bk → Prop} {l : List Bk} (h : ∀ m, m < l.length → P (l.getD m bk0)) : ∀ x ∈ l, P x := fun x hx => by
  obtain ⟨i, hi, rfl⟩ := List.getElem_of_mem hx
  have := h i (by omega)
  rwa [List.getD_eq_getElem?_getD, List.getElem?_eq_getElem hi] at this
theorem fi_ok {i : Inn} (hw : i.wide) (h : FI i) : i.ok := ⟨hw.r, hw.ra, by have := h.1; omega, hw.u0, hw.u1⟩
theorem fb_ok {b : Bk} (hw : b.wide) (h : FB b) : b.ok := ⟨fun x hx => fi_ok (hw.i x hx) (of_getI h.2 x hx), by have := h.1; omega, hw.r⟩
section
variable {H : Type} {enc : TypeId × Value → H} {w : World} {spare : Nat → Bool} {held : Bool}
theorem cellsPrc : Try.prog.cellsOf 41 = 6 := by kernel_rfl
theorem cellsStr : Try.prog.cellsOf 9 = 1 := by kernel_rfl
theorem cellsSs : Try.prog.cellsOf 22 = 1 := by kernel_rfl
theorem cellsSb : Try.prog.cellsOf 39 = 1 := by kernel_rfl
end
end Go.Proofs.Ythdkmjbeemfbbaa
