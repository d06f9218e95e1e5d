/-
  An instruction and a block's end as arguments, opened (layer 13); the table that the row lays.
-/
import Derived.Test.YtnhdchagoabjeaaDoorBldG
import Derived.Test.YtnhdchagoabjeaaDoorRows
import Derived.Lib.LaidTab
import Derived.ChangeArms
import Derived.Deep.Slices
import Derived.ProofKit
import Derived.OpenShut
import Derived.WideShapes
import Derived.ChangeSame
namespace Go.Proofs.YtnhdchagoabjeaaDoor
open Go.ChangeShapes Go.WideShapes Go.ChangeAt Go.RowKit Go.Deep
set_option linter.unusedVariables false
set_option linter.unusedSimpArgs false
theorem Fr.frame {W W' : World} (h : Fr (fun _ => False) W W') (may : MemPlace → Prop) : W.keptBut W' may := by
  refine ⟨h.os, h.output, fun i hi => ?_⟩
  rw [h.block i hi id]
  split <;> simp_all
theorem Fr.same {W W' : World} (h : Fr (fun _ => False) W W') {p : MemPlace} (hp : p.block < W.heap.size) : W.sameAt W' p := by
  cases p with
  | cell b o => exact World.cell?_of_block (w := W) (h.block b hp id)
  | map b => exact h.block b hp id
theorem Fr.trod {H : Type} {enc : TypeId × Value → H} {P : Program} {t : TypeId} (hl : laidOutB P = true) (hr : P.readableRec t = true) (hrow : t < P.types.size) {W W' : World} {v : Value} {d : DataW H} {ps : List MemPlace}
    (h : DataW.Trod enc P W 0 (fun _ => true) true t v d ps) (hb : Fr (fun _ => False) W W') (hlt : ∀ x ∈ ps, x.block < W.heap.size) :
    DataW.Trod enc P W' 0 (fun b => decide (b < W.heap.size)) true t v d ps :=
  WideElems.Trod_stays hl hr hrow h (fun x hx => hb.same (hlt x hx)) (fun x hx => by simpa using hlt x hx)
theorem laidOut : laidOutB Tryd.prog = true := by kernel_rfl
theorem cellsIns : Tryd.prog.cellsOf 38 = 11 := by kernel_rfl
theorem cellsBlk : Tryd.prog.cellsOf 41 = 5 := by kernel_rfl
theorem cellsInt : Tryd.prog.cellsOf 3 = 1 := by kernel_rfl
theorem cellsU32 : Tryd.prog.cellsOf 35 = 1 := by kernel_rfl
theorem cellsBool : Tryd.prog.cellsOf 4 = 1 := by kernel_rfl
theorem cellsSl : Tryd.prog.cellsOf 36 = 1 := by kernel_rfl
theorem cellsSi : Tryd.prog.cellsOf 39 = 1 := by kernel_rfl
section
variable {H : Type} {enc : TypeId × Value → H} {w : World} {spare : Nat → Bool} {held : Bool}
set_option maxRecDepth 100000 in
theorem open_ints {fuel : Nat} {cs : List Value} {x : DataW H × List MemPlace} (h : DataW.trod enc Tryd.prog w 0 spare held fuel 36 cs = some x) :
    ∃ (a : Option Addr) (l : List Int) (c : Nat), cs = [.slice a l.length c] ∧ IntsAt w a l ∧ l.length ≤ maxLen ∧ (a = none → l.length = 0 ∧ c = 0) := by
  rcases open_slice Tryd.underlying36 h with ⟨rfl, _⟩ | ⟨a, len, cap, m, n, D, Pl, rfl, _, hl, hm, hmm, _, hi⟩
  · exact ⟨none, [], 0, rfl, fun k hk => by simp at hk, by simp, fun _ => ⟨rfl, rfl⟩⟩
  · have hlm : len ≤ m := by rw [hmm]; split <;> omega
    have each : ∀ i, i < len → ∃ f : Int, w.cell? (a.add i) = some (.int .i64 f) := fun i hil => by
      obtain ⟨cs', h1, h2⟩ := hi i (by omega)
      rw [cellsInt] at h1
      obtain ⟨f, rfl, _⟩ := DataW.trod_int Tryd.underlying3 h2
      obtain ⟨_, _, hc⟩ := World.cells?_some h1
      have q := hc 0 (by decide)
      rw [Addr.add_add, Nat.mul_one, Nat.add_zero] at q
      exact ⟨f, q⟩
    have hch : ∃ F : Nat → Int, ∀ i, i < len → w.cell? (a.add i) = some (.int .i64 (F i)) :=
      ⟨fun i => if hi : i < len then (each i hi).choose else 0, fun i hi => by simp only [dif_pos hi]; exact (each i hi).choose_spec⟩
    obtain ⟨F, hF⟩ := hch
    refine ⟨some a, (List.range len).map F, cap, by simp, fun k hk => ?_, by simp; omega, fun h => by cases h⟩
    simp at hk
    have g0 := hF 0 (by omega)
    obtain ⟨b, off, spot⟩ := a
    have hspot : spot = none := World.cell?_spot g0
    subst hspot
    have e : ((List.range len).map F).getD k 0 = F k := by simp [List.getD_eq_getElem?_getD, List.getElem?_range hk]
    rw [e]
    refine ⟨b, off, rfl, ?_⟩
    have := hF k hk
    rw [Addr.add_lit] at this
    exact this
set_option maxRecDepth 100000 in
theorem open_ins {fuel : Nat} {cs : List Value} {x : DataW H × List MemPlace} (h : DataW.trod enc Tryd.prog w 0 spare held fuel 38 cs = some x) :
    ∃ (op d a b f o s z nu : Int) (lg : Bool) (aa : Option Addr) (c : Nat) (l : List Int), cs = [.int .i64 op, .int .i64 d, .int .i64 a, .int .i64 b, .int .i64 f, .int .i64 o, .int .i64 s, .int .i64 z, .int .u32 nu, .slice aa l.length c, .bool lg] ∧ IntsAt w aa l ∧ l.length ≤ maxLen ∧ (aa = none → l.length = 0 ∧ c = 0) := by
  obtain ⟨xs, n, _, _, hl, hlen, hg⟩ := DataW.trod_struct Tryd.underlying38 h
  rw [cellsIns] at hl
  match cs, hl, xs, hlen with
  | [c0, c1, c2, c3, c4, c5, c6, c7, c8, c9, c10], _, [y0, y1, y2, y3, y4, y5, y6, y7, y8, y9, y10], _ =>
    have g0 : DataW.trod enc Tryd.prog w 0 spare held n 3 [c0] = some y0 := by simpa [cellsInt, cellsU32, cellsSl, cellsBool] using hg 0 _ rfl
    have g1 : DataW.trod enc Tryd.prog w 0 spare held n 3 [c1] = some y1 := by simpa [cellsInt, cellsU32, cellsSl, cellsBool] using hg 1 _ rfl
    have g2 : DataW.trod enc Tryd.prog w 0 spare held n 3 [c2] = some y2 := by simpa [cellsInt, cellsU32, cellsSl, cellsBool] using hg 2 _ rfl
    have g3 : DataW.trod enc Tryd.prog w 0 spare held n 3 [c3] = some y3 := by simpa [cellsInt, cellsU32, cellsSl, cellsBool] using hg 3 _ rfl
    have g4 : DataW.trod enc Tryd.prog w 0 spare held n 3 [c4] = some y4 := by simpa [cellsInt, cellsU32, cellsSl, cellsBool] using hg 4 _ rfl
    have g5 : DataW.trod enc Tryd.prog w 0 spare held n 3 [c5] = some y5 := by simpa [cellsInt, cellsU32, cellsSl, cellsBool] using hg 5 _ rfl
    have g6 : DataW.trod enc Tryd.prog w 0 spare held n 3 [c6] = some y6 := by simpa [cellsInt, cellsU32, cellsSl, cellsBool] using hg 6 _ rfl
    have g7 : DataW.trod enc Tryd.prog w 0 spare held n 3 [c7] = some y7 := by simpa [cellsInt, cellsU32, cellsSl, cellsBool] using hg 7 _ rfl
    have g8 : DataW.trod enc Tryd.prog w 0 spare held n 35 [c8] = some y8 := by simpa [cellsInt, cellsU32, cellsSl, cellsBool] using hg 8 _ rfl
    have g9 : DataW.trod enc Tryd.prog w 0 spare held n 36 [c9] = some y9 := by simpa [cellsInt, cellsU32, cellsSl, cellsBool] using hg 9 _ rfl
    have g10 : DataW.trod enc Tryd.prog w 0 spare held n 4 [c10] = some y10 := by simpa [cellsInt, cellsU32, cellsSl, cellsBool] using hg 10 _ rfl
    obtain ⟨a0, e0, _, _⟩ := DataW.trod_int Tryd.underlying3 g0
    obtain ⟨a1, e1, _, _⟩ := DataW.trod_int Tryd.underlying3 g1
    obtain ⟨a2, e2, _, _⟩ := DataW.trod_int Tryd.underlying3 g2
    obtain ⟨a3, e3, _, _⟩ := DataW.trod_int Tryd.underlying3 g3
    obtain ⟨a4, e4, _, _⟩ := DataW.trod_int Tryd.underlying3 g4
    obtain ⟨a5, e5, _, _⟩ := DataW.trod_int Tryd.underlying3 g5
    obtain ⟨a6, e6, _, _⟩ := DataW.trod_int Tryd.underlying3 g6
    obtain ⟨a7, e7, _, _⟩ := DataW.trod_int Tryd.underlying3 g7
    obtain ⟨a8, e8, _, _⟩ := DataW.trod_int Tryd.underlying35 g8
    obtain ⟨fa, fs, fc, e9, hf, hlm, hnn⟩ := open_ints g9
    obtain ⟨lg, e10, _⟩ := DataW.trod_bool Tryd.underlying4 g10
    simp only [List.cons.injEq, and_true] at e0 e1 e2 e3 e4 e5 e6 e7 e8 e9 e10
    subst e0 e1 e2 e3 e4 e5 e6 e7 e8 e9 e10
    exact ⟨a0, a1, a2, a3, a4, a5, a6, a7, a8, lg, fa, fc, fs, rfl, hf, hlm, hnn⟩
set_option maxRecDepth 100000 in
theorem open_blk {fuel : Nat} {cs : List Value} {x : DataW H × List MemPlace} (h : DataW.trod enc Tryd.prog w 0 spare held fuel 41 cs = some x) :
    ∃ (bi : Value) (en a t el : Int), cs = [bi, .int .i64 en, .int .i64 a, .int .i64 t, .int .i64 el] := by
  obtain ⟨xs, n, _, _, hl, hlen, hg⟩ := DataW.trod_struct Tryd.underlying41 h
  rw [cellsBlk] at hl
  match cs, hl, xs, hlen with
  | [c0, c1, c2, c3, c4], _, [y0, y1, y2, y3, y4], _ =>
    have g1 : DataW.trod enc Tryd.prog w 0 spare held n 3 [c1] = some y1 := by simpa [cellsInt, cellsSi] using hg 1 _ rfl
    have g2 : DataW.trod enc Tryd.prog w 0 spare held n 3 [c2] = some y2 := by simpa [cellsInt, cellsSi] using hg 2 _ rfl
    have g3 : DataW.trod enc Tryd.prog w 0 spare held n 3 [c3] = some y3 := by simpa [cellsInt, cellsSi] using hg 3 _ rfl
    have g4 : DataW.trod enc Tryd.prog w 0 spare held n 3 [c4] = some y4 := by simpa [cellsInt, cellsSi] using hg 4 _ rfl
    obtain ⟨a1, e1, _, _⟩ := DataW.trod_int Tryd.underlying3 g1
    obtain ⟨a2, e2, _, _⟩ := DataW.trod_int Tryd.underlying3 g2
    obtain ⟨a3, e3, _, _⟩ := DataW.trod_int Tryd.underlying3 g3
    obtain ⟨a4, e4, _, _⟩ := DataW.trod_int Tryd.underlying3 g4
    simp only [List.cons.injEq, and_true] at e1 e2 e3 e4
    subst e1 e2 e3 e4
    exact ⟨c0, a1, a2, a3, a4, rfl⟩
end
theorem agg_of {l c : List Value} (h : (Value.agg l.toArray).cells.toList = c) : Value.agg l.toArray = .agg c.toArray := by
  have e : l = c := by simpa [Value.cells] using h
  rw [e]
theorem tab_third {P : Program} {W : World} {x1 x2 : String × DataW Unit} {name : String} {k : IntKind} {zs : List Int} {rest : List (String × DataW Unit)} {g : Nat} {t e : TypeId} {n : Nat}
    (hg : P.globalNamed name = some g) (hty : (P.globals[g]?).map (·.type) = some t) (ht : P.underlying t = some (.array n e)) (he : P.underlying e = some (.int k)) (hce : P.cellsOf e = 1) (hct : P.cellsOf t = n)
    (h : laidMet P (x1 :: x2 :: (name, Lib.tabData k zs) :: rest) W) : Lib.TabIs P W name k zs := by
  obtain ⟨ps, h, _⟩ := h
  obtain ⟨_, _, _, _, _, q1, _, _, _, _, h, _⟩ := h
  obtain ⟨_, _, _, _, _, q2, _, _, _, _, h, _⟩ := h
  obtain ⟨g', t', cs, fuel, p, q, hg', ht', hvar, hd, _, _⟩ := h
  obtain rfl := Option.some.inj (hg.symm.trans hg')
  obtain rfl := Option.some.inj (hty.symm.trans ht')
  unfold Lib.TabIs
  rw [hvar, ← Lib.cells_of_tab ht he hce hct hd]
end Go.Proofs.YtnhdchagoabjeaaDoor
