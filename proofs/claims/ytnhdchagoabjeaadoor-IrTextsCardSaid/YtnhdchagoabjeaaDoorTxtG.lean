/-
  Blocks that came in, opened (layer 13).
-/
import Derived.Test.YtnhdchagoabjeaaDoorTxtF
namespace Go.Proofs.YtnhdchagoabjeaaDoor
open Go.ChangeShapes Go.WideShapes Go.ChangeAt Go.RowKit Go.Deep
set_option linter.unusedVariables false
set_option linter.unusedSimpArgs false
/-- What is known of a block that came in, but for how much stands in it. -/
structure Bk.wide (b : Bk) : Prop where
  n : b.ins.length ≤ maxLen
  i : ∀ x ∈ b.ins, x.wide
  r : ∀ x ∈ [b.en, b.a, b.t, b.el], InR x
section
variable {H : Type} {enc : TypeId × Value → H} {w : World} {spare : Nat → Bool} {held : Bool}
set_option maxRecDepth 100000 in
theorem open_bk {fuel : Nat} {cs : List Value} {x : DataW H × List MemPlace} (h : DataW.trod enc Tryd.prog w 0 spare held fuel 41 cs = some x) :
    ∃ b : Bk, (∃ a c, cs = [.slice a b.ins.length c, .int .i64 b.en, .int .i64 b.a, .int .i64 b.t, .int .i64 b.el] ∧ InsL w a b.ins) ∧ b.wide := by
  obtain ⟨xs, n, _, _, hl, hlen, hg⟩ := DataW.trod_struct Tryd.underlying41 h
  rw [cellsBlk] at hl
  match cs, hl, xs, hlen with
  | [c0, c1, c2, c3, c4], _, [y0, y1, y2, y3, y4], _ =>
    have g0 : DataW.trod enc Tryd.prog w 0 spare held n 39 [c0] = some y0 := by simpa [cellsInt, cellsSi] using hg 0 _ rfl
    have g1 : DataW.trod enc Tryd.prog w 0 spare held n 3 [c1] = some y1 := by simpa [cellsInt, cellsSi] using hg 1 _ rfl
    have g2 : DataW.trod enc Tryd.prog w 0 spare held n 3 [c2] = some y2 := by simpa [cellsInt, cellsSi] using hg 2 _ rfl
    have g3 : DataW.trod enc Tryd.prog w 0 spare held n 3 [c3] = some y3 := by simpa [cellsInt, cellsSi] using hg 3 _ rfl
    have g4 : DataW.trod enc Tryd.prog w 0 spare held n 3 [c4] = some y4 := by simpa [cellsInt, cellsSi] using hg 4 _ rfl
    obtain ⟨fa, fs, fc, e0, hf, hlm, hr⟩ := open_inss g0
    obtain ⟨a1, e1, _, w1⟩ := DataW.trod_int Tryd.underlying3 g1
    obtain ⟨a2, e2, _, w2⟩ := DataW.trod_int Tryd.underlying3 g2
    obtain ⟨a3, e3, _, w3⟩ := DataW.trod_int Tryd.underlying3 g3
    obtain ⟨a4, e4, _, w4⟩ := DataW.trod_int Tryd.underlying3 g4
    simp only [List.cons.injEq, and_true] at e0 e1 e2 e3 e4
    subst e0 e1 e2 e3 e4
    refine ⟨⟨fs, a1, a2, a3, a4⟩, ⟨fa, fc, rfl, hf⟩, hlm, hr, ?_⟩
    intro x hx
    simp only [List.mem_cons, List.mem_nil_iff, or_false] at hx
    rcases hx with rfl | rfl | rfl | rfl
    · exact wf64 w1
    · exact wf64 w2
    · exact wf64 w3
    · exact wf64 w4
set_option maxRecDepth 100000 in
theorem open_bks {fuel : Nat} {cs : List Value} {x : DataW H × List MemPlace} (h : DataW.trod enc Tryd.prog w 0 spare held fuel 48 cs = some x) :
    ∃ (a : Option Addr) (l : List Bk) (c : Nat), cs = [.slice a l.length c] ∧ BkL w a l ∧ l.length ≤ maxLen ∧ ∀ y ∈ l, y.wide := by
  rcases open_slice Tryd.underlying48 h with ⟨rfl, _⟩ | ⟨a, len, cap, m, n, D, Pl, rfl, _, hl, hm, hmm, _, hi⟩
  · exact ⟨none, [], 0, rfl, fun k hk => by simp at hk, by simp, fun y hy => by simp at hy⟩
  · have hlm : len ≤ m := by rw [hmm]; split <;> omega
    have each : ∀ i, i < len → ∃ q : Bk, (∃ a' c', (∀ j y, ([.slice a' q.ins.length c', .int .i64 q.en, .int .i64 q.a, .int .i64 q.t, .int .i64 q.el] : List Value)[j]? = some y → w.cell? (a.add (i * 5 + j)) = some y) ∧ InsL w a' q.ins) ∧ q.wide := fun i hil => by
      obtain ⟨cs', h1, h2⟩ := hi i (by omega)
      rw [cellsBlk] at h1
      obtain ⟨q, ⟨a', c', rfl, ha⟩, b1⟩ := open_bk h2
      obtain ⟨_, _, hc⟩ := World.cells?_some h1
      refine ⟨q, ⟨a', c', fun j y hy => ?_, ha⟩, b1⟩
      have hj : j < 5 := by
        have := (List.getElem?_eq_some_iff.1 hy).1
        simpa using this
      rw [← Addr.add_add, hc j hj]
      exact hy
    have hch : ∃ F : Nat → Bk, ∀ i, i < len → (∃ a' c', (∀ j y, ([.slice a' (F i).ins.length c', .int .i64 (F i).en, .int .i64 (F i).a, .int .i64 (F i).t, .int .i64 (F i).el] : List Value)[j]? = some y → w.cell? (a.add (i * 5 + j)) = some y) ∧ InsL w a' (F i).ins) ∧ (F i).wide :=
      ⟨fun i => if hi : i < len then (each i hi).choose else bk0, fun i hi => by simp only [dif_pos hi]; exact (each i hi).choose_spec⟩
    obtain ⟨F, hF⟩ := hch
    refine ⟨some a, (List.range len).map F, cap, by simp, fun k hk => ?_, by simp; omega, fun y hy => ?_⟩
    · simp at hk
      obtain ⟨⟨a0, c0, g0, _⟩, _⟩ := hF 0 (by omega)
      have g1 := g0 0 _ rfl
      obtain ⟨b, off, spot⟩ := a
      have hspot : spot = none := World.cell?_spot g1
      subst hspot
      have e : ((List.range len).map F).getD k bk0 = F k := by simp [List.getD_eq_getElem?_getD, List.getElem?_range hk]
      rw [e]
      obtain ⟨⟨a', c', q, ha⟩, _⟩ := hF k hk
      have q' : ∀ j y, _ → w.cell? ⟨b, off + k * 5 + j, none⟩ = some y := fun j y hy => by
        have := q j y hy
        rw [Addr.add_lit, ← Nat.add_assoc] at this
        exact this
      exact ⟨b, off, rfl, ⟨a', c', q' 0 _ rfl, ha⟩, q' 1 _ rfl, q' 2 _ rfl, q' 3 _ rfl, q' 4 _ rfl⟩
    · simp only [List.mem_map, List.mem_range] at hy
      obtain ⟨i, hil, rfl⟩ := hy
      exact (hF i hil).2
end
end Go.Proofs.YtnhdchagoabjeaaDoor
