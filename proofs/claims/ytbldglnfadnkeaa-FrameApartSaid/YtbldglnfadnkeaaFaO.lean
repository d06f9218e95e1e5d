/-
  Frames (layer 25): arguments opened.
-/
import Derived.Test.YtbldglnfadnkeaaFaH
import Derived.Deep.Slices
import Derived.ProofKit
import Derived.OpenShut
import Derived.WideShapes
import Derived.ChangeSame
namespace Go.Proofs.Ytbldglnfadnkeaa
open Go.ChangeShapes Go.WideShapes Go.ChangeAt Go.RowKit Go.Deep
set_option linter.unusedVariables false
set_option linter.unusedSimpArgs false
theorem Fr.frame {W W' : World} (h : Fr (fun _ => False) W W') (may : MemPlace → Prop) : W.keptBut W' may := by
  refine ⟨h.os, h.output, fun i hi => ?_⟩
  rw [h.block i hi id]
  split <;> simp_all
theorem Fr.same {W W' : World} (h : Fr (fun _ => False) W W') {p : MemPlace} (hp : p.block < W.heap.size) : W.sameAt W' p := by
  cases p with
  | cell b o => exact World.cell?_of_block (w := W) (h.block b hp id)
  | map b => exact h.block b hp id
theorem Fr.trod {H : Type} {enc : TypeId × Value → H} {P : Program} {t : TypeId} (hl : laidOutB P = true) (hr : P.readableRec t = true) (hrow : t < P.types.size) {W W' : World} {v : Value} {d : DataW H} {ps : List MemPlace}
    (h : DataW.Trod enc P W 0 (fun _ => true) true t v d ps) (hb : Fr (fun _ => False) W W') (hlt : ∀ x ∈ ps, x.block < W.heap.size) :
    DataW.Trod enc P W' 0 (fun b => decide (b < W.heap.size)) true t v d ps :=
  WideElems.Trod_stays hl hr hrow h (fun x hx => hb.same (hlt x hx)) (fun x hx => by simpa using hlt x hx)
theorem laidOut : laidOutB Try.prog = true := by kernel_rfl
theorem cellsSeat : Try.prog.cellsOf 44 = 2 := by kernel_rfl
theorem cellsProc : (Try.prog.cellsOf 25, Try.prog.cellsOf 4, Try.prog.cellsOf 22, Try.prog.cellsOf 23) = (6, 1, 1, 1) := by kernel_rfl
theorem cellsSlot : Try.prog.cellsOf 42 = 4 := by kernel_rfl
theorem cellsInt : Try.prog.cellsOf 3 = 1 := by kernel_rfl
theorem cellsStr : Try.prog.cellsOf 9 = 1 := by kernel_rfl
/-- A slot's four values. -/
structure Sl where
  nm : ByteArray
  sz : Int
  al : Int
  ce : Int
def Sl.vals (x : Sl) : List Value := [.string x.nm, .int .i64 x.sz, .int .i64 x.al, .int .i64 x.ce]
def sl0 : Sl := ⟨⟨#[]⟩, 0, 0, 0⟩
section
variable {H : Type} {enc : TypeId × Value → H} {w : World} {spare : Nat → Bool} {held : Bool}
set_option maxRecDepth 100000 in
theorem open_slot {fuel : Nat} {cs : List Value} {x : DataW H × List MemPlace} (h : DataW.trod enc Try.prog w 0 spare held fuel 42 cs = some x) :
    ∃ y : Sl, cs = y.vals := by
  obtain ⟨xs, n, _, _, hl, hlen, hg⟩ := DataW.trod_struct Try.underlying42 h
  rw [cellsSlot] at hl
  match cs, hl, xs, hlen with
  | [c0, c1, c2, c3], _, [y0, y1, y2, y3], _ =>
    have g0 : DataW.trod enc Try.prog w 0 spare held n 9 [c0] = some y0 := by simpa [cellsStr, cellsInt] using hg 0 _ rfl
    have g1 : DataW.trod enc Try.prog w 0 spare held n 3 [c1] = some y1 := by simpa [cellsStr, cellsInt] using hg 1 _ rfl
    have g2 : DataW.trod enc Try.prog w 0 spare held n 3 [c2] = some y2 := by simpa [cellsStr, cellsInt] using hg 2 _ rfl
    have g3 : DataW.trod enc Try.prog w 0 spare held n 3 [c3] = some y3 := by simpa [cellsStr, cellsInt] using hg 3 _ rfl
    obtain ⟨s, e0, _, hs⟩ := DataW.trod_string Try.underlying9 g0
    obtain ⟨a1, e1, _, _⟩ := DataW.trod_int Try.underlying3 g1
    obtain ⟨a2, e2, _, _⟩ := DataW.trod_int Try.underlying3 g2
    obtain ⟨a3, e3, _, _⟩ := DataW.trod_int Try.underlying3 g3
    simp only [List.cons.injEq, and_true] at e0 e1 e2 e3
    subst e0 e1 e2 e3
    exact ⟨⟨s, a1, a2, a3⟩, rfl⟩
theorem open_slots {fuel : Nat} {cs : List Value} {x : DataW H × List MemPlace} (h : DataW.trod enc Try.prog w 0 spare held fuel 22 cs = some x) :
    ∃ (a : Option Addr) (s : List Int) (c : Nat), cs = [.slice a s.length c] ∧ SlotsAt w a s ∧ s.length ≤ maxLen := by
  rcases open_slice Try.underlying22 h with ⟨rfl, _⟩ | ⟨a, len, cap, m, n, D, Pl, rfl, _, hl, hm, hmm, _, hi⟩
  · exact ⟨none, [], 0, rfl, fun k hk => by simp at hk, by simp⟩
  · have hlm : len ≤ m := by rw [hmm]; split <;> omega
    have each : ∀ i, i < len → ∃ f : Sl, ∀ j, j < 4 → w.cell? (a.add (i * 4 + j)) = f.vals[j]? := fun i hil => by
      obtain ⟨cs', h1, h2⟩ := hi i (by omega)
      rw [cellsSlot] at h1
      obtain ⟨f, rfl⟩ := open_slot h2
      obtain ⟨_, _, hc⟩ := World.cells?_some h1
      exact ⟨f, fun j hj => by rw [← hc j hj, Addr.add_add]⟩
    have hch : ∃ F : Nat → Sl, ∀ i, i < len → ∀ j, j < 4 → w.cell? (a.add (i * 4 + j)) = (F i).vals[j]? :=
      ⟨fun i => if hi : i < len then (each i hi).choose else sl0, fun i hi => by simp only [dif_pos hi]; exact (each i hi).choose_spec⟩
    obtain ⟨F, hF⟩ := hch
    refine ⟨some a, (List.range len).map (fun i => (F i).sz), cap, by simp, fun k hk => ?_, by simp; omega⟩
    simp at hk
    have h1 := hF k hk
    have g0 : w.cell? (a.add (0 * 4 + 0)) = some (.string (F 0).nm) := hF 0 (by omega) 0 (by decide)
    obtain ⟨b, off, spot⟩ := a
    have hspot : spot = none := World.cell?_spot g0
    subst hspot
    have e : ((List.range len).map (fun i => (F i).sz)).getD k 0 = (F k).sz := by simp [List.getD_eq_getElem?_getD, List.getElem?_range hk]
    rw [e]
    refine ⟨b, off, (F k).nm, (F k).al, (F k).ce, rfl, ?_, ?_, ?_, ?_⟩
    · have := h1 0 (by decide); rw [Addr.add_lit] at this; simpa [Sl.vals] using this
    · have := h1 1 (by decide); rw [Addr.add_lit, ← Nat.add_assoc] at this; simpa [Sl.vals] using this
    · have := h1 2 (by decide); rw [Addr.add_lit, ← Nat.add_assoc] at this; simpa [Sl.vals] using this
    · have := h1 3 (by decide); rw [Addr.add_lit, ← Nat.add_assoc] at this; simpa [Sl.vals] using this
theorem agg_of {l l' : List Value} (h : (Value.agg ⟨l⟩).cells.toList = l') : Value.agg ⟨l⟩ = Value.agg ⟨l'⟩ := by
  have : l = l' := h
  rw [this]
set_option maxRecDepth 100000 in
theorem open_seat {fuel : Nat} {cs : List Value} {x : DataW H × List MemPlace} (h : DataW.trod enc Try.prog w 0 spare held fuel 44 cs = some x) :
    ∃ y : Int × Int, cs = [.int .i64 y.1, .int .i64 y.2] := by
  obtain ⟨xs, n, _, _, hl, hlen, hg⟩ := DataW.trod_struct Try.underlying44 h
  rw [cellsSeat] at hl
  match cs, hl, xs, hlen with
  | [c0, c1], _, [y0, y1], _ =>
    have g0 : DataW.trod enc Try.prog w 0 spare held n 3 [c0] = some y0 := by simpa [cellsInt] using hg 0 _ rfl
    have g1 : DataW.trod enc Try.prog w 0 spare held n 3 [c1] = some y1 := by simpa [cellsInt] using hg 1 _ rfl
    obtain ⟨a0, e0, _, _⟩ := DataW.trod_int Try.underlying3 g0
    obtain ⟨a1, e1, _, _⟩ := DataW.trod_int Try.underlying3 g1
    simp only [List.cons.injEq, and_true] at e0 e1
    subst e0 e1
    exact ⟨(a0, a1), rfl⟩
theorem open_seats {fuel : Nat} {cs : List Value} {x : DataW H × List MemPlace} (h : DataW.trod enc Try.prog w 0 spare held fuel 26 cs = some x) :
    ∃ (a : Option Addr) (s : List (Int × Int)) (c : Nat), cs = [.slice a s.length c] ∧ SeatsAt w a s := by
  rcases open_slice Try.underlying26 h with ⟨rfl, _⟩ | ⟨a, len, cap, m, n, D, Pl, rfl, _, hl, hm, hmm, _, hi⟩
  · exact ⟨none, [], 0, rfl, fun k hk => by simp at hk⟩
  · have hlm : len ≤ m := by rw [hmm]; split <;> omega
    have each : ∀ i, i < len → ∃ f : Int × Int, w.cell? (a.add (i * 2 + 0)) = some (.int .i64 f.1) ∧ w.cell? (a.add (i * 2 + 1)) = some (.int .i64 f.2) := fun i hil => by
      obtain ⟨cs', h1, h2⟩ := hi i (by omega)
      rw [cellsSeat] at h1
      obtain ⟨f, rfl⟩ := open_seat h2
      obtain ⟨_, _, hc⟩ := World.cells?_some h1
      exact ⟨f, by have := hc 0 (by decide); rw [Addr.add_add] at this; exact this, by have := hc 1 (by decide); rw [Addr.add_add] at this; exact this⟩
    have hch : ∃ F : Nat → Int × Int, ∀ i, i < len → w.cell? (a.add (i * 2 + 0)) = some (.int .i64 (F i).1) ∧ w.cell? (a.add (i * 2 + 1)) = some (.int .i64 (F i).2) :=
      ⟨fun i => if hi : i < len then (each i hi).choose else (0, 0), fun i hi => by simp only [dif_pos hi]; exact (each i hi).choose_spec⟩
    obtain ⟨F, hF⟩ := hch
    refine ⟨some a, (List.range len).map F, cap, by simp, fun k hk => ?_⟩
    simp at hk
    obtain ⟨h1, h2⟩ := hF k hk
    obtain ⟨b, off, spot⟩ := a
    have hspot : spot = none := World.cell?_spot (hF 0 (by omega)).1
    subst hspot
    have e : ((List.range len).map F).getD k (0, 0) = F k := by simp [List.getD_eq_getElem?_getD, List.getElem?_range hk]
    rw [e]
    refine ⟨b, off, rfl, ?_, ?_⟩
    · rw [Addr.add_lit] at h1; simpa using h1
    · rw [Addr.add_lit, ← Nat.add_assoc] at h2; simpa using h2
theorem open_blocks {fuel : Nat} {cs : List Value} {x : DataW H × List MemPlace} (h : DataW.trod enc Try.prog w 0 spare held fuel 23 cs = some x) :
    ∃ (a : Option Addr) (n c : Nat), cs = [.slice a n c] := by
  rcases open_slice Try.underlying23 h with ⟨rfl, _⟩ | ⟨a, len, cap, m, n, D, Pl, rfl, _⟩
  · exact ⟨none, 0, 0, rfl⟩
  · exact ⟨some a, len, cap, rfl⟩
set_option maxRecDepth 100000 in
theorem open_proc {fuel : Nat} {cs : List Value} {x : DataW H × List MemPlace} (h : DataW.trod enc Try.prog w 0 spare held fuel 25 cs = some x) :
    ∃ (nm : ByteArray) (vd : Bool) (pr R : Int) (oa : Option Addr) (s : List Int) (oc : Nat) (qa : Option Addr) (qn qc : Nat), cs = [.string nm, .bool vd, .int .i64 pr, .int .i64 R, .slice oa s.length oc, .slice qa qn qc] ∧ SlotsAt w oa s := by
  obtain ⟨xs, n, _, _, hl, hlen, hg⟩ := DataW.trod_struct Try.underlying25 h
  have hcp := cellsProc
  simp only [Prod.mk.injEq] at hcp
  obtain ⟨hc1, hc2, hc3, hc4⟩ := hcp
  rw [hc1] at hl
  match cs, hl, xs, hlen with
  | [c0, c1, c2, c3, c4, c5], _, [y0, y1, y2, y3, y4, y5], _ =>
    have g0 : DataW.trod enc Try.prog w 0 spare held n 9 [c0] = some y0 := by simpa [cellsStr, cellsInt, hc2, hc3, hc4] using hg 0 _ rfl
    have g1 : DataW.trod enc Try.prog w 0 spare held n 4 [c1] = some y1 := by simpa [cellsStr, cellsInt, hc2, hc3, hc4] using hg 1 _ rfl
    have g2 : DataW.trod enc Try.prog w 0 spare held n 3 [c2] = some y2 := by simpa [cellsStr, cellsInt, hc2, hc3, hc4] using hg 2 _ rfl
    have g3 : DataW.trod enc Try.prog w 0 spare held n 3 [c3] = some y3 := by simpa [cellsStr, cellsInt, hc2, hc3, hc4] using hg 3 _ rfl
    have g4 : DataW.trod enc Try.prog w 0 spare held n 22 [c4] = some y4 := by simpa [cellsStr, cellsInt, hc2, hc3, hc4] using hg 4 _ rfl
    have g5 : DataW.trod enc Try.prog w 0 spare held n 23 [c5] = some y5 := by simpa [cellsStr, cellsInt, hc2, hc3, hc4] using hg 5 _ rfl
    obtain ⟨s, e0, _, hs⟩ := DataW.trod_string Try.underlying9 g0
    obtain ⟨b1, e1, _⟩ := DataW.trod_bool Try.underlying4 g1
    obtain ⟨a2, e2, _, _⟩ := DataW.trod_int Try.underlying3 g2
    obtain ⟨a3, e3, _, _⟩ := DataW.trod_int Try.underlying3 g3
    obtain ⟨oa, sl, oc, e4, hat, _⟩ := open_slots g4
    obtain ⟨qa, qn, qc, e5⟩ := open_blocks g5
    simp only [List.cons.injEq, and_true] at e0 e1 e2 e3 e4 e5
    subst e0 e1 e2 e3 e4 e5
    exact ⟨s, b1, a2, a3, oa, sl, oc, qa, qn, qc, rfl, hat⟩
end
end Go.Proofs.Ytbldglnfadnkeaa
