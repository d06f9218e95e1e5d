/-
  Tables of types (layer 8): a type stored over another; what a struct's giving leaves.
-/
import Derived.Test.YtlhkhgkgjdfcgaaQKindV
import Derived.Outline
namespace Go.Proofs.Ytlhkhgkgjdfcgaa
open Go.RowKit
set_option linter.unusedVariables false
set_option linter.unusedSimpArgs false
theorem own_set_in {w : World} {base e size n c g i : Nat} {xs : List Value} (h : w.ownsRow base e size (.slice (some ⟨g, 0, none⟩) n c) n xs) (hi : i < n * size) (x : Value) :
    (w.setCell ⟨g, i, none⟩ x).ownsRow base e size (.slice (some ⟨g, 0, none⟩) n c) n (xs.set i x) := by
  refine ⟨by rw [List.length_set]; exact h.1, ?_⟩
  rcases h.2 with ⟨e1, _⟩ | ⟨g', cap, cur, hv, hb, hg, h1, h2, h3, h4⟩
  · cases e1
  · injection hv with e1 e2 e3
    injection e1 with e1
    injection e1 with e1
    subst e1 e3
    refine .inr ⟨g, c, cur.setIfInBounds i x, rfl, hb, ?_, h1, h2, by simpa using h3, ?_⟩
    · have hlt : g < w.heap.size := (Array.getElem?_eq_some_iff.1 hg).1
      simp only [World.setCell, Array.getElem?_modify]
      simp [hg]
    · rw [Array.toList_setIfInBounds, List.take_set, h4]
def set7L (xs : List Value) (o : Nat) (x : Ent) : List Value :=
  ((((((xs.set o (.int .i64 x.kind)).set (o + 1) (.int .i64 x.elem)).set (o + 2) (.int .i64 x.len)).set (o + 3) (.string x.name)).set (o + 4) (.slice x.fa x.fn x.fc)).set (o + 5) (.int .i64 x.size)).set (o + 6) (.int .i64 x.align)
theorem set_app (l m : List Value) (n i : Nat) (x : Value) (h : l.length = n) : (l ++ m).set (n + i) x = l ++ m.set i x := by
  rw [List.set_append_right (h := by omega)]; congr 2; omega
theorem set7L_is (es : List Ent) : ∀ k, k < es.length → ∀ x, set7L (es.flatMap Ent.vals) (k * 7) x = (es.set k x).flatMap Ent.vals := by
  induction es with
  | nil => intro k hk; simp at hk
  | cons a t ih =>
    intro k hk x
    cases k with
    | zero => rfl
    | succ k =>
      simp only [List.flatMap_cons, List.set_cons_succ]
      rw [← ih k (by simpa using hk) x]
      unfold set7L
      have e : (k + 1) * 7 = 7 + k * 7 := by omega
      have hl : a.vals.length = 7 := rfl
      rw [e, set_app _ _ 7 _ _ hl, Nat.add_assoc 7, set_app _ _ 7 _ _ hl, Nat.add_assoc 7, set_app _ _ 7 _ _ hl, Nat.add_assoc 7, set_app _ _ 7 _ _ hl, Nat.add_assoc 7, set_app _ _ 7 _ _ hl, Nat.add_assoc 7, set_app _ _ 7 _ _ hl, Nat.add_assoc 7, set_app _ _ 7 _ _ hl]
/-- The world with a type stored over the k-th. -/
def putE (w : World) (g o : Nat) (x : Ent) : World :=
  ((((((w.setCell ⟨g, o, none⟩ (.int .i64 x.kind)).setCell ⟨g, o + 1, none⟩ (.int .i64 x.elem)).setCell ⟨g, o + 2, none⟩ (.int .i64 x.len)).setCell ⟨g, o + 3, none⟩ (.string x.name)).setCell ⟨g, o + 4, none⟩ (.slice x.fa x.fn x.fc)).setCell ⟨g, o + 5, none⟩ (.int .i64 x.size)).setCell ⟨g, o + 6, none⟩ (.int .i64 x.align)
theorem fr_setF {F : Nat → Prop} {w w4 : World} (h : Fr F w w4) {b : Nat} (hb : F b) (o : Nat) (v : Value) : Fr F w (w4.setCell ⟨b, o, none⟩ v) := h.trans (Fr.setCell w4 ⟨b, o, none⟩ v hb)
theorem putE_fr (w : World) (g o : Nat) (x : Ent) : Fr (fun k => k = g) w (putE w g o x) := by
  unfold putE
  have h0 : (fun k => k = g) g := rfl
  exact fr_setF (fr_setF (fr_setF (fr_setF (fr_setF (fr_setF (fr_setF (Fr.refl (fun k => k = g) w) h0 _ _) h0 _ _) h0 _ _) h0 _ _) h0 _ _) h0 _ _) h0 _ _
theorem TabAt.put {base : Nat} {w : World} {tb g c : Nat} {es : List Ent} (h : TabAt base w tb (.slice (some ⟨g, 0, none⟩) es.length c) es) (k : Nat) (hk : k < es.length) (x : Ent) :
    TabAt base (putE w g (k * 7) x) tb (.slice (some ⟨g, 0, none⟩) es.length c) (es.set k x) := by
  have hf := putE_fr w g (k * 7) x
  have hne : g ≠ tb := by have := h.ne; simp only [Value.ownBlock, ne_eq, Option.some.injEq] at this; exact this
  refine ⟨hf.cell h.cell (fun e => hne e.symm), (hf.frozen h.cell (fun e => hne e.symm)).trans h.free, ?_, by simpa using h.few, Nat.le_trans h.lt hf.size, h.ne⟩
  rw [List.length_set, ← set7L_is es k hk x]
  unfold putE set7L
  exact own_set_in (own_set_in (own_set_in (own_set_in (own_set_in (own_set_in (own_set_in h.own (by omega) _) (by omega) _) (by omega) _) (by omega) _) (by omega) _) (by omega) _) (by omega) _
/-- The error of a struct's giving, or 0. -/
def structX (es : List Ent) (nm : ByteArray) (fs : List Fld) : Int :=
  if ¬ findK es nm < es.length then 4 else if (es.getD (findK es nm) ent0).fn ≠ 0 then 4 else if chk es fs ≠ 0 then chk es fs else if 32768 < upI (layS es fs fs.length).1 (layS es fs fs.length).2.1 then 2 else 0
/-- The struct as it is stored. -/
def laidE (es : List Ent) (nm : ByteArray) (fs : List Fld) (g c : Nat) : Ent := ⟨5, 0, 0, nm, some ⟨g, 0, none⟩, fs.length, c, upI (layS es fs fs.length).1 (layS es fs fs.length).2.1, (layS es fs fs.length).2.1⟩
def StructP (base tb : Nat) (v : Value) (es : List Ent) (nm : ByteArray) (fs : List Fld) (w : World) (r : Ending) (w' : World) : Prop :=
  (structX es nm fs ≠ 0 ∧ r = .returned (.tuple #[.int .i64 0, .int .i64 (structX es nm fs)]) ∧ Fr (fun _ => False) w w') ∨
  (structX es nm fs = 0 ∧ r = .returned (.tuple #[.int .i64 (3 + (findK es nm : Int)), .int .i64 0]) ∧ ∃ g c, w.heap.size ≤ g ∧ g < w'.heap.size ∧ TabAt base w' tb v (es.set (findK es nm) (laidE es nm fs g c)) ∧ FldAt w' (some ⟨g, 0, none⟩) fs.length (layS es fs fs.length).2.2 ∧ Fr (fun k => v.ownBlock = some k) w w')
theorem FldAt.of_own {w : World} {base g n c : Nat} {fs : List Fld} (h : w.ownsRow base 53 3 (.slice (some ⟨g, 0, none⟩) n c) n (fs.flatMap Fld.vals)) (hn : n = fs.length) : FldAt w (some ⟨g, 0, none⟩) n fs := by
  refine ⟨hn, fun k hk => ⟨g, 0, rfl, fun j hj => ?_⟩⟩
  rw [Nat.zero_add, h.cellAt (k * 3 + j) (by have := fvals_len fs; omega)]
  exact fvals_get fs k hk j hj
end Go.Proofs.Ytlhkhgkgjdfcgaa
