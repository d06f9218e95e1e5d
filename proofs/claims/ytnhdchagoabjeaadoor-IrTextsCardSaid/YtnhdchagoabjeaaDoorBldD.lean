/-
  A procedure's lines (layer 13).
-/
import Derived.Test.YtnhdchagoabjeaaDoorBldC
namespace Go.Proofs.YtnhdchagoabjeaaDoor
open Go.RowKit
set_option linter.unusedVariables false
set_option linter.unusedSimpArgs false
/-- An instruction, plainly. -/
structure Inn where
  x0 : Int
  x1 : Int
  x2 : Int
  x3 : Int
  x4 : Int
  x5 : Int
  x6 : Int
  x7 : Int
  u : Int
  args : List Int
  lg : Bool
def Inn.l8 (i : Inn) : List Int := [i.x0, i.x1, i.x2, i.x3, i.x4, i.x5, i.x6, i.x7]
/-- A block, plainly. -/
structure Bk where
  ins : List Inn
  en : Int
  a : Int
  t : Int
  el : Int
def inn0 : Inn := ⟨0, 0, 0, 0, 0, 0, 0, 0, 0, [], false⟩
def bk0 : Bk := ⟨[], 0, 0, 0, 0⟩
structure Inn.ok (i : Inn) : Prop where
  r : ∀ x ∈ i.l8, InR x
  ra : ∀ x ∈ i.args, InR x
  n : i.args.length ≤ 1000
  u0 : 0 ≤ i.u
  u1 : i.u ≤ 4294967295
structure Bk.ok (b : Bk) : Prop where
  i : ∀ x ∈ b.ins, x.ok
  n : b.ins.length ≤ 1000
  r : ∀ x ∈ [b.en, b.a, b.t, b.el], InR x
/-- An instruction's eleven cells. -/
def InsAt (w : World) (g o : Nat) (i : Inn) : Prop :=
  w.cell? ⟨g, o, none⟩ = some (.int .i64 i.x0) ∧ w.cell? ⟨g, o + 1, none⟩ = some (.int .i64 i.x1) ∧ w.cell? ⟨g, o + 2, none⟩ = some (.int .i64 i.x2) ∧ w.cell? ⟨g, o + 3, none⟩ = some (.int .i64 i.x3) ∧ w.cell? ⟨g, o + 4, none⟩ = some (.int .i64 i.x4) ∧ w.cell? ⟨g, o + 5, none⟩ = some (.int .i64 i.x5) ∧ w.cell? ⟨g, o + 6, none⟩ = some (.int .i64 i.x6) ∧ w.cell? ⟨g, o + 7, none⟩ = some (.int .i64 i.x7) ∧ w.cell? ⟨g, o + 8, none⟩ = some (.int .u32 i.u) ∧ (∃ a c, w.cell? ⟨g, o + 9, none⟩ = some (.slice a i.args.length c) ∧ IntsAt w a i.args) ∧ w.cell? ⟨g, o + 10, none⟩ = some (.bool i.lg)
theorem InsAt.fr {w w' : World} {g o : Nat} {i : Inn} (h : InsAt w g o i) (hf : Fr (fun _ => False) w w') : InsAt w' g o i := by
  obtain ⟨k0, k1, k2, k3, k4, k5, k6, k7, k8, ⟨a, c, k9, ka⟩, k10⟩ := h
  exact ⟨hf.cell k0 id, hf.cell k1 id, hf.cell k2 id, hf.cell k3 id, hf.cell k4 id, hf.cell k5 id, hf.cell k6 id, hf.cell k7 id, hf.cell k8 id, ⟨a, c, hf.cell k9 id, ka.fr hf⟩, hf.cell k10 id⟩
/-- Instructions behind a slice's head. -/
def InsL (w : World) (a : Option Addr) (l : List Inn) : Prop := ∀ k, k < l.length → ∃ g o, a = some ⟨g, o, none⟩ ∧ InsAt w g (o + k * 11) (l.getD k inn0)
theorem InsL.fr {w w' : World} {a : Option Addr} {l : List Inn} (h : InsL w a l) (hf : Fr (fun _ => False) w w') : InsL w' a l := fun k hk => by
  obtain ⟨g, o, e, c⟩ := h k hk
  exact ⟨g, o, e, c.fr hf⟩
/-- A block's five cells. -/
def BkAt (w : World) (g o : Nat) (b : Bk) : Prop :=
  (∃ a c, w.cell? ⟨g, o, none⟩ = some (.slice a b.ins.length c) ∧ InsL w a b.ins) ∧ w.cell? ⟨g, o + 1, none⟩ = some (.int .i64 b.en) ∧ w.cell? ⟨g, o + 2, none⟩ = some (.int .i64 b.a) ∧ w.cell? ⟨g, o + 3, none⟩ = some (.int .i64 b.t) ∧ w.cell? ⟨g, o + 4, none⟩ = some (.int .i64 b.el)
theorem BkAt.fr {w w' : World} {g o : Nat} {b : Bk} (h : BkAt w g o b) (hf : Fr (fun _ => False) w w') : BkAt w' g o b := by
  obtain ⟨⟨a, c, k0, ka⟩, k1, k2, k3, k4⟩ := h
  exact ⟨⟨a, c, hf.cell k0 id, ka.fr hf⟩, hf.cell k1 id, hf.cell k2 id, hf.cell k3 id, hf.cell k4 id⟩
def BkL (w : World) (a : Option Addr) (l : List Bk) : Prop := ∀ k, k < l.length → ∃ g o, a = some ⟨g, o, none⟩ ∧ BkAt w g (o + k * 5) (l.getD k bk0)
theorem BkL.fr {w w' : World} {a : Option Addr} {l : List Bk} (h : BkL w a l) (hf : Fr (fun _ => False) w w') : BkL w' a l := fun k hk => by
  obtain ⟨g, o, e, c⟩ := h k hk
  exact ⟨g, o, e, c.fr hf⟩
/-- The lines. -/
def innL (i : Inn) : List UInt8 := lineL (numsL i.l8) (Lib.decDigits i.u.toNat) (numsL i.args) i.lg
def inssL (l : List Inn) : List UInt8 := l.flatMap innL
def headL (k : Nat) : List UInt8 := ([98] ++ Lib.itoa (k : Int)) ++ [58, 10]
def tailL (b : Bk) : List UInt8 := ([32, 101, 110, 100] ++ numsL [b.en, b.a, b.t, b.el]) ++ [10]
def textL : List Bk → Nat → List UInt8
  | _, 0 => []
  | l, k + 1 => textL l k ++ headL k ++ inssL (l.getD k bk0).ins ++ tailL (l.getD k bk0)
theorem inssL_snoc (l : List Inn) (i : Inn) : inssL (l ++ [i]) = inssL l ++ innL i := by simp [inssL]
theorem decDigits_len (u : Nat) (h : u ≤ 4294967295) : (Lib.decDigits u).length ≤ 21 := by
  have := Lib.itoa_length_le (u : Int) (by omega) (by omega)
  unfold Lib.itoa at this
  rw [if_neg (by omega)] at this
  simpa using this
theorem innL_len (i : Inn) (h : i.ok) : (innL i).length ≤ 22300 := by
  have h1 := numsL_len i.l8 h.r
  have h2 := numsL_len i.args h.ra
  have h3 := decDigits_len i.u.toNat (by have := h.u1; omega)
  have h4 := h.n
  have e : i.l8.length = 8 := rfl
  unfold innL lineL
  cases i.lg <;> simp only [List.length_append, List.length_cons, List.length_nil] <;> simp <;> omega
theorem inssL_len (l : List Inn) (h : ∀ x ∈ l, x.ok) : (inssL l).length ≤ 22300 * l.length := by
  induction l with
  | nil => simp [inssL]
  | cons x l ih =>
    have h1 := innL_len x (h x (by simp))
    have h2 := ih (fun y hy => h y (by simp [hy]))
    have e : inssL (x :: l) = innL x ++ inssL l := by simp [inssL]
    rw [e]; simp only [List.length_append, List.length_cons]; omega
theorem headL_len (k : Nat) (h : k ≤ 1000) : (headL k).length ≤ 24 := by
  have := Lib.itoa_length_le (k : Int) (by omega) (by omega)
  simp [headL]; omega
theorem tailL_len (b : Bk) (h : b.ok) : (tailL b).length ≤ 93 := by
  have := numsL_len _ h.r
  simp [tailL] at *; omega
theorem getD_mem {l : List Bk} {k : Nat} (h : k < l.length) : l.getD k bk0 ∈ l := by
  rw [List.getD_eq_getElem?_getD, List.getElem?_eq_getElem h]; exact List.getElem_mem _
theorem getD_memI {l : List Inn} {k : Nat} (h : k < l.length) : l.getD k inn0 ∈ l := by
  rw [List.getD_eq_getElem?_getD, List.getElem?_eq_getElem h]; exact List.getElem_mem _
theorem textL_len (l : List Bk) (h : ∀ x ∈ l, x.ok) (k : Nat) (hk : k ≤ l.length) (hn : l.length ≤ 1000) : (textL l k).length ≤ 22301000 * k := by
  induction k with
  | zero => simp [textL]
  | succ k ih =>
    have h1 := ih (by omega)
    have hb := h _ (getD_mem (l := l) (k := k) (by omega))
    have h2 := inssL_len _ hb.i
    have h3 := hb.n
    have h4 := headL_len k (by omega)
    have h5 := tailL_len _ hb
    simp only [textL, List.length_append]; omega
theorem inn_take {l : List Inn} {k : Nat} (h : k < l.length) : l.take (k + 1) = l.take k ++ [l.getD k inn0] := by
  rw [List.take_add_one, List.getElem?_eq_getElem h, List.getD_eq_getElem?_getD, List.getElem?_eq_getElem h]; rfl
end Go.Proofs.YtnhdchagoabjeaaDoor
