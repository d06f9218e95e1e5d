/-
  Tables of types (layer 8): the fields of a struct, and Field at a table.
-/
import Derived.Test.YtlhkhgkgjdfcgaaQKindL
import Derived.LoopTactic
import Derived.Outline
namespace Go.Proofs.Ytlhkhgkgjdfcgaa
open Go.RowKit
set_option linter.unusedVariables false
set_option linter.unusedSimpArgs false
structure Fld where
  name : ByteArray
  type : Int
  off : Int
def Fld.vals (f : Fld) : List Value := [.string f.name, .int .i64 f.type, .int .i64 f.off]
def fld0 : Fld := ⟨⟨#[]⟩, 0, 0⟩
theorem fvals_len (fs : List Fld) : (fs.flatMap Fld.vals).length = fs.length * 3 := by
  induction fs with
  | nil => rfl
  | cons a t ih => simp [ih, Fld.vals]; omega
theorem fvals_get (es : List Fld) : ∀ k, k < es.length → ∀ j, j < 3 → (es.flatMap Fld.vals)[k * 3 + j]? = (es.getD k fld0).vals[j]? := by
  induction es with
  | nil => intro k hk; simp at hk
  | cons a t ih =>
    intro k hk j hj
    cases k with
    | zero =>
      simp only [List.flatMap_cons, Nat.zero_mul, Nat.zero_add, List.getD_cons_zero]
      rw [List.getElem?_append_left (by simpa [Fld.vals] using hj)]
    | succ k =>
      simp only [List.flatMap_cons, List.getD_cons_succ]
      rw [List.getElem?_append_right (by simp [Fld.vals]; omega)]
      have e : (k + 1) * 3 + j - a.vals.length = k * 3 + j := by simp [Fld.vals]; omega
      rw [e]
      exact ih k (by simpa using hk) j hj
/-- A slice of fields as it lies in memory: these. -/
def FldAt (w : World) (a : Option Addr) (n : Nat) (fs : List Fld) : Prop :=
  n = fs.length ∧ ∀ k, k < fs.length → ∃ g o, a = some ⟨g, o, none⟩ ∧ ∀ j, j < 3 → w.cell? ⟨g, o + (k * 3 + j), none⟩ = (fs.getD k fld0).vals[j]?
theorem FldAt.kept {F : Nat → Prop} {w w' : World} {a : Option Addr} {n : Nat} {fs : List Fld} (h : FldAt w a n fs) (hf : Fr F w w') (hn : ∀ g o, a = some ⟨g, o, none⟩ → fs.length ≠ 0 → ¬ F g) : FldAt w' a n fs := by
  refine ⟨h.1, fun k hk => ?_⟩
  obtain ⟨g, o, ha, hc⟩ := h.2 k hk
  refine ⟨g, o, ha, fun j hj => ?_⟩
  have h1 : ∃ x, (fs.getD k fld0).vals[j]? = some x := ⟨_, List.getElem?_eq_getElem (by simpa [Fld.vals] using hj)⟩
  obtain ⟨x, h1⟩ := h1
  rw [h1]
  exact hf.cell ((hc j hj).trans h1) (hn g o ha (by omega))
theorem FldAt.form {w : World} {a : Option Addr} {n : Nat} {fs : List Fld} (h : FldAt w a n fs) : fs = [] ∨ ∃ g o, a = some ⟨g, o, none⟩ ∧ ∀ k, k < fs.length → ∀ j, j < 3 → w.cell? ⟨g, o + (k * 3 + j), none⟩ = (fs.getD k fld0).vals[j]? := by
  cases fs with
  | nil => exact .inl rfl
  | cons f t =>
    obtain ⟨g, o, ha, _⟩ := h.2 0 (by simp)
    refine .inr ⟨g, o, ha, fun k hk j hj => ?_⟩
    obtain ⟨g', o', ha', hc⟩ := h.2 k hk
    rw [ha] at ha'
    injection ha' with ha'
    injection ha' with e1 e2
    subst e1 e2
    exact hc j hj
def isFld (nm : ByteArray) (f : Fld) : Bool := f.name.toList == nm.toList
def fldK (fs : List Fld) (nm : ByteArray) : Nat := fs.findIdx (isFld nm)
theorem fld_at {fs : List Fld} {nm : ByteArray} {k : Nat} (hk : k < fs.length) (h : isFld nm (fs.getD k fld0) = true) (hn : ∀ j, j < k → isFld nm (fs.getD j fld0) = false) : fldK fs nm = k := by
  have e : ∀ j (hj : j < fs.length), fs.getD j fld0 = fs[j] := fun j hj => by rw [List.getD_eq_getElem?_getD, List.getElem?_eq_getElem hj]; rfl
  exact (List.findIdx_eq hk).2 ⟨by rw [← e k hk]; exact h, fun j hj => by rw [← e j (by omega)]; exact hn j hj⟩
theorem fld_no {fs : List Fld} {nm : ByteArray} (hn : ∀ j, j < fs.length → isFld nm (fs.getD j fld0) = false) : fldK fs nm = fs.length := by
  refine List.findIdx_eq_length.2 fun x hx => ?_
  obtain ⟨j, hj, rfl⟩ := List.mem_iff_getElem.1 hx
  have := hn j hj
  rw [List.getD_eq_getElem?_getD, List.getElem?_eq_getElem hj] at this
  exact this
/-- What Field finds among fields. -/
def fldV (fs : List Fld) (nm : ByteArray) : Fld := if fldK fs nm < fs.length then fs.getD (fldK fs nm) fld0 else fld0
def fldE (fs : List Fld) (nm : ByteArray) : Int := if fldK fs nm < fs.length then 0 else 4
def FieldP (fs : List Fld) (nm : ByteArray) (w : World) (r : Ending) (w' : World) : Prop :=
  r = .returned (.tuple #[.agg #[.string (fldV fs nm).name, .int .i64 (fldV fs nm).type, .int .i64 (fldV fs nm).off], .int .i64 (fldE fs nm)]) ∧ Fr (fun _ => False) w w'
theorem fieldP_yes {fs : List Fld} {nm : ByteArray} {w w' : World} {k : Nat} {f : Fld} (hk : k < fs.length) (hf' : fs.getD k fld0 = f) (h : isFld nm f = true) (hn : ∀ j, j < k → isFld nm (fs.getD j fld0) = false) (hf : Fr (fun _ => False) w w') :
    FieldP fs nm w (.returned (.tuple #[.agg #[.string f.name, .int .i64 f.type, .int .i64 f.off], .int .i64 0])) w' := by
  unfold FieldP fldV fldE; rw [fld_at hk (by rw [hf']; exact h) hn, if_pos hk, if_pos hk, hf']; exact ⟨rfl, hf⟩
theorem fieldP_no {fs : List Fld} {nm : ByteArray} {w w' : World} (hn : ∀ j, j < fs.length → isFld nm (fs.getD j fld0) = false) (hf : Fr (fun _ => False) w w') :
    FieldP fs nm w (.returned (.tuple #[.agg #[.string ⟨#[]⟩, .int .i64 0, .int .i64 0], .int .i64 4])) w' := by
  unfold FieldP fldV fldE; rw [fld_no hn, if_neg (by omega), if_neg (by omega)]; exact ⟨rfl, hf⟩
end Go.Proofs.Ytlhkhgkgjdfcgaa
