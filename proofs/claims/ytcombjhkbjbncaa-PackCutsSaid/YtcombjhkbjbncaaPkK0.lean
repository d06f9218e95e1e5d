/-
  Pack (layer 32): bytes as strings.
-/
import Derived.Test.YtcombjhkbjbncaaPkJ
import Derived.Laws.BytesString
namespace Go.Proofs.Ytcombjhkbjbncaa
open Go.RowKit
set_option linter.unusedVariables false
set_option linter.unusedSimpArgs false
set_option linter.unnecessarySimpa false
/-- Bytes as a string's. -/
def u8s (l : List Int) : List UInt8 := l.map fun x => UInt8.ofNat x.toNat
abbrev bts (s : List UInt8) : Value := .string ⟨s.toArray⟩
theorem fold_u8s (l : List Int) : l.foldl (fun r n => r.push (UInt8.ofNat n.toNat)) ByteArray.empty = ⟨(u8s l).toArray⟩ := by
  have key : ∀ (l : List Int) (s : List UInt8), l.foldl (fun r n => r.push (UInt8.ofNat n.toNat)) (⟨s.toArray⟩ : ByteArray) = ⟨(s ++ u8s l).toArray⟩ := fun l => by
    induction l with
    | nil => intro s; simp [u8s]
    | cons x l ih =>
      intro s
      rw [List.foldl_cons, show (⟨s.toArray⟩ : ByteArray).push (UInt8.ofNat x.toNat) = ⟨(s ++ [UInt8.ofNat x.toNat]).toArray⟩ by simp [ByteArray.push], ih]
      simp [u8s]
  exact key l []
theorem u8s_inj {l l' : List Int} (h : Byt l) (h' : Byt l') : u8s l = u8s l' ↔ l = l' := by
  constructor
  · intro e
    have hl : l.length = l'.length := by have := congrArg List.length e; simpa [u8s] using this
    refine list_ext_getD hl fun i hi => ?_
    have h1 := h.get i
    have h2 := h'.get i
    have q : (u8s l)[i]? = (u8s l')[i]? := by rw [e]
    unfold u8s at q
    rw [List.getElem?_map, List.getElem?_map, List.getElem?_eq_getElem hi, List.getElem?_eq_getElem (by omega)] at q
    simp only [Option.map_some, Option.some.injEq] at q
    rw [List.getD_eq_getElem?_getD, List.getElem?_eq_getElem hi] at h1 ⊢
    rw [List.getD_eq_getElem?_getD, List.getElem?_eq_getElem (show i < l'.length by omega)] at h2 ⊢
    simp only [Option.getD_some] at h1 h2 ⊢
    have := congrArg UInt8.toNat q
    simp only [UInt8.toNat_ofNat'] at this
    omega
  · intro e; rw [e]
theorem str_of {Z : Nat} {w : World} {a : Option Addr} {l : List Int} {c : Nat} (h : NumAt .u8 Z w a l) : (convert 23 9 (.slice a l.length c)).run Try.prog w = .ok (bts (u8s l)) w := by
  rw [run_convert_bytes_string w 23 9 5 a l.length c Try.underlying23 Try.underlying5 Try.underlying9]
  cases a with
  | none =>
    have : l = [] := List.eq_nil_of_length_eq_zero (Nat.le_zero.1 (Nat.not_lt.1 fun q => by obtain ⟨g, o, e, _⟩ := h.form q; cases e))
    subst this
    rfl
  | some a =>
    have hc : ∀ j v, (l.map (Value.int .u8))[j]? = some v → w.cell? (a.add j) = some v := fun j v hv => by
      rw [List.getElem?_map] at hv
      obtain ⟨x, hx, rfl⟩ := Option.map_eq_some_iff.1 hv
      obtain ⟨hj, _⟩ := List.getElem?_eq_some_iff.1 hx
      obtain ⟨g, o, e, _, hcell⟩ := h j hj
      cases e
      rw [Addr.add_lit, hcell, List.getD_eq_getElem?_getD, hx]
      rfl
    have hl := run_loadCells_list (P := Try.prog) (w := w) a (l.map (Value.int .u8)) hc
    rw [List.length_map] at hl
    rw [run_bytesToString w a l.length c l hl, fold_u8s]
theorem bn_eqs (w : World) (x y : Operand) (a b : List UInt8) : (do eqGuard .eql 9 x y (bts a) (bts b); binOp .eql 9 (bts a) (bts b) : Sem Value).run Try.prog w = .ok (.bool (decide (a = b))) w := by
  by_cases h : a = b
  · subst h; simp [go_sem]
  · simp [go_sem, h]
theorem bn_nes (w : World) (x y : Operand) (a b : List UInt8) : (do eqGuard .neq 9 x y (bts a) (bts b); binOp .neq 9 (bts a) (bts b) : Sem Value).run Try.prog w = .ok (.bool (!decide (a = b))) w := by
  have h : ((⟨a.toArray⟩ : ByteArray) = ⟨b.toArray⟩) ↔ a = b := ⟨fun h => by simpa using h, fun h => by rw [h]⟩
  by_cases e : a = b
  · subst e; simp [go_sem, bts]
  · have e2 : ¬ ((⟨a.toArray⟩ : ByteArray) = ⟨b.toArray⟩) := fun z => e (h.1 z)
    simp [go_sem, bts, e, e2]
end Go.Proofs.Ytcombjhkbjbncaa
