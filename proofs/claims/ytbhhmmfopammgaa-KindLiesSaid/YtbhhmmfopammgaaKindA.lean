/-
  Tables of types (layer 8): what lies in memory; Count and entry.
-/
import Derived.Test.YtbhhmmfopammgaaFr
import Derived.Test.YtbhhmmfopammgaaChecked
import Derived.Outline
import Derived.ProofKit
namespace Go.Proofs.Ytbhhmmfopammgaa
open Go.RowKit
set_option linter.unusedVariables false
set_option linter.unusedSimpArgs false
/-- A type with its layout, as a row holds it. -/
structure Ent where
  kind : Int
  elem : Int
  len : Int
  name : ByteArray
  fa : Option Addr
  fn : Nat
  fc : Nat
  size : Int
  align : Int
def Ent.vals (e : Ent) : List Value := [.int .i64 e.kind, .int .i64 e.elem, .int .i64 e.len, .string e.name, .slice e.fa e.fn e.fc, .int .i64 e.size, .int .i64 e.align]
def ent0 : Ent := ⟨0, 0, 0, ⟨#[]⟩, none, 0, 0, 0, 0⟩
def ent1 : Ent := ⟨1, 0, 0, ⟨#[]⟩, none, 0, 0, 4, 4⟩
def ent2 : Ent := ⟨2, 0, 0, ⟨#[]⟩, none, 0, 0, 1, 1⟩
/-- The table in block tb holds these derived types. -/
structure TabAt (base : Nat) (w : World) (tb : Nat) (v : Value) (es : List Ent) : Prop where
  cell : w.cell? ⟨tb, 0, none⟩ = some v
  free : w.frozen? ⟨tb, 0, none⟩ = false
  own : w.ownsRow base 72 7 v es.length (es.flatMap Ent.vals)
  few : es.length ≤ 397
  lt : base ≤ w.heap.size
  ne : v.ownBlock ≠ some tb
theorem vals_len (es : List Ent) : (es.flatMap Ent.vals).length = es.length * 7 := by
  induction es with
  | nil => rfl
  | cons a t ih => simp [ih, Ent.vals]; omega
theorem vals_get (es : List Ent) : ∀ k, k < es.length → ∀ j, j < 7 → (es.flatMap Ent.vals)[k * 7 + j]? = (es.getD k ent0).vals[j]? := by
  induction es with
  | nil => intro k hk; simp at hk
  | cons a t ih =>
    intro k hk j hj
    cases k with
    | zero =>
      simp only [List.flatMap_cons, Nat.zero_mul, Nat.zero_add, List.getD_cons_zero]
      rw [List.getElem?_append_left (by simpa [Ent.vals] using hj)]
    | succ k =>
      simp only [List.flatMap_cons, List.getD_cons_succ]
      rw [List.getElem?_append_right (by simp [Ent.vals]; omega)]
      have e : (k + 1) * 7 + j - a.vals.length = k * 7 + j := by simp [Ent.vals]; omega
      rw [e]
      exact ih k (by simpa using hk) j hj
theorem TabAt.form {base : Nat} {w : World} {tb : Nat} {v : Value} {es : List Ent} (h : TabAt base w tb v es) : ∃ a c, v = .slice a es.length c ∧ ∀ k, k < es.length → ∃ g, a = some ⟨g, 0, none⟩ ∧ g < w.heap.size ∧ ∀ j, j < 7 → w.cell? ⟨g, k * 7 + j, none⟩ = (es.getD k ent0).vals[j]? := by
  by_cases hv : v = .slice none 0 0
  · have h0 : es.length = 0 := by
      rcases h.own.2 with ⟨_, e⟩ | ⟨g, c, cur, e, _⟩
      · exact e
      · rw [hv] at e; cases e
    exact ⟨none, 0, by rw [h0]; exact hv, fun k hk => by omega⟩
  · obtain ⟨g, c, e, _, hg⟩ := own_form h.own hv
    refine ⟨some ⟨g, 0, none⟩, c, e, fun k hk => ⟨g, rfl, hg, fun j hj => ?_⟩⟩
    have ho := h.own
    rw [e] at ho
    rw [ho.cellAt (k * 7 + j) (by have := vals_len es; omega)]
    exact vals_get es k hk j hj
theorem count_nil (w : World) : Calls Try.prog 20 #[.pointer none] w fun e w' => e = .returned (.int .i64 0) ∧ w = w' := by
  go_enter Try.func20, Try.ntmps20
  go_wp2
  go_ret
  exact ⟨rfl, rfl⟩
theorem count_at (tb n c : Nat) (a : Option Addr) (hn : n ≤ 1000) (w : World) (hx : w.cell? ⟨tb, 0, none⟩ = some (.slice a n c)) :
    Calls Try.prog 20 #[.pointer (some ⟨tb, 0, none⟩)] w fun e w' => e = .returned (.int .i64 (3 + n)) ∧ w = w' := by
  go_enter Try.func20, Try.ntmps20
  go_wp2
  go_ret
  exact ⟨rfl, rfl⟩
def zeros7 : Array Value := #[.int .i64 0, .int .i64 0, .int .i64 0, .string ⟨#[]⟩, .slice none 0 0, .int .i64 0, .int .i64 0]
theorem entry_nil (n : Int) (w : World) : Calls Try.prog 33 #[.pointer none, .int .i64 n] w fun e w' => e = .returned (.tuple #[.agg zeros7, .int .i64 1]) ∧ Fr (fun _ => False) w w' := by
  go_enter Try.func33, Try.ntmps33
  go_wp2
  exact bodyPost_ret (v := .tuple #[.agg zeros7, .int .i64 1]) (by simp [results, Try.results33, go_sem, zeros7]) rfl ⟨rfl, fr_al (Fr.refl _ _) _⟩
def types21 : Array Value := #[.int .i64 0, .int .i64 0, .int .i64 0, .string ⟨#[]⟩, .slice none 0 0, .int .i64 0, .int .i64 0, .int .i64 1, .int .i64 0, .int .i64 0, .string ⟨#[]⟩, .slice none 0 0, .int .i64 4, .int .i64 4, .int .i64 2, .int .i64 0, .int .i64 0, .string ⟨#[]⟩, .slice none 0 0, .int .i64 1, .int .i64 1]
theorem cells3 : (Try.prog.info? 84).map (·.size) = some types21.size := by kernel_rfl
set_option maxHeartbeats 1000000 in
theorem entry_out (tb m c : Nat) (a : Option Addr) (n : Int) (hm : m ≤ 1000) (hn : n < 0 ∨ 3 + (m : Int) ≤ n) (w : World) (hx : w.cell? ⟨tb, 0, none⟩ = some (.slice a m c)) :
    Calls Try.prog 33 #[.pointer (some ⟨tb, 0, none⟩), .int .i64 n] w fun e w' => e = .returned (.tuple #[.agg zeros7, .int .i64 4]) ∧ Fr (fun _ => False) w w' := by
  have HC := Lib.hid (fun W (hW : W.cell? ⟨tb, 0, none⟩ = some (.slice a m c)) => count_at tb m c a hm W hW)
  have hA : ∀ o : Obj, (w.alloc o).cell? ⟨tb, 0, none⟩ = some (.slice a m c) := fun o => (World.grownBy_alloc w o none).cell hx (by simp)
  by_cases h0 : n < 0
  · clear hn
    go_enter Try.func33, Try.ntmps33
    go_wp2_with (go_at_call 20; (with_reducible refine (HC.out _ (hA _)).mono ?_); rintro e w' ⟨rfl, rfl⟩)
    exact bodyPost_ret (v := .tuple #[.agg zeros7, .int .i64 4]) (by simp [results, Try.results33, go_sem, zeros7]) rfl ⟨rfl, fr_al (Fr.refl _ _) _⟩
  · have h1 : 3 + (m : Int) ≤ n := by omega
    have d1 : decide (n < 0) = false := decide_eq_false h0
    clear hn h0
    go_enter Try.func33, Try.ntmps33
    go_wp2_with (go_at_call 20; (with_reducible refine (HC.out _ (hA _)).mono ?_); rintro e w' ⟨rfl, rfl⟩)
    exact bodyPost_ret (v := .tuple #[.agg zeros7, .int .i64 4]) (by simp [results, Try.results33, go_sem, zeros7]) rfl ⟨rfl, fr_al (Fr.refl _ _) _⟩
def firstEnt (n : Int) : Ent := if n = 0 then ent0 else if n = 1 then ent1 else ent2
theorem index3 : ∀ w : World, (Instr.index 84 (.agg types21) (.int .i64 0)).run Try.prog w = .ok (.agg ent0.vals.toArray) w ∧ (Instr.index 84 (.agg types21) (.int .i64 1)).run Try.prog w = .ok (.agg ent1.vals.toArray) w ∧ (Instr.index 84 (.agg types21) (.int .i64 2)).run Try.prog w = .ok (.agg ent2.vals.toArray) w := fun _ => ⟨by kernel_rfl, by kernel_rfl, by kernel_rfl⟩
end Go.Proofs.Ytbhhmmfopammgaa
