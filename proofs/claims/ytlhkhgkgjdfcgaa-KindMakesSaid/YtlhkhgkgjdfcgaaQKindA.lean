/-
  Tables of types (layer 8): what lies in memory; Count and entry. Tables of types (layer 8): the first types. Tables of types (layer 8): the contract of entry. Tables of types (layer 8): the contract of entry, whole.
-/
import Derived.Test.YtlhkhgkgjdfcgaaQFr
import Derived.Test.YtlhkhgkgjdfcgaaChecked
import Derived.Outline
import Derived.ProofKit
import Derived.Laws.Rows
import Derived.Great.BuildSlice
import Derived.Laws.Tables
import Derived.Great.ByCallsLater
import Derived.Great.Frames
import Derived.Deep.WholeRow
namespace Go.Proofs.Ytlhkhgkgjdfcgaa
open Go.RowKit
set_option linter.unusedVariables false
set_option linter.unusedSimpArgs false
/-- A type with its layout, as a row holds it. -/
structure Ent where
  kind : Int
  elem : Int
  len : Int
  name : ByteArray
  fa : Option Addr
  fn : Nat
  fc : Nat
  size : Int
  align : Int
def Ent.vals (e : Ent) : List Value := [.int .i64 e.kind, .int .i64 e.elem, .int .i64 e.len, .string e.name, .slice e.fa e.fn e.fc, .int .i64 e.size, .int .i64 e.align]
def ent0 : Ent := ⟨0, 0, 0, ⟨#[]⟩, none, 0, 0, 0, 0⟩
def ent1 : Ent := ⟨1, 0, 0, ⟨#[]⟩, none, 0, 0, 4, 4⟩
def ent2 : Ent := ⟨2, 0, 0, ⟨#[]⟩, none, 0, 0, 1, 1⟩
/-- The table in block tb holds these derived types. -/
structure TabAt (base : Nat) (w : World) (tb : Nat) (v : Value) (es : List Ent) : Prop where
  cell : w.cell? ⟨tb, 0, none⟩ = some v
  free : w.frozen? ⟨tb, 0, none⟩ = false
  own : w.ownsRow base 72 7 v es.length (es.flatMap Ent.vals)
  few : es.length ≤ 397
  lt : base ≤ w.heap.size
  ne : v.ownBlock ≠ some tb
theorem vals_len (es : List Ent) : (es.flatMap Ent.vals).length = es.length * 7 := by
  induction es with
  | nil => rfl
  | cons a t ih => simp [ih, Ent.vals]; omega
theorem vals_get (es : List Ent) : ∀ k, k < es.length → ∀ j, j < 7 → (es.flatMap Ent.vals)[k * 7 + j]? = (es.getD k ent0).vals[j]? := by
  induction es with
  | nil => intro k hk; simp at hk
  | cons a t ih =>
    intro k hk j hj
    cases k with
    | zero =>
      simp only [List.flatMap_cons, Nat.zero_mul, Nat.zero_add, List.getD_cons_zero]
      rw [List.getElem?_append_left (by simpa [Ent.vals] using hj)]
    | succ k =>
      simp only [List.flatMap_cons, List.getD_cons_succ]
      rw [List.getElem?_append_right (by simp [Ent.vals]; omega)]
      have e : (k + 1) * 7 + j - a.vals.length = k * 7 + j := by simp [Ent.vals]; omega
      rw [e]
      exact ih k (by simpa using hk) j hj
theorem TabAt.form {base : Nat} {w : World} {tb : Nat} {v : Value} {es : List Ent} (h : TabAt base w tb v es) : ∃ a c, v = .slice a es.length c ∧ ∀ k, k < es.length → ∃ g, a = some ⟨g, 0, none⟩ ∧ g < w.heap.size ∧ ∀ j, j < 7 → w.cell? ⟨g, k * 7 + j, none⟩ = (es.getD k ent0).vals[j]? := by
  by_cases hv : v = .slice none 0 0
  · have h0 : es.length = 0 := by
      rcases h.own.2 with ⟨_, e⟩ | ⟨g, c, cur, e, _⟩
      · exact e
      · rw [hv] at e; cases e
    exact ⟨none, 0, by rw [h0]; exact hv, fun k hk => by omega⟩
  · obtain ⟨g, c, e, _, hg⟩ := own_form h.own hv
    refine ⟨some ⟨g, 0, none⟩, c, e, fun k hk => ⟨g, rfl, hg, fun j hj => ?_⟩⟩
    have ho := h.own
    rw [e] at ho
    rw [ho.cellAt (k * 7 + j) (by have := vals_len es; omega)]
    exact vals_get es k hk j hj
theorem count_nil (w : World) : Calls Try.prog 20 #[.pointer none] w fun e w' => e = .returned (.int .i64 0) ∧ w = w' := by
  go_enter Try.func20, Try.ntmps20
  go_wp2
  go_ret
  exact ⟨rfl, rfl⟩
theorem count_at (tb n c : Nat) (a : Option Addr) (hn : n ≤ 1000) (w : World) (hx : w.cell? ⟨tb, 0, none⟩ = some (.slice a n c)) :
    Calls Try.prog 20 #[.pointer (some ⟨tb, 0, none⟩)] w fun e w' => e = .returned (.int .i64 (3 + n)) ∧ w = w' := by
  go_enter Try.func20, Try.ntmps20
  go_wp2
  go_ret
  exact ⟨rfl, rfl⟩
def zeros7 : Array Value := #[.int .i64 0, .int .i64 0, .int .i64 0, .string ⟨#[]⟩, .slice none 0 0, .int .i64 0, .int .i64 0]
theorem entry_nil (n : Int) (w : World) : Calls Try.prog 33 #[.pointer none, .int .i64 n] w fun e w' => e = .returned (.tuple #[.agg zeros7, .int .i64 1]) ∧ Fr (fun _ => False) w w' := by
  go_enter Try.func33, Try.ntmps33
  go_wp2
  exact bodyPost_ret (v := .tuple #[.agg zeros7, .int .i64 1]) (by simp [results, Try.results33, go_sem, zeros7]) rfl ⟨rfl, fr_al (Fr.refl _ _) _⟩
def types21 : Array Value := #[.int .i64 0, .int .i64 0, .int .i64 0, .string ⟨#[]⟩, .slice none 0 0, .int .i64 0, .int .i64 0, .int .i64 1, .int .i64 0, .int .i64 0, .string ⟨#[]⟩, .slice none 0 0, .int .i64 4, .int .i64 4, .int .i64 2, .int .i64 0, .int .i64 0, .string ⟨#[]⟩, .slice none 0 0, .int .i64 1, .int .i64 1]
theorem cells3 : (Try.prog.info? 84).map (·.size) = some types21.size := by kernel_rfl
set_option maxHeartbeats 1000000 in
theorem entry_out (tb m c : Nat) (a : Option Addr) (n : Int) (hm : m ≤ 1000) (hn : n < 0 ∨ 3 + (m : Int) ≤ n) (w : World) (hx : w.cell? ⟨tb, 0, none⟩ = some (.slice a m c)) :
    Calls Try.prog 33 #[.pointer (some ⟨tb, 0, none⟩), .int .i64 n] w fun e w' => e = .returned (.tuple #[.agg zeros7, .int .i64 4]) ∧ Fr (fun _ => False) w w' := by
  have HC := Lib.hid (fun W (hW : W.cell? ⟨tb, 0, none⟩ = some (.slice a m c)) => count_at tb m c a hm W hW)
  have hA : ∀ o : Obj, (w.alloc o).cell? ⟨tb, 0, none⟩ = some (.slice a m c) := fun o => (World.grownBy_alloc w o none).cell hx (by simp)
  by_cases h0 : n < 0
  · clear hn
    go_enter Try.func33, Try.ntmps33
    go_wp2_with (go_at_call 20; (with_reducible refine (HC.out _ (hA _)).mono ?_); rintro e w' ⟨rfl, rfl⟩)
    exact bodyPost_ret (v := .tuple #[.agg zeros7, .int .i64 4]) (by simp [results, Try.results33, go_sem, zeros7]) rfl ⟨rfl, fr_al (Fr.refl _ _) _⟩
  · have h1 : 3 + (m : Int) ≤ n := by omega
    have d1 : decide (n < 0) = false := decide_eq_false h0
    clear hn h0
    go_enter Try.func33, Try.ntmps33
    go_wp2_with (go_at_call 20; (with_reducible refine (HC.out _ (hA _)).mono ?_); rintro e w' ⟨rfl, rfl⟩)
    exact bodyPost_ret (v := .tuple #[.agg zeros7, .int .i64 4]) (by simp [results, Try.results33, go_sem, zeros7]) rfl ⟨rfl, fr_al (Fr.refl _ _) _⟩
def firstEnt (n : Int) : Ent := if n = 0 then ent0 else if n = 1 then ent1 else ent2
theorem index3 : ∀ w : World, (Instr.index 84 (.agg types21) (.int .i64 0)).run Try.prog w = .ok (.agg ent0.vals.toArray) w ∧ (Instr.index 84 (.agg types21) (.int .i64 1)).run Try.prog w = .ok (.agg ent1.vals.toArray) w ∧ (Instr.index 84 (.agg types21) (.int .i64 2)).run Try.prog w = .ok (.agg ent2.vals.toArray) w := fun _ => ⟨by kernel_rfl, by kernel_rfl, by kernel_rfl⟩
set_option maxRecDepth 1000000 in
set_option maxHeartbeats 4000000 in
theorem first_types (w : World) : Calls Try.prog 45 #[] w fun e w' => e = .returned (.agg types21) ∧ Fr (fun _ => False) w w' := by
  go_enter Try.func45, Try.ntmps45
  apply wp_seq_k; intro K0 hK0
  have HK := Lib.hid hK0
  clear hK0
  go_wp2
  refine HK.out _ _ ?_
  clear HK
  apply wp_seq_k; intro K1 hK1
  apply wp_region_lit
  refine wpList_buildTo rfl 38 _ rfl (some 1) rfl #[.int .i64 0, .int .i64 0, .int .i64 0, .string ⟨#[]⟩, .slice none 0 0] (by as_aux_lemma => kernel_rfl) ?_
  refine wpList_buildTo rfl 72 _ rfl (some 2) rfl #[.int .i64 0, .int .i64 0, .int .i64 0, .string ⟨#[]⟩, .slice none 0 0, .int .i64 0, .int .i64 0] (by as_aux_lemma => kernel_rfl) ?_
  refine wpList_buildTo rfl 38 _ rfl (some 3) rfl #[.int .i64 1, .int .i64 0, .int .i64 0, .string ⟨#[]⟩, .slice none 0 0] (by as_aux_lemma => kernel_rfl) ?_
  refine wpList_buildTo rfl 72 _ rfl (some 4) rfl #[.int .i64 1, .int .i64 0, .int .i64 0, .string ⟨#[]⟩, .slice none 0 0, .int .i64 4, .int .i64 4] (by as_aux_lemma => kernel_rfl) ?_
  refine wpList_buildTo rfl 38 _ rfl (some 5) rfl #[.int .i64 2, .int .i64 0, .int .i64 0, .string ⟨#[]⟩, .slice none 0 0] (by as_aux_lemma => kernel_rfl) ?_
  refine wpList_buildTo rfl 72 _ rfl (some 6) rfl #[.int .i64 2, .int .i64 0, .int .i64 0, .string ⟨#[]⟩, .slice none 0 0, .int .i64 1, .int .i64 1] (by as_aux_lemma => kernel_rfl) ?_
  refine wpList_buildTo rfl 84 _ rfl (some 7) rfl types21 (by as_aux_lemma => kernel_rfl) ?_
  refine wpList_store_row rfl 84 _ _ rfl w.heap.size types21 (by as_aux_lemma => kernel_rfl) (by as_aux_lemma => kernel_rfl) 84 _ (heap_alloc_new _ _) cells3 (by as_aux_lemma => kernel_rfl) (by as_aux_lemma => kernel_rfl) ?_
  rw [World.setRow_alloc_new]
  apply wpList_nil
  refine hK1 _ _ ?_
  clear hK1
  refine wp_ret ?_
  refine bodyPost_ret (v := .agg types21) (results_cell_row rfl _ _ w.heap.size 84 types21 (0, 0) _ (by as_aux_lemma => kernel_rfl) (heap_alloc_new _ _) Try.underlying84 rfl cells3) (by as_aux_lemma => kernel_rfl) ⟨rfl, fr_al (Fr.refl _ _) _⟩
theorem index3l : ∀ w : World, (Instr.index 84 (.agg types21) (.int .i64 0)).run Try.prog w = .ok (.agg #[.int .i64 0, .int .i64 0, .int .i64 0, .string ⟨#[]⟩, .slice none 0 0, .int .i64 0, .int .i64 0]) w ∧ (Instr.index 84 (.agg types21) (.int .i64 1)).run Try.prog w = .ok (.agg #[.int .i64 1, .int .i64 0, .int .i64 0, .string ⟨#[]⟩, .slice none 0 0, .int .i64 4, .int .i64 4]) w ∧ (Instr.index 84 (.agg types21) (.int .i64 2)).run Try.prog w = .ok (.agg #[.int .i64 2, .int .i64 0, .int .i64 0, .string ⟨#[]⟩, .slice none 0 0, .int .i64 1, .int .i64 1]) w := index3
theorem box7 {w w2 : World} (hg : Fr (fun _ => False) (w.alloc (.cells zeros7 72)) w2) : (∀ j, j < 7 → (∃ x, w2.cell? ⟨w.heap.size, j, none⟩ = some x) ∧ w2.frozen? ⟨w.heap.size, j, none⟩ = false) ∧ Fr (fun _ => False) w w2 := by
  refine ⟨fun j hj => ?_, (Fr.of_by0 (World.grownBy_alloc w _ none)).trans hg⟩
  have h0 : ∃ x, (w.alloc (.cells zeros7 72)).cell? ⟨w.heap.size, j, none⟩ = some x := by
    refine ⟨zeros7[j]'(by simpa [zeros7] using hj), fcell w zeros7 _ j _ ?_⟩
    exact Array.getElem?_eq_getElem _
  obtain ⟨x, h0⟩ := h0
  exact ⟨⟨x, hg.cell h0 id⟩, (hg.frozen h0 id).trans (World.frozen?_alloc_new _ _ _ _)⟩
theorem fr_set7 {w w2 : World} (h : Fr (fun _ => False) w w2) (v0 v1 v2 v3 v4 v5 v6 : Value) : Fr (fun _ => False) w (((((((w2.setCell ⟨w.heap.size, 0, none⟩ v0).setCell ⟨w.heap.size, 1, none⟩ v1).setCell ⟨w.heap.size, 2, none⟩ v2).setCell ⟨w.heap.size, 3, none⟩ v3).setCell ⟨w.heap.size, 4, none⟩ v4).setCell ⟨w.heap.size, 5, none⟩ v5).setCell ⟨w.heap.size, 6, none⟩ v6) :=
  fr_set (fr_set (fr_set (fr_set (fr_set (fr_set (fr_set h (Nat.le_refl _) _ _) (Nat.le_refl _) _ _) (Nat.le_refl _) _ _) (Nat.le_refl _) _ _) (Nat.le_refl _) _ _) (Nat.le_refl _) _ _) (Nat.le_refl _) _ _
set_option maxRecDepth 100000 in
set_option maxHeartbeats 2000000 in
theorem entry_first (tb m c : Nat) (a : Option Addr) (n : Nat) (hm : m ≤ 1000) (hn : n < 3) (w : World) (hx : w.cell? ⟨tb, 0, none⟩ = some (.slice a m c)) :
    Calls Try.prog 33 #[.pointer (some ⟨tb, 0, none⟩), .int .i64 n] w fun e w' => e = .returned (.tuple #[.agg (firstEnt n).vals.toArray, .int .i64 0]) ∧ Fr (fun _ => False) w w' := by
  have HC := Lib.hid (fun W (hW : W.cell? ⟨tb, 0, none⟩ = some (.slice a m c)) => count_at tb m c a hm W hW)
  have hA : ∀ o : Obj, (w.alloc o).cell? ⟨tb, 0, none⟩ = some (.slice a m c) := fun o => (World.grownBy_alloc w o none).cell hx (by simp)
  have i0 := fun w => (index3l w).1
  have i1 := fun w => (index3l w).2.1
  have i2 := fun w => (index3l w).2.2
  have hc : n = 0 ∨ n = 1 ∨ n = 2 := by omega
  rcases hc with rfl | rfl | rfl
  · clear hn i1 i2
    go_enter Try.func33, Try.ntmps33
    go_wp2_with (first
      | (go_at_call 20; (with_reducible refine (HC.out _ (hA _)).mono ?_); rintro e w' ⟨rfl, rfl⟩)
      | (go_at_call 45; (with_reducible refine (first_types _).mono ?_); rintro e w2 ⟨rfl, hf⟩; obtain ⟨hb, hw2⟩ := box7 hf; have HW2 := Lib.hid hw2; obtain ⟨⟨b0, k0⟩, f0⟩ := hb 0 (by decide); obtain ⟨⟨b1, k1⟩, f1⟩ := hb 1 (by decide); obtain ⟨⟨b2, k2⟩, f2⟩ := hb 2 (by decide); obtain ⟨⟨b3, k3⟩, f3⟩ := hb 3 (by decide); obtain ⟨⟨b4, k4⟩, f4⟩ := hb 4 (by decide); obtain ⟨⟨b5, k5⟩, f5⟩ := hb 5 (by decide); obtain ⟨⟨b6, k6⟩, f6⟩ := hb 6 (by decide); clear hb hw2 hf))
    exact bodyPost_ret (v := .tuple #[.agg #[.int .i64 0, .int .i64 0, .int .i64 0, .string ⟨#[]⟩, .slice none 0 0, .int .i64 0, .int .i64 0], .int .i64 0]) (by simp [results, Try.results33, go_sem, World.cell?_setCell_same, set_keep, k0, k1, k2, k3, k4, k5, k6]) rfl ⟨rfl, fr_set7 HW2.out _ _ _ _ _ _ _⟩
  · clear hn i0 i2
    go_enter Try.func33, Try.ntmps33
    go_wp2_with (first
      | (go_at_call 20; (with_reducible refine (HC.out _ (hA _)).mono ?_); rintro e w' ⟨rfl, rfl⟩)
      | (go_at_call 45; (with_reducible refine (first_types _).mono ?_); rintro e w2 ⟨rfl, hf⟩; obtain ⟨hb, hw2⟩ := box7 hf; have HW2 := Lib.hid hw2; obtain ⟨⟨b0, k0⟩, f0⟩ := hb 0 (by decide); obtain ⟨⟨b1, k1⟩, f1⟩ := hb 1 (by decide); obtain ⟨⟨b2, k2⟩, f2⟩ := hb 2 (by decide); obtain ⟨⟨b3, k3⟩, f3⟩ := hb 3 (by decide); obtain ⟨⟨b4, k4⟩, f4⟩ := hb 4 (by decide); obtain ⟨⟨b5, k5⟩, f5⟩ := hb 5 (by decide); obtain ⟨⟨b6, k6⟩, f6⟩ := hb 6 (by decide); clear hb hw2 hf))
    exact bodyPost_ret (v := .tuple #[.agg #[.int .i64 1, .int .i64 0, .int .i64 0, .string ⟨#[]⟩, .slice none 0 0, .int .i64 4, .int .i64 4], .int .i64 0]) (by simp [results, Try.results33, go_sem, World.cell?_setCell_same, set_keep, k0, k1, k2, k3, k4, k5, k6]) rfl ⟨rfl, fr_set7 HW2.out _ _ _ _ _ _ _⟩
  · clear hn i0 i1
    go_enter Try.func33, Try.ntmps33
    go_wp2_with (first
      | (go_at_call 20; (with_reducible refine (HC.out _ (hA _)).mono ?_); rintro e w' ⟨rfl, rfl⟩)
      | (go_at_call 45; (with_reducible refine (first_types _).mono ?_); rintro e w2 ⟨rfl, hf⟩; obtain ⟨hb, hw2⟩ := box7 hf; have HW2 := Lib.hid hw2; obtain ⟨⟨b0, k0⟩, f0⟩ := hb 0 (by decide); obtain ⟨⟨b1, k1⟩, f1⟩ := hb 1 (by decide); obtain ⟨⟨b2, k2⟩, f2⟩ := hb 2 (by decide); obtain ⟨⟨b3, k3⟩, f3⟩ := hb 3 (by decide); obtain ⟨⟨b4, k4⟩, f4⟩ := hb 4 (by decide); obtain ⟨⟨b5, k5⟩, f5⟩ := hb 5 (by decide); obtain ⟨⟨b6, k6⟩, f6⟩ := hb 6 (by decide); clear hb hw2 hf))
    exact bodyPost_ret (v := .tuple #[.agg #[.int .i64 2, .int .i64 0, .int .i64 0, .string ⟨#[]⟩, .slice none 0 0, .int .i64 1, .int .i64 1], .int .i64 0]) (by simp [results, Try.results33, go_sem, World.cell?_setCell_same, set_keep, k0, k1, k2, k3, k4, k5, k6]) rfl ⟨rfl, fr_set7 HW2.out _ _ _ _ _ _ _⟩
set_option maxRecDepth 100000 in
set_option maxHeartbeats 2000000 in
theorem entry_in (tb m c g k : Nat) (e : Ent) (hm : m ≤ 1000) (hk : k < m) (w : World) (hx : w.cell? ⟨tb, 0, none⟩ = some (.slice (some ⟨g, 0, none⟩) m c)) (hc : ∀ j, j < 7 → w.cell? ⟨g, k * 7 + j, none⟩ = e.vals[j]?) :
    Calls Try.prog 33 #[.pointer (some ⟨tb, 0, none⟩), .int .i64 (3 + k)] w fun r w' => r = .returned (.tuple #[.agg e.vals.toArray, .int .i64 0]) ∧ Fr (fun _ => False) w w' := by
  have HC := Lib.hid (fun W (hW : W.cell? ⟨tb, 0, none⟩ = some (.slice (some ⟨g, 0, none⟩) m c)) => count_at tb m c _ hm W hW)
  have hA : ∀ o : Obj, (w.alloc o).cell? ⟨tb, 0, none⟩ = some (.slice (some ⟨g, 0, none⟩) m c) := fun o => (World.grownBy_alloc w o none).cell hx (by simp)
  have HA := Lib.hid hA
  have q0 : ∀ o : Obj, (w.alloc o).cell? ⟨g, k * 7, none⟩ = some (.int .i64 e.kind) := fun o => (World.grownBy_alloc w o none).cell (hc 0 (by decide)) (by simp)
  have q1 : ∀ o : Obj, (w.alloc o).cell? ⟨g, k * 7 + 1, none⟩ = some (.int .i64 e.elem) := fun o => (World.grownBy_alloc w o none).cell (hc 1 (by decide)) (by simp)
  have q2 : ∀ o : Obj, (w.alloc o).cell? ⟨g, k * 7 + 2, none⟩ = some (.int .i64 e.len) := fun o => (World.grownBy_alloc w o none).cell (hc 2 (by decide)) (by simp)
  have q3 : ∀ o : Obj, (w.alloc o).cell? ⟨g, k * 7 + 3, none⟩ = some (.string e.name) := fun o => (World.grownBy_alloc w o none).cell (hc 3 (by decide)) (by simp)
  have q4 : ∀ o : Obj, (w.alloc o).cell? ⟨g, k * 7 + 4, none⟩ = some (.slice e.fa e.fn e.fc) := fun o => (World.grownBy_alloc w o none).cell (hc 4 (by decide)) (by simp)
  have q5 : ∀ o : Obj, (w.alloc o).cell? ⟨g, k * 7 + 5, none⟩ = some (.int .i64 e.size) := fun o => (World.grownBy_alloc w o none).cell (hc 5 (by decide)) (by simp)
  have q6 : ∀ o : Obj, (w.alloc o).cell? ⟨g, k * 7 + 6, none⟩ = some (.int .i64 e.align) := fun o => (World.grownBy_alloc w o none).cell (hc 6 (by decide)) (by simp)
  have lg : g < w.heap.size := World.block_lt_of_cell? w _ (hc 0 (by decide))
  have d0 : decide ((3 : Int) + k < 0) = false := decide_eq_false (by omega)
  have d1 : decide ((3 : Int) + m ≤ 3 + k) = false := decide_eq_false (by omega)
  have d2 : decide ((3 : Int) + k < 3) = false := decide_eq_false (by omega)
  have t1 : IntKind.i64.wrap ((3 : Int) + k - 3) = k := by rw [IntKind.wrap_i64]; omega
  have t2 : (3 : Int) + k - 3 = k := by omega
  have t3 : (0 : Int) ≤ k := by omega
  have t4 : (k : Int) < m := by omega
  clear hc
  go_enter Try.func33, Try.ntmps33
  go_wp2_with (go_at_call 20; (with_reducible refine (HC.out _ (HA.out _)).mono ?_); rintro e w' ⟨rfl, rfl⟩)
  exact bodyPost_ret (v := .tuple #[.agg e.vals.toArray, .int .i64 0]) (by simp [results, Try.results33, go_sem, Ent.vals]) rfl ⟨rfl, fr_al (Fr.refl _ _) _⟩
/-- The type with a number, or what stands for none. -/
def entF (es : List Ent) (n : Int) : Ent := if n < 0 ∨ 3 + (es.length : Int) ≤ n then ent0 else if n < 3 then firstEnt n else es.getD (n - 3).toNat ent0
def entE (es : List Ent) (n : Int) : Int := if n < 0 ∨ 3 + (es.length : Int) ≤ n then 4 else 0
theorem entry_at {base : Nat} {w : World} {tb : Nat} {v : Value} {es : List Ent} (h : TabAt base w tb v es) (n : Int) :
    Calls Try.prog 33 #[.pointer (some ⟨tb, 0, none⟩), .int .i64 n] w fun r w' => r = .returned (.tuple #[.agg (entF es n).vals.toArray, .int .i64 (entE es n)]) ∧ Fr (fun _ => False) w w' := by
  obtain ⟨a, c, rfl, hc⟩ := h.form
  have hf := h.few
  have hx := h.cell
  unfold entF entE
  by_cases ho : n < 0 ∨ 3 + (es.length : Int) ≤ n
  · rw [if_pos ho, if_pos ho]
    exact entry_out tb es.length c a n (by omega) ho w hx
  · rw [if_neg ho, if_neg ho]
    by_cases h3 : n < 3
    · rw [if_pos h3]
      obtain ⟨k, rfl⟩ : ∃ k : Nat, n = k := ⟨n.toNat, by omega⟩
      exact entry_first tb es.length c a k (by omega) (by omega) w hx
    · rw [if_neg h3]
      obtain ⟨k, rfl⟩ : ∃ k : Nat, n = 3 + k := ⟨(n - 3).toNat, by omega⟩
      rw [show ((3 : Int) + k - 3).toNat = k by omega]
      obtain ⟨g, rfl, _, hcell⟩ := hc k (by omega)
      exact entry_in tb es.length c g k _ (by omega) (by omega) w hx hcell
end Go.Proofs.Ytlhkhgkgjdfcgaa
