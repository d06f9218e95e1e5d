/-
  Tables of types (layer 8): the contract of entry.
-/
import Derived.Test.YtbhhmmfopammgaaKindB
import Derived.Outline
namespace Go.Proofs.Ytbhhmmfopammgaa
open Go.RowKit
set_option linter.unusedVariables false
set_option linter.unusedSimpArgs false
theorem index3l : ∀ w : World, (Instr.index 84 (.agg types21) (.int .i64 0)).run Try.prog w = .ok (.agg #[.int .i64 0, .int .i64 0, .int .i64 0, .string ⟨#[]⟩, .slice none 0 0, .int .i64 0, .int .i64 0]) w ∧ (Instr.index 84 (.agg types21) (.int .i64 1)).run Try.prog w = .ok (.agg #[.int .i64 1, .int .i64 0, .int .i64 0, .string ⟨#[]⟩, .slice none 0 0, .int .i64 4, .int .i64 4]) w ∧ (Instr.index 84 (.agg types21) (.int .i64 2)).run Try.prog w = .ok (.agg #[.int .i64 2, .int .i64 0, .int .i64 0, .string ⟨#[]⟩, .slice none 0 0, .int .i64 1, .int .i64 1]) w := index3
theorem box7 {w w2 : World} (hg : Fr (fun _ => False) (w.alloc (.cells zeros7 72)) w2) : (∀ j, j < 7 → (∃ x, w2.cell? ⟨w.heap.size, j, none⟩ = some x) ∧ w2.frozen? ⟨w.heap.size, j, none⟩ = false) ∧ Fr (fun _ => False) w w2 := by
  refine ⟨fun j hj => ?_, (Fr.of_by0 (World.grownBy_alloc w _ none)).trans hg⟩
  have h0 : ∃ x, (w.alloc (.cells zeros7 72)).cell? ⟨w.heap.size, j, none⟩ = some x := by
    refine ⟨zeros7[j]'(by simpa [zeros7] using hj), fcell w zeros7 _ j _ ?_⟩
    exact Array.getElem?_eq_getElem _
  obtain ⟨x, h0⟩ := h0
  exact ⟨⟨x, hg.cell h0 id⟩, (hg.frozen h0 id).trans (World.frozen?_alloc_new _ _ _ _)⟩
theorem fr_set7 {w w2 : World} (h : Fr (fun _ => False) w w2) (v0 v1 v2 v3 v4 v5 v6 : Value) : Fr (fun _ => False) w (((((((w2.setCell ⟨w.heap.size, 0, none⟩ v0).setCell ⟨w.heap.size, 1, none⟩ v1).setCell ⟨w.heap.size, 2, none⟩ v2).setCell ⟨w.heap.size, 3, none⟩ v3).setCell ⟨w.heap.size, 4, none⟩ v4).setCell ⟨w.heap.size, 5, none⟩ v5).setCell ⟨w.heap.size, 6, none⟩ v6) :=
  fr_set (fr_set (fr_set (fr_set (fr_set (fr_set (fr_set h (Nat.le_refl _) _ _) (Nat.le_refl _) _ _) (Nat.le_refl _) _ _) (Nat.le_refl _) _ _) (Nat.le_refl _) _ _) (Nat.le_refl _) _ _) (Nat.le_refl _) _ _
set_option maxRecDepth 100000 in
set_option maxHeartbeats 2000000 in
theorem entry_first (tb m c : Nat) (a : Option Addr) (n : Nat) (hm : m ≤ 1000) (hn : n < 3) (w : World) (hx : w.cell? ⟨tb, 0, none⟩ = some (.slice a m c)) :
    Calls Try.prog 33 #[.pointer (some ⟨tb, 0, none⟩), .int .i64 n] w fun e w' => e = .returned (.tuple #[.agg (firstEnt n).vals.toArray, .int .i64 0]) ∧ Fr (fun _ => False) w w' := by
  have HC := Lib.hid (fun W (hW : W.cell? ⟨tb, 0, none⟩ = some (.slice a m c)) => count_at tb m c a hm W hW)
  have hA : ∀ o : Obj, (w.alloc o).cell? ⟨tb, 0, none⟩ = some (.slice a m c) := fun o => (World.grownBy_alloc w o none).cell hx (by simp)
  have i0 := fun w => (index3l w).1
  have i1 := fun w => (index3l w).2.1
  have i2 := fun w => (index3l w).2.2
  have hc : n = 0 ∨ n = 1 ∨ n = 2 := by omega
  rcases hc with rfl | rfl | rfl
  · clear hn i1 i2
    go_enter Try.func33, Try.ntmps33
    go_wp2_with (first
      | (go_at_call 20; (with_reducible refine (HC.out _ (hA _)).mono ?_); rintro e w' ⟨rfl, rfl⟩)
      | (go_at_call 45; (with_reducible refine (first_types _).mono ?_); rintro e w2 ⟨rfl, hf⟩; obtain ⟨hb, hw2⟩ := box7 hf; have HW2 := Lib.hid hw2; obtain ⟨⟨b0, k0⟩, f0⟩ := hb 0 (by decide); obtain ⟨⟨b1, k1⟩, f1⟩ := hb 1 (by decide); obtain ⟨⟨b2, k2⟩, f2⟩ := hb 2 (by decide); obtain ⟨⟨b3, k3⟩, f3⟩ := hb 3 (by decide); obtain ⟨⟨b4, k4⟩, f4⟩ := hb 4 (by decide); obtain ⟨⟨b5, k5⟩, f5⟩ := hb 5 (by decide); obtain ⟨⟨b6, k6⟩, f6⟩ := hb 6 (by decide); clear hb hw2 hf))
    exact bodyPost_ret (v := .tuple #[.agg #[.int .i64 0, .int .i64 0, .int .i64 0, .string ⟨#[]⟩, .slice none 0 0, .int .i64 0, .int .i64 0], .int .i64 0]) (by simp [results, Try.results33, go_sem, World.cell?_setCell_same, set_keep, k0, k1, k2, k3, k4, k5, k6]) rfl ⟨rfl, fr_set7 HW2.out _ _ _ _ _ _ _⟩
  · clear hn i0 i2
    go_enter Try.func33, Try.ntmps33
    go_wp2_with (first
      | (go_at_call 20; (with_reducible refine (HC.out _ (hA _)).mono ?_); rintro e w' ⟨rfl, rfl⟩)
      | (go_at_call 45; (with_reducible refine (first_types _).mono ?_); rintro e w2 ⟨rfl, hf⟩; obtain ⟨hb, hw2⟩ := box7 hf; have HW2 := Lib.hid hw2; obtain ⟨⟨b0, k0⟩, f0⟩ := hb 0 (by decide); obtain ⟨⟨b1, k1⟩, f1⟩ := hb 1 (by decide); obtain ⟨⟨b2, k2⟩, f2⟩ := hb 2 (by decide); obtain ⟨⟨b3, k3⟩, f3⟩ := hb 3 (by decide); obtain ⟨⟨b4, k4⟩, f4⟩ := hb 4 (by decide); obtain ⟨⟨b5, k5⟩, f5⟩ := hb 5 (by decide); obtain ⟨⟨b6, k6⟩, f6⟩ := hb 6 (by decide); clear hb hw2 hf))
    exact bodyPost_ret (v := .tuple #[.agg #[.int .i64 1, .int .i64 0, .int .i64 0, .string ⟨#[]⟩, .slice none 0 0, .int .i64 4, .int .i64 4], .int .i64 0]) (by simp [results, Try.results33, go_sem, World.cell?_setCell_same, set_keep, k0, k1, k2, k3, k4, k5, k6]) rfl ⟨rfl, fr_set7 HW2.out _ _ _ _ _ _ _⟩
  · clear hn i0 i1
    go_enter Try.func33, Try.ntmps33
    go_wp2_with (first
      | (go_at_call 20; (with_reducible refine (HC.out _ (hA _)).mono ?_); rintro e w' ⟨rfl, rfl⟩)
      | (go_at_call 45; (with_reducible refine (first_types _).mono ?_); rintro e w2 ⟨rfl, hf⟩; obtain ⟨hb, hw2⟩ := box7 hf; have HW2 := Lib.hid hw2; obtain ⟨⟨b0, k0⟩, f0⟩ := hb 0 (by decide); obtain ⟨⟨b1, k1⟩, f1⟩ := hb 1 (by decide); obtain ⟨⟨b2, k2⟩, f2⟩ := hb 2 (by decide); obtain ⟨⟨b3, k3⟩, f3⟩ := hb 3 (by decide); obtain ⟨⟨b4, k4⟩, f4⟩ := hb 4 (by decide); obtain ⟨⟨b5, k5⟩, f5⟩ := hb 5 (by decide); obtain ⟨⟨b6, k6⟩, f6⟩ := hb 6 (by decide); clear hb hw2 hf))
    exact bodyPost_ret (v := .tuple #[.agg #[.int .i64 2, .int .i64 0, .int .i64 0, .string ⟨#[]⟩, .slice none 0 0, .int .i64 1, .int .i64 1], .int .i64 0]) (by simp [results, Try.results33, go_sem, World.cell?_setCell_same, set_keep, k0, k1, k2, k3, k4, k5, k6]) rfl ⟨rfl, fr_set7 HW2.out _ _ _ _ _ _ _⟩
end Go.Proofs.Ytbhhmmfopammgaa
