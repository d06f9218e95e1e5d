/-
  The law that a run of so many steps is one of fewer and then of these (layer 3): its walk.
-/
import Derived.Test.YtipfefkddnogjaaDevNn
namespace Go.Proofs.Ytipfefkddnogjaa
open Go.RowKit
set_option linter.unusedVariables false
set_option linter.unusedSimpArgs false
theorem box_cells {w W : World} {v0 v1 v2 v3 v4 : Value} (h : Fr (fun _ => False) (w.alloc (.cells #[v0, v1, v2, v3, v4] 43)) W) :
    W.cell? ⟨w.heap.size, 0, none⟩ = some v0 ∧ W.cell? ⟨w.heap.size, 1, none⟩ = some v1 ∧ W.cell? ⟨w.heap.size, 2, none⟩ = some v2 ∧ W.cell? ⟨w.heap.size, 3, none⟩ = some v3 ∧ W.cell? ⟨w.heap.size, 4, none⟩ = some v4 :=
  ⟨h.cell (row_cell w #[v0, v1, v2, v3, v4] 43 0 v0 rfl) id, h.cell (row_cell w #[v0, v1, v2, v3, v4] 43 1 v1 rfl) id, h.cell (row_cell w #[v0, v1, v2, v3, v4] 43 2 v2 rfl) id, h.cell (row_cell w #[v0, v1, v2, v3, v4] 43 3 v3 rfl) id, h.cell (row_cell w #[v0, v1, v2, v3, v4] 43 4 v4 rfl) id⟩
set_option maxRecDepth 100000 in
set_option maxHeartbeats 8000000 in
theorem parts_out (a0 a1 a2 a3 : Option Addr) (n m i f c0 c1 c2 c3 : Nat) (N k : Int) (w : World) (h : fewB n m i f N = false ∨ (fewB n m i f N = true ∧ N < k)) :
    Calls Try.prog 6 #[.agg #[.slice a0 n c0, .slice a1 m c1, .slice a2 i c2, .slice a3 f c3, .int .i64 N], .int .i64 k] w fun e w' => e = .returned (.bool true) ∧ Fr (fun _ => False) w w' := by
  obtain ⟨wB, hwB⟩ : ∃ wB : World, wB = w.alloc (.cells #[.slice a0 n c0, .slice a1 m c1, .slice a2 i c2, .slice a3 f c3, .int .i64 N] 43) := ⟨_, rfl⟩
  have hF : Fr (fun _ => False) w wB := by rw [hwB]; exact Fr.of_by0 (World.grownBy_alloc _ _ _)
  have HF := Lib.hid hF
  have HX : Hid (∀ W, Fr (fun _ => False) wB W → W.cell? ⟨w.heap.size, 0, none⟩ = some (.slice a0 n c0) ∧ W.cell? ⟨w.heap.size, 1, none⟩ = some (.slice a1 m c1) ∧ W.cell? ⟨w.heap.size, 2, none⟩ = some (.slice a2 i c2) ∧ W.cell? ⟨w.heap.size, 3, none⟩ = some (.slice a3 f c3) ∧ W.cell? ⟨w.heap.size, 4, none⟩ = some (.int .i64 N)) := Lib.hid (fun W hW => box_cells (by rw [← hwB]; exact hW))
  obtain ⟨B, hB⟩ : ∃ B, w.heap.size = B := ⟨_, rfl⟩
  rw [hB] at HX
  obtain ⟨x0, x1, x2, x3, x4⟩ := HX.out wB (Fr.refl _ _)
  clear hF
  rcases h with h | ⟨h, hk⟩
  · have H18 := Lib.hid (c18 a0 a1 a2 a3 n m i f c0 c1 c2 c3 N wB)
    rw [h] at H18
    clear h
    go_enter Try.func6, Try.ntmps6
    go_wp2_with (first
      | (go_at_call 18; (try rw [← hwB]); (with_reducible refine H18.out.mono ?_); rintro e w1 ⟨rfl, hg⟩; have H1 := Lib.hid (HF.out.trans hg); clear hg)
      | (go_at_call 19; (with_reducible refine (c19 _).mono ?_); rintro e w2 ⟨rfl, hg⟩; have H2 := Lib.hid (H1.out.trans hg); clear hg))
    go_ret
    exact ⟨rfl, H2.out⟩
  · have H18 := Lib.hid (c18 a0 a1 a2 a3 n m i f c0 c1 c2 c3 N wB)
    rw [h] at H18
    clear h
    go_enter Try.func6, Try.ntmps6
    go_wp2_with (first
      | (go_at_call 18; (try rw [← hwB]); (with_reducible refine H18.out.mono ?_); rintro e w1 ⟨rfl, hg⟩; have H1 := Lib.hid (HF.out.trans hg); obtain ⟨y0, y1, y2, y3, y4⟩ := HX.out _ hg; clear hg)
      | (go_at_call 19; (with_reducible refine (c19 _).mono ?_); rintro e w2 ⟨rfl, hg⟩; have H2 := Lib.hid (H1.out.trans hg); clear hg))
    go_ret
    exact ⟨rfl, H2.out⟩
end Go.Proofs.Ytipfefkddnogjaa
