/-
  The contract of execute (layer 3), begun: no instruction; lui; auipc.
-/
import Derived.Test.YtipfefkddnogjaaDevJ
import Derived.Test.YtipfefkddnogjaaCode
import Derived.Outline
import Derived.BigRegion
namespace Go.Proofs.Ytipfefkddnogjaa
open Go.RowKit
set_option linter.unusedVariables false
set_option linter.unusedSimpArgs false
set_option maxRecDepth 100000 in
set_option maxHeartbeats 2000000 in
theorem c78_0 (b : Nat) (rd r1 r2 : Nat) (imm p x1 x2 : Int) (hr : rd < 32 ∧ r1 < 32 ∧ r2 < 32) (p0 : 0 ≤ p) (p1 : p ≤ 4294967295) (w : World) (hx : w.cell? ⟨b, 32, none⟩ = some (.int .u32 p))
    (h1 : w.cell? ⟨b, r1, none⟩ = some (.int .u32 x1)) (h2 : w.cell? ⟨b, r2, none⟩ = some (.int .u32 x2)) :
    Calls Try.prog 78 #[.pointer (some ⟨b, 0, none⟩), .agg #[.int .i64 0, .int .i64 rd, .int .i64 r1, .int .i64 r2, .int .i64 imm]] w fun e w' => e = .returned (.bool false) ∧ w.grownBy w' none := by
  obtain ⟨wI, hwI⟩ : ∃ wI : World, wI = w.alloc (.cells #[.int .i64 0, .int .i64 rd, .int .i64 r1, .int .i64 r2, .int .i64 imm] 23) := ⟨_, rfl⟩
  obtain ⟨bI, hbI⟩ : ∃ bI : Nat, bI = w.heap.size := ⟨_, rfl⟩
  have hgI : w.grownBy wI none := by rw [hwI]; exact byAlloc (byRefl w) _
  have HG := Lib.hid hgI
  have hA : wI.cell? ⟨b, 32, none⟩ = some (.int .u32 p) := hgI.cell hx (by simp)
  have hA1 : wI.cell? ⟨b, r1, none⟩ = some (.int .u32 x1) := hgI.cell h1 (by simp)
  have hA2 : wI.cell? ⟨b, r2, none⟩ = some (.int .u32 x2) := hgI.cell h2 (by simp)
  have z0 : wI.cell? ⟨bI, 0, none⟩ = some (.int .i64 0) := by rw [hwI, hbI]; exact row_cell w #[.int .i64 0, .int .i64 rd, .int .i64 r1, .int .i64 r2, .int .i64 imm] 23 0 (.int .i64 0) rfl
  have z1 : wI.cell? ⟨bI, 1, none⟩ = some (.int .i64 rd) := by rw [hwI, hbI]; exact row_cell w #[.int .i64 0, .int .i64 rd, .int .i64 r1, .int .i64 r2, .int .i64 imm] 23 1 (.int .i64 rd) rfl
  have z2 : wI.cell? ⟨bI, 2, none⟩ = some (.int .i64 r1) := by rw [hwI, hbI]; exact row_cell w #[.int .i64 0, .int .i64 rd, .int .i64 r1, .int .i64 r2, .int .i64 imm] 23 2 (.int .i64 r1) rfl
  have z3 : wI.cell? ⟨bI, 3, none⟩ = some (.int .i64 r2) := by rw [hwI, hbI]; exact row_cell w #[.int .i64 0, .int .i64 rd, .int .i64 r1, .int .i64 r2, .int .i64 imm] 23 3 (.int .i64 r2) rfl
  have z4 : wI.cell? ⟨bI, 4, none⟩ = some (.int .i64 imm) := by rw [hwI, hbI]; exact row_cell w #[.int .i64 0, .int .i64 rd, .int .i64 r1, .int .i64 r2, .int .i64 imm] 23 4 (.int .i64 imm) rfl
  obtain ⟨hr0, hr1, hr2⟩ := hr
  clear hx h1 h2 hgI
  go_enter Try.func78, Try.ntmps78
  iterate 40 (first | (first | with_reducible refine wp_exit ?_ | with_reducible refine past_then ?_ | with_reducible refine past_block rfl ?_ | with_reducible refine at_block ?_) | ((fail_if_success go_at_call 82); first | go_values | go_skip | go_guarded | go_step) | skip)
  rw [← hwI, ← hbI]
  clear hwI hbI
  go_quiet (fail)
  go_wp2_with (first | (first | with_reducible refine wp_exit ?_ | with_reducible refine past_then ?_ | with_reducible refine past_block rfl ?_ | with_reducible refine at_block ?_) | (go_at_call 82; (with_reducible refine (c82 p 4 p0 p1 (by decide) (by decide) _).mono ?_); rintro e w' ⟨rfl, rfl⟩))
  go_ret
  exact ⟨rfl, byDrewN HG.out _⟩
end Go.Proofs.Ytipfefkddnogjaa
