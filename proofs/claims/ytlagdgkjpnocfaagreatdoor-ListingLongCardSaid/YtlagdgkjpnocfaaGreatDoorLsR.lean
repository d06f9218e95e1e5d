/-
  Listing (layer 6): the page's examples.
-/
import Derived.Test.YtlagdgkjpnocfaaGreatDoorLsQ
namespace Go.Proofs.YtlagdgkjpnocfaaGreatDoor
open Go.RowKit
set_option linter.unusedVariables false
set_option linter.unusedSimpArgs false
set_option maxRecDepth 100000
theorem ex_fit : fitsB 0 1 2 8 (fm (ix 18)) = true := by decide +kernel
theorem ex_line : lineT 18 0 1 2 8 = [115, 119, 32, 120, 50, 44, 32, 56, 40, 120, 49, 41] := by decide +kernel
theorem ex_text : txT [5243027, 0] 2 = [48, 48, 48, 48, 48, 48, 48, 48, 58, 32, 97, 100, 100, 105, 32, 120, 49, 44, 32, 120, 48, 44, 32, 53, 10, 48, 48, 48, 48, 48, 48, 48, 52, 58, 32, 46, 119, 111, 114, 100, 32, 48, 120, 48, 48, 48, 48, 48, 48, 48, 48, 10] := by decide +kernel
theorem ex_read : readT [108, 119, 32, 120, 54, 44, 32, 45, 52, 40, 120, 50, 41] = some ⟨13, 6, 2, 0, -4⟩ := by
  have hp : parseR [108, 119, 32, 120, 54, 44, 32, 45, 52, 40, 120, 50, 41] = some ⟨13, 6, 2, 0, -4⟩ := by kernel_rfl
  have hl : lineT 13 6 2 0 (-4) = [108, 119, 32, 120, 54, 44, 32, 45, 52, 40, 120, 50, 41] := by decide +kernel
  have hf : fitsB 6 2 0 (-4) (fm (ix 13)) = true := by decide +kernel
  unfold readT
  rw [hp]
  exact if_pos ⟨hf, hl⟩
theorem bd_l (w : World) : (Instr.build 23 #[(0, .int .i64 18), (2, .int .i64 1), (3, .int .i64 2), (4, .int .i64 8)]).run Tryz.prog w = .ok (.agg #[.int .i64 18, .int .i64 0, .int .i64 1, .int .i64 2, .int .i64 8]) w := by simp [go_sem]
theorem bd_r (w : World) : (Instr.build 23 #[(0, .int .i64 13), (1, .int .i64 6), (2, .int .i64 2), (4, .int .i64 (-4))]).run Tryz.prog w = .ok (.agg #[.int .i64 13, .int .i64 6, .int .i64 2, .int .i64 0, .int .i64 (-4)]) w := by simp [go_sem]
theorem bs_w (w : World) : (Instr.buildSlice 35 2 #[(0, .int .u32 5243027), (1, .int .u32 0)]).run Tryz.prog w = .ok (.slice (some ⟨w.heap.size, 0, none⟩) 2 2) (w.alloc (.cells #[.int .u32 5243027, .int .u32 0] 40)) := by simp [go_sem]
theorem bn_eqE (w : World) (x y : Operand) (m n : Int) : (do eqGuard .eql 24 x y (.int .i64 m) (.int .i64 n); binOp .eql 24 (.int .i64 m) (.int .i64 n) : Sem Value).run Tryz.prog w = .ok (.bool (m == n)) w := by simp [go_sem]
theorem bn_eqI (w : World) (x y : Operand) : (do eqGuard .eql 23 x y (.agg #[.int .i64 13, .int .i64 6, .int .i64 2, .int .i64 0, .int .i64 (-4)]) (.agg #[.int .i64 13, .int .i64 6, .int .i64 2, .int .i64 0, .int .i64 (-4)]); binOp .eql 23 (.agg #[.int .i64 13, .int .i64 6, .int .i64 2, .int .i64 0, .int .i64 (-4)]) (.agg #[.int .i64 13, .int .i64 6, .int .i64 2, .int .i64 0, .int .i64 (-4)]) : Sem Value).run Tryz.prog w = .ok (.bool true) w := by simp [go_sem]
end Go.Proofs.YtlagdgkjpnocfaaGreatDoor
