/-
  The page's examples of layer 2 hold; the document's own names of the instructions.
-/
import Derived.Test.YtnjlcimeaoedcaaQDec
namespace Go.Proofs.Ytnjlcimeaoedcaa
open Go.RowKit
set_option linter.unusedVariables false

theorem c45_yes (op rd r1 r2 imm : Int) (w : World) (h : fitsB rd r1 r2 imm (fm (ix op)) = true) :
    Calls Try.prog 45 #[.agg #[.int .i64 op, .int .i64 rd, .int .i64 r1, .int .i64 r2, .int .i64 imm]] w fun e w' => e = .returned (.tuple #[.int .u32 (encW op rd r1 r2 imm), .int .i64 0]) ∧ Grown w w' :=
  c45 op rd r1 r2 imm w true h
theorem c45_no (op rd r1 r2 imm : Int) (w : World) (h : fitsB rd r1 r2 imm (fm (ix op)) = false) :
    Calls Try.prog 45 #[.agg #[.int .i64 op, .int .i64 rd, .int .i64 r1, .int .i64 r2, .int .i64 imm]] w fun e w' => e = .returned (.tuple #[.int .u32 0, .int .i64 1]) ∧ Grown w w' :=
  c45 op rd r1 r2 imm w false h
theorem k1 (w : World) : Calls Try.prog 45 #[.agg #[.int .i64 19, .int .i64 1, .int .i64 0, .int .i64 0, .int .i64 5]] w fun e w' => e = .returned (.tuple #[.int .u32 5243027, .int .i64 0]) ∧ Grown w w' := by
  have h := c45_yes 19 1 0 0 5 w (by decide +kernel)
  rwa [show encW 19 1 0 0 5 = 5243027 by decide +kernel] at h
theorem k2 (w : World) : Calls Try.prog 45 #[.agg #[.int .i64 18, .int .i64 0, .int .i64 1, .int .i64 2, .int .i64 8]] w fun e w' => e = .returned (.tuple #[.int .u32 2139171, .int .i64 0]) ∧ Grown w w' := by
  have h := c45_yes 18 0 1 2 8 w (by decide +kernel)
  rwa [show encW 18 0 1 2 8 = 2139171 by decide +kernel] at h
theorem k3 (w : World) : Calls Try.prog 10 #[.int .u32 5243027] w fun e w' => e = .returned (.tuple #[.agg #[.int .i64 19, .int .i64 1, .int .i64 0, .int .i64 0, .int .i64 5], .int .i64 0]) ∧ Grown w w' := by
  have h := c10_some 5243027 (by omega) (by omega) 19 (by decide +kernel) (by omega) w
  rwa [show regV 5243027 7 (uRd (fm 19)) = 1 by decide +kernel, show regV 5243027 15 (uRs1 (fm 19)) = 0 by decide +kernel, show regV 5243027 20 (uRs2 (fm 19)) = 0 by decide +kernel, show gathS (fm 19) 5243027 = 5 by decide +kernel] at h
end Go.Proofs.Ytnjlcimeaoedcaa
