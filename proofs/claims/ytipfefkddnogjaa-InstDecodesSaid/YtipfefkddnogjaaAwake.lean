/-
  The page's examples of layer 2 hold; the document's own names of the instructions.
-/
import Derived.Test.YtipfefkddnogjaaDec
namespace Go.Proofs.Ytipfefkddnogjaa
open Go.RowKit
set_option linter.unusedVariables false

theorem c11_yes (op rd r1 r2 imm : Int) (w : World) (h : fitsB rd r1 r2 imm (fm (ix op)) = true) :
    Calls Try.prog 11 #[.agg #[.int .i64 op, .int .i64 rd, .int .i64 r1, .int .i64 r2, .int .i64 imm]] w fun e w' => e = .returned (.tuple #[.int .u32 (encW op rd r1 r2 imm), .int .i64 0]) ∧ Grown w w' :=
  c11 op rd r1 r2 imm w true h
theorem c11_no (op rd r1 r2 imm : Int) (w : World) (h : fitsB rd r1 r2 imm (fm (ix op)) = false) :
    Calls Try.prog 11 #[.agg #[.int .i64 op, .int .i64 rd, .int .i64 r1, .int .i64 r2, .int .i64 imm]] w fun e w' => e = .returned (.tuple #[.int .u32 0, .int .i64 1]) ∧ Grown w w' :=
  c11 op rd r1 r2 imm w false h
theorem k1 (w : World) : Calls Try.prog 11 #[.agg #[.int .i64 19, .int .i64 1, .int .i64 0, .int .i64 0, .int .i64 5]] w fun e w' => e = .returned (.tuple #[.int .u32 5243027, .int .i64 0]) ∧ Grown w w' := by
  have h := c11_yes 19 1 0 0 5 w (by decide +kernel)
  rwa [show encW 19 1 0 0 5 = 5243027 by decide +kernel] at h
theorem k2 (w : World) : Calls Try.prog 11 #[.agg #[.int .i64 18, .int .i64 0, .int .i64 1, .int .i64 2, .int .i64 8]] w fun e w' => e = .returned (.tuple #[.int .u32 2139171, .int .i64 0]) ∧ Grown w w' := by
  have h := c11_yes 18 0 1 2 8 w (by decide +kernel)
  rwa [show encW 18 0 1 2 8 = 2139171 by decide +kernel] at h
theorem k3 (w : World) : Calls Try.prog 16 #[.int .u32 5243027] w fun e w' => e = .returned (.tuple #[.agg #[.int .i64 19, .int .i64 1, .int .i64 0, .int .i64 0, .int .i64 5], .int .i64 0]) ∧ Grown w w' := by
  have h := c16_some 5243027 (by omega) (by omega) 19 (by decide +kernel) (by omega) w
  rwa [show regV 5243027 7 (uRd (fm 19)) = 1 by decide +kernel, show regV 5243027 15 (uRs1 (fm 19)) = 0 by decide +kernel, show regV 5243027 20 (uRs2 (fm 19)) = 0 by decide +kernel, show gathS (fm 19) 5243027 = 5 by decide +kernel] at h
set_option maxRecDepth 100000 in
set_option maxHeartbeats 8000000 in
theorem c13 (w : World) : Calls Try.prog 13 #[] w fun e w' => e = .returned (.bool true) ∧ Grown w w' := by
  have H1 := Lib.hid k1
  have H2 := Lib.hid k2
  have H3 := Lib.hid k3
  have HG := Lib.hid (Grown.refl w)
  go_enter Try.func13, Try.ntmps13
  go_wp2_with (first
    | (go_at_call 11; (with_reducible refine (H1.out _).mono ?_); rintro e w' ⟨rfl, hg⟩; replace HG := Lib.hid (grown_trans HG.out hg); clear hg)
    | (go_at_call 11; (with_reducible refine (H2.out _).mono ?_); rintro e w' ⟨rfl, hg⟩; replace HG := Lib.hid (grown_trans HG.out hg); clear hg)
    | (go_at_call 16; (with_reducible refine (H3.out _).mono ?_); rintro e w' ⟨rfl, hg⟩; replace HG := Lib.hid (grown_trans HG.out hg); clear hg))
  trace_state
  go_ret
  exact ⟨rfl, HG.out.alloc _ _⟩
end Go.Proofs.Ytipfefkddnogjaa
