/-
  Modules (layer 13): small tests; the fields of the page's two operations. Modules (layer 13): the tests of a procedure's view.
-/
import Derived.Test.YthdkmjbeemfbbaaQMath
import Derived.Test.YthdkmjbeemfbbaaQFr
import Derived.Outline
namespace Go.Proofs.Ythdkmjbeemfbbaa
open Go.RowKit
set_option linter.unusedVariables false
set_option linter.unusedSimpArgs false
theorem c22 (n lo hi : Int) (w : World) : Calls Try.prog 22 #[.int .i64 n, .int .i64 lo, .int .i64 hi] w fun e w' => e = .returned (.bool (decide (lo ≤ n) && decide (n ≤ hi))) ∧ w = w' := by
  by_cases h : lo ≤ n
  all_goals
    go_enter Try.func22, Try.ntmps22
    go_wp2
    go_ret
    refine ⟨?_, rfl⟩
    first | (simp [h]; done) | (simp [h]; omega)
theorem c23 (n c : Int) (w : World) : Calls Try.prog 23 #[.int .i64 n, .int .i64 c] w fun e w' => e = .returned (.bool (decide (0 ≤ n) && decide (n < c))) ∧ w = w' := by
  by_cases h : 0 ≤ n
  all_goals
    go_enter Try.func23, Try.ntmps23
    go_wp2
    go_ret
    refine ⟨?_, rfl⟩
    first | (simp [h]; done) | (simp [h]; omega)
theorem c65 (op fn : Int) (h : op ≠ 3) (h' : op ≠ 4) (w : World) : Calls Try.prog 65 #[.int .i64 op, .int .i64 fn] w fun e w' => e = .returned (.bool (fn == 0)) ∧ w = w' := by
  have e3 : (op == 3) = false := by simpa using h
  have e4 : (op == 4) = false := by simpa using h'
  go_enter Try.func65, Try.ntmps65
  go_wp2
  go_ret
  exact ⟨rfl, rfl⟩
theorem fld0 (x0 x1 x2 x3 x4 x5 x6 x7 x8 x9 x10 : Value) (w : World) : (Instr.field 102 (.agg #[x0, x1, x2, x3, x4, x5, x6, x7, x8, x9, x10]) 0).run Try.prog w = .ok x0 w := by kernel_rfl
theorem fld1 (x0 x1 x2 x3 x4 x5 x6 x7 x8 x9 x10 : Value) (w : World) : (Instr.field 102 (.agg #[x0, x1, x2, x3, x4, x5, x6, x7, x8, x9, x10]) 1).run Try.prog w = .ok x1 w := by kernel_rfl
set_option maxRecDepth 100000 in
set_option maxHeartbeats 4000000 in
theorem is_register (g d p m nm vd pa ob bl : Value) (R : Int) (r : Int) (w : World) : Calls Try.prog 71 #[.agg #[g, d, p, m, nm, vd, pa, .int .i64 R, ob, bl], .int .i64 r] w fun e w' => e = .returned (.bool (decide (0 ≤ r) && decide (r < R))) ∧ Fr (fun _ => False) w w' := by
  go_enter Try.func71, Try.ntmps71
  go_wp2_with (go_at_call 23; (with_reducible refine (c23 _ _ _).mono ?_); rintro e w2 ⟨rfl, rfl⟩)
  go_ret
  exact ⟨rfl, fr_al (Fr.refl _ _) _⟩
set_option maxRecDepth 100000 in
set_option maxHeartbeats 4000000 in
theorem register_un (g d p m nm vd pa ob bl : Value) (R : Int) (r : Int) (w : World) : Calls Try.prog 57 #[.agg #[g, d, p, m, nm, vd, pa, .int .i64 R, ob, bl], .int .i64 r, .bool false] w fun e w' => e = .returned (.bool (r == -1)) ∧ Fr (fun _ => False) w w' := by
  go_enter Try.func57, Try.ntmps57
  go_wp2
  go_ret
  exact ⟨rfl, fr_al (Fr.refl _ _) _⟩
set_option maxRecDepth 100000 in
set_option maxHeartbeats 4000000 in
theorem register_used (g d p m nm vd pa ob bl : Value) (R : Int) (r : Int) (w : World) : Calls Try.prog 57 #[.agg #[g, d, p, m, nm, vd, pa, .int .i64 R, ob, bl], .int .i64 r, .bool true] w fun e w' => e = .returned (.bool (decide (0 ≤ r) && decide (r < R))) ∧ Fr (fun _ => False) w w' := by
  go_enter Try.func57, Try.ntmps57
  go_wp2_with (go_at_call 71; (with_reducible refine (is_register _ _ _ _ _ _ _ _ _ _ _ _).mono ?_); rintro e w2 ⟨rfl, hf⟩; have HF := Lib.hid hf; clear hf)
  go_ret
  exact ⟨rfl, (fr_al (Fr.refl _ _) _).trans HF.out⟩
end Go.Proofs.Ythdkmjbeemfbbaa
