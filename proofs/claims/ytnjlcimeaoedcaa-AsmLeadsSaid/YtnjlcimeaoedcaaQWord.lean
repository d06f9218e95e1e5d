/-
  The contracts of the functions of layer 1 (word) and of the document's own answers to it: what each call returns, and what becomes of memory.
-/
import Derived.Test.YtnjlcimeaoedcaaRows
import Derived.Test.YtnjlcimeaoedcaaQMath
import Derived.WalkKit
import Derived.ProofKit
import Derived.OpenShut
import Derived.Lib.Hide
namespace Go.Proofs.Ytnjlcimeaoedcaa
open Go.RowKit
set_option linter.unusedVariables false

theorem c85 (a b : Int) (h0 : 0 ≤ a) (h1 : a ≤ 4294967295) (g0 : 0 ≤ b) (g1 : b ≤ 4294967295) (w : World) :
    Calls Try.prog 85 #[.int .u32 a, .int .u32 b] w fun e w' => e = .returned (.int .u32 ((a - b) % 4294967296)) ∧ w = w' := by
  go_enter Try.func85, Try.ntmps85
  go_wp2
  go_ret
  exact ⟨rfl, rfl⟩
/-- The document's Cut, of any number. -/
theorem c35 (n : Int) (h0 : -9223372036854775808 ≤ n) (h1 : n ≤ 9223372036854775807) (w : World) :
    Calls Try.prog 35 #[.int .i64 n] w fun e w' => e = .returned (.int .u32 (n % 4294967296)) ∧ w = w' := by
  by_cases hn : 0 ≤ n
  · go_enter Try.func35, Try.ntmps35
    go_wp2
    all_goals go_ret
    all_goals exact ⟨ret_int (by omega), rfl⟩
  · have e := tmod_neg 4294967296 (n := n) (by omega)
    have e1 : -4294967296 < n.tmod 4294967296 := by omega
    have e2 : n.tmod 4294967296 ≤ 0 := by omega
    have H := Lib.hid e
    clear e
    go_enter Try.func35, Try.ntmps35
    go_wp2
    all_goals go_ret
    all_goals exact ⟨ret_int (by have := H.out; omega), rfl⟩
theorem c34 (a : Int) (h0 : 0 ≤ a) (h1 : a ≤ 4294967295) (w : World) :
    Calls Try.prog 34 #[.int .u32 a] w fun e w' => e = .returned (.int .i64 (sg a)) ∧ w = w' := by
  by_cases h : a < 2147483648
  all_goals
    go_enter Try.func34, Try.ntmps34
    go_wp2
    go_ret
    exact ⟨ret_int (by unfold sg; split <;> omega), rfl⟩
/-- The unsigned quotient and remainder. -/
def divUF (a b : Int) : Int := if b = 0 then 4294967295 else a / b
def remUF (a b : Int) : Int := if b = 0 then a else a % b
theorem divU_in {a b : Int} (h0 : 0 ≤ a) (h1 : a ≤ 4294967295) (g0 : 0 ≤ b) : 0 ≤ a / b ∧ a / b ≤ 4294967295 :=
  ⟨Int.ediv_nonneg h0 g0, by have := Int.ediv_le_self b h0; omega⟩
theorem remU_in {a b : Int} (g0 : 1 ≤ b) (g1 : b ≤ 4294967295) : 0 ≤ a % b ∧ a % b ≤ 4294967295 :=
  ⟨Int.emod_nonneg _ (by omega), by have := Int.emod_lt_of_pos a (b := b) (by omega); omega⟩
end Go.Proofs.Ytnjlcimeaoedcaa
