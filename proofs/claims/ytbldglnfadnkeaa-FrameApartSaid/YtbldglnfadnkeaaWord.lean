/-
  The contracts of the functions of layer 1 (word) and of the document's own answers to it: what each call returns, and what becomes of memory.
-/
import Derived.Test.YtbldglnfadnkeaaRows
import Derived.Test.YtbldglnfadnkeaaMath
import Derived.WalkKit
import Derived.ProofKit
import Derived.OpenShut
import Derived.Lib.Hide
namespace Go.Proofs.Ytbldglnfadnkeaa
open Go.RowKit
set_option linter.unusedVariables false

/-- The unsigned quotient and remainder. -/
def divUF (a b : Int) : Int := if b = 0 then 4294967295 else a / b
def remUF (a b : Int) : Int := if b = 0 then a else a % b
theorem divU_in {a b : Int} (h0 : 0 ≤ a) (h1 : a ≤ 4294967295) (g0 : 0 ≤ b) : 0 ≤ a / b ∧ a / b ≤ 4294967295 :=
  ⟨Int.ediv_nonneg h0 g0, by have := Int.ediv_le_self b h0; omega⟩
theorem remU_in {a b : Int} (g0 : 1 ≤ b) (g1 : b ≤ 4294967295) : 0 ≤ a % b ∧ a % b ≤ 4294967295 :=
  ⟨Int.emod_nonneg _ (by omega), by have := Int.emod_lt_of_pos a (b := b) (by omega); omega⟩
end Go.Proofs.Ytbldglnfadnkeaa
