/-
  More plain facts on integers for layer 1 (words): the quotient times the divisor plus the remainder; both halves of a product; the two parts of a word.
-/
import Derived.Test.YtkocgnnaolnilaaMath
namespace Go.Proofs.Ytkocgnnaolnilaa
open Go.RowKit
set_option linter.unusedVariables false

theorem tmod_facts (x y : Int) (h : y ≠ 0) : (0 ≤ x → 0 ≤ x.tmod y) ∧ (x ≤ 0 → x.tmod y ≤ 0) ∧ (x.tmod y < y ∨ x.tmod y < -y) ∧ (-y < x.tmod y ∨ y < x.tmod y) := by
  have hn : (x.tmod y).natAbs < y.natAbs := by rw [Int.natAbs_tmod]; exact Nat.mod_lt _ (by omega)
  refine ⟨fun h0 => Int.tmod_nonneg _ h0, fun h0 => ?_, by omega, by omega⟩
  have e : x = -(-x) := by omega
  rw [e, Int.neg_tmod]
  have := Int.tmod_nonneg (a := -x) y (by omega)
  omega
theorem sg_of_mod {z : Int} (h0 : -2147483648 ≤ z) (h1 : z ≤ 2147483647) : sg (z % 4294967296) = z := by unfold sg; split <;> omega
theorem div_back {a b : Int} (h0 : 0 ≤ a) (h1 : a ≤ 4294967295) (g0 : 0 ≤ b) (g1 : b ≤ 4294967295) (hb : b ≠ 0) : (mulF (divF a b) b + remF a b) % 4294967296 = a := by
  unfold mulF divF remF
  rw [if_neg hb, if_neg hb]
  have e : (sg a).tdiv (sg b) % 4294967296 * b % 4294967296 = (sg a).tdiv (sg b) * sg b % 4294967296 := by
    conv => rhs; rw [Int.mul_emod, sg_mod g0 g1]
  rw [e, ← Int.add_emod]
  have e2 : (sg a).tdiv (sg b) * sg b + (sg a).tmod (sg b) = sg a := by rw [Int.mul_comm]; exact Int.mul_tdiv_add_tmod _ _
  rw [e2, sg_mod h0 h1]
theorem divU_back {a b : Int} (h0 : 0 ≤ a) (h1 : a ≤ 4294967295) (g0 : 1 ≤ b) : (mulF (a / b) b + a % b) % 4294967296 = a ∧ a % b < b := by
  have e : b * (a / b) + a % b = a := Int.mul_ediv_add_emod a b
  have p := Int.emod_nonneg a (b := b) (by omega)
  have q := Int.emod_lt_of_pos a (b := b) (by omega)
  have r : 0 ≤ a / b * b := Int.mul_nonneg (Int.ediv_nonneg h0 (by omega)) (by omega)
  rw [Int.mul_comm] at e
  unfold mulF
  refine ⟨?_, q⟩
  omega
theorem nat_or_parts (x y : Nat) (hy : y < 2 ^ 32) : x * 2 ^ 32 ||| y = x * 2 ^ 32 + y := by
  rw [Nat.mul_comm]; exact (Nat.two_pow_add_eq_or_of_lt hy x).symm
theorem or_parts {x y : Int} (h0 : 0 ≤ x) (h1 : x ≤ 4294967295) (g0 : 0 ≤ y) (g1 : y ≤ 4294967295) : bits .or .u64 (x * 4294967296) y = x * 4294967296 + y := by
  obtain ⟨X, rfl⟩ : ∃ n : Nat, x = n := ⟨x.toNat, by omega⟩
  obtain ⟨Y, rfl⟩ : ∃ n : Nat, y = n := ⟨y.toNat, by omega⟩
  have e : (X : Int) * 4294967296 = ((X * 4294967296 : Nat) : Int) := by simp
  rw [e, bits_or_u64_nat _ _ (by omega) (by omega)]
  have := nat_or_parts X Y (by omega)
  simp only [show (2 : Nat) ^ 32 = 4294967296 from rfl] at this
  rw [this]; simp
theorem highU_mul (a b : Int) : highUF a b * 4294967296 + mulF a b = a * b := by unfold highUF mulF; omega
theorem sg_mul_mod {a b : Int} (h0 : 0 ≤ a) (h1 : a ≤ 4294967295) (g0 : 0 ≤ b) (g1 : b ≤ 4294967295) : sg a * sg b % 4294967296 = mulF a b := by
  unfold mulF; rw [Int.mul_emod, sg_mod h0 h1, sg_mod g0 g1]
theorem high_mul {a b : Int} (h0 : 0 ≤ a) (h1 : a ≤ 4294967295) (g0 : 0 ≤ b) (g1 : b ≤ 4294967295) : highF a b * 4294967296 + mulF a b = sg a * sg b % 18446744073709551616 := by
  rw [← sg_mul_mod h0 h1 g0 g1]; unfold highF; omega
theorem parts_h {a : Int} (h0 : 0 ≤ a) (h1 : a ≤ 4294967295) : (a - signF a 12) % 4294967296 % 4096 = 0 := by
  have e : signF a 12 = signN a 12 % 4294967296 := rfl
  rw [e]; unfold signN; simp; split <;> omega
theorem parts_whole {a : Int} (h0 : 0 ≤ a) (h1 : a ≤ 4294967295) : ((a - signF a 12) % 4294967296 + signF a 12) % 4294967296 = a := by omega
end Go.Proofs.Ytkocgnnaolnilaa
