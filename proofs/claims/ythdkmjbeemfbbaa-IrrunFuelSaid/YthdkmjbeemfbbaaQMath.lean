/-
  Plain facts on integers for the proofs of layer 1 (words): signed values, halves of products, quotients, shifts. Nothing of the program is named here. The contracts of the functions of layer 1 (word) and of the document's own answers to it: what each call returns, and what becomes of memory. The contracts of the shifts, the comparisons, Sign, Parts and Whole of layer 1 (word), and of the document's own answers to them.
-/
import Derived.WalkKit
import Derived.Test.YthdkmjbeemfbbaaRows
import Derived.ProofKit
import Derived.OpenShut
import Derived.Lib.Hide
import Derived.Deep.QuietTactic
import Derived.BigQuiet
namespace Go.Proofs.Ythdkmjbeemfbbaa
open Go.RowKit
set_option linter.unusedVariables false
set_option linter.unusedSimpArgs false

/-- The signed number of a word. -/
def sg (a : Int) : Int := if a < 2147483648 then a else a - 4294967296
/-- Two to the lowest five bits. -/
def pw (b : Int) : Int := 2 ^ (b % 32).toNat
def mulF (a b : Int) : Int := a * b % 4294967296
def divF (a b : Int) : Int := if b = 0 then 4294967295 else (sg a).tdiv (sg b) % 4294967296
def remF (a b : Int) : Int := if b = 0 then a else (sg a).tmod (sg b) % 4294967296
def leftF (a b : Int) : Int := a * pw b % 4294967296
def rightSF (a b : Int) : Int := sg a / pw b % 4294967296

def lessF (a b : Int) : Int := if sg a < sg b then 1 else 0
def lessUF (a b : Int) : Int := if a < b then 1 else 0
theorem wf_u32 {a : Int} (h : (Lit.int .u32 a).wf = true) : 0 ≤ a ∧ a ≤ 4294967295 := by
  simpa [Lit.wf, IntKind.min, IntKind.max, IntKind.signed, IntKind.bits] using h
theorem ret_int {k : IntKind} {a b : Int} (h : a = b) : Ending.returned (.int k a) = .returned (.int k b) := by rw [h]

theorem sg_lo {a : Int} (h0 : 0 ≤ a) (h1 : a ≤ 4294967295) : -2147483648 ≤ sg a := by unfold sg; split <;> omega
theorem sg_hi {a : Int} (h0 : 0 ≤ a) (h1 : a ≤ 4294967295) : sg a ≤ 2147483647 := by unfold sg; split <;> omega
theorem sg_mod {a : Int} (h0 : 0 ≤ a) (h1 : a ≤ 4294967295) : sg a % 4294967296 = a := by unfold sg; split <;> omega
theorem sg_zero {a : Int} (h0 : 0 ≤ a) (h1 : a ≤ 4294967295) : sg a = 0 ↔ a = 0 := by unfold sg; split <;> omega
theorem sg_wrap {a : Int} (h0 : 0 ≤ a) (h1 : a ≤ 4294967295) : wrap64 (wrap32 a) = sg a := by
  unfold wrap64 wrap32 sg; split <;> omega
theorem and31 {b : Int} (h0 : 0 ≤ b) (h1 : b ≤ 4294967295) : bits .and .u32 b 31 = b % 32 := by
  rw [u32_and b 31 h0 (by omega) (by omega) (by omega)]
  have e : (31 : Int).toNat = 2 ^ 5 - 1 := rfl
  rw [e, Nat.and_two_pow_sub_one_eq_mod]
  omega

theorem tdiv_in {x y : Int} (hx : -2147483648 ≤ x) (hx' : x ≤ 2147483647) : -2147483648 ≤ x.tdiv y ∧ x.tdiv y ≤ 2147483648 := by
  have h : (x.tdiv y).natAbs ≤ x.natAbs := by rw [Int.natAbs_tdiv]; exact Nat.div_le_self _ _
  omega
theorem tmod_in {x y : Int} (hy : -2147483648 ≤ y) (hy' : y ≤ 2147483647) (h0 : y ≠ 0) : -2147483648 ≤ x.tmod y ∧ x.tmod y ≤ 2147483648 := by
  have h : (x.tmod y).natAbs < y.natAbs := by rw [Int.natAbs_tmod]; exact Nat.mod_lt _ (by omega)
  omega

theorem c47 (a b : Int) (h0 : 0 ≤ a) (h1 : a ≤ 4294967295) (g0 : 0 ≤ b) (g1 : b ≤ 4294967295) (w : World) :
    Calls Try.prog 47 #[.int .u32 a, .int .u32 b] w fun e w' => e = .returned (.int .u32 ((a + b) % 4294967296)) ∧ w = w' := by
  go_enter Try.func47, Try.ntmps47
  go_wp2
  go_ret
  exact ⟨rfl, rfl⟩
theorem c48 (a b : Int) (h0 : 0 ≤ a) (h1 : a ≤ 4294967295) (g0 : 0 ≤ b) (g1 : b ≤ 4294967295) (w : World) :
    Calls Try.prog 48 #[.int .u32 a, .int .u32 b] w fun e w' => e = .returned (.int .u32 ((a - b) % 4294967296)) ∧ w = w' := by
  go_enter Try.func48, Try.ntmps48
  go_wp2
  go_ret
  exact ⟨rfl, rfl⟩
theorem c49 (a b : Int) (h0 : 0 ≤ a) (h1 : a ≤ 4294967295) (g0 : 0 ≤ b) (g1 : b ≤ 4294967295) (w : World) :
    Calls Try.prog 49 #[.int .u32 a, .int .u32 b] w fun e w' => e = .returned (.int .u32 (mulF a b)) ∧ w = w' := by
  go_enter Try.func49, Try.ntmps49
  go_wp2
  go_ret
  exact ⟨rfl, rfl⟩
theorem c50 (a b : Int) (h0 : 0 ≤ a) (h1 : a ≤ 4294967295) (g0 : 0 ≤ b) (g1 : b ≤ 4294967295) (w : World) :
    Calls Try.prog 50 #[.int .u32 a, .int .u32 b] w fun e w' => e = .returned (.int .u32 (divF a b)) ∧ w = w' := by
  by_cases hb : b = 0
  · subst hb
    have e0 : wrap64 (wrap32 0) = 0 := by rw [sg_wrap g0 g1]; rfl
    go_enter Try.func50, Try.ntmps50
    go_wp2
    go_ret
    exact ⟨ret_int (by simp [divF]), rfl⟩
  · have ea := sg_wrap h0 h1
    have eb := sg_wrap g0 g1
    have hz : (sg b == 0) = false := by have := sg_zero g0 g1; simp; omega
    have hz' : ¬ sg b = 0 := by have := sg_zero g0 g1; omega
    have l1 := sg_lo h0 h1
    have l2 := sg_hi h0 h1
    obtain ⟨l3, l4⟩ := tdiv_in (y := sg b) l1 l2
    go_enter Try.func50, Try.ntmps50
    go_wp2
    go_ret
    exact ⟨ret_int (by unfold divF; rw [if_neg hb]), rfl⟩
theorem c51 (a b : Int) (h0 : 0 ≤ a) (h1 : a ≤ 4294967295) (g0 : 0 ≤ b) (g1 : b ≤ 4294967295) (w : World) :
    Calls Try.prog 51 #[.int .u32 a, .int .u32 b] w fun e w' => e = .returned (.int .u32 (remF a b)) ∧ w = w' := by
  have ea := sg_wrap h0 h1
  have l1 := sg_lo h0 h1
  have l2 := sg_hi h0 h1
  by_cases hb : b = 0
  · subst hb
    have e0 : wrap64 (wrap32 0) = 0 := by rw [sg_wrap g0 g1]; rfl
    go_enter Try.func51, Try.ntmps51
    go_wp2
    go_ret
    exact ⟨ret_int (by show sg a % 4294967296 = _; rw [sg_mod h0 h1]; simp [remF]), rfl⟩
  · have eb := sg_wrap g0 g1
    have hz : (sg b == 0) = false := by have := sg_zero g0 g1; simp; omega
    have hz' : ¬ sg b = 0 := by have := sg_zero g0 g1; omega
    obtain ⟨l3, l4⟩ := tmod_in (x := sg a) (y := sg b) (sg_lo g0 g1) (sg_hi g0 g1) hz'
    go_enter Try.func51, Try.ntmps51
    go_wp2
    go_ret
    exact ⟨ret_int (by unfold remF; rw [if_neg hb]), rfl⟩

theorem c52 (a b : Int) (h0 : 0 ≤ a) (h1 : a ≤ 4294967295) (g0 : 0 ≤ b) (g1 : b ≤ 4294967295) (w : World) :
    Calls Try.prog 52 #[.int .u32 a, .int .u32 b] w fun e w' => e = .returned (.int .u32 (leftF a b)) ∧ w = w' := by
  have hb := and31 g0 g1
  go_enter Try.func52, Try.ntmps52
  go_wp2
  go_ret
  exact ⟨rfl, rfl⟩
theorem c53 (a b : Int) (h0 : 0 ≤ a) (h1 : a ≤ 4294967295) (g0 : 0 ≤ b) (g1 : b ≤ 4294967295) (w : World) :
    Calls Try.prog 53 #[.int .u32 a, .int .u32 b] w fun e w' => e = .returned (.int .u32 (rightSF a b)) ∧ w.alloc (.cells #[.int .u32 b] 31) = w' := by
  have hb := and31 g0 g1
  have hs := sg_wrap h0 h1
  have hmf : ∀ (fn : Fn) (first cap : Array Value) (w : World), (Instr.makeFunc fn first cap).run Try.prog w = .ok (.func fn first cap) w := fun _ _ _ _ => rfl
  go_enter Try.func53, Try.ntmps53
  go_wp2
  go_ret
  exact ⟨rfl, rfl⟩
theorem c55 (a b : Int) (h0 : 0 ≤ a) (h1 : a ≤ 4294967295) (g0 : 0 ≤ b) (g1 : b ≤ 4294967295) (w : World) :
    Calls Try.prog 55 #[.int .u32 a, .int .u32 b] w fun e w' => e = .returned (.int .u32 (lessF a b)) ∧ w = w' := by
  have ha := sg_wrap h0 h1
  have hb := sg_wrap g0 g1
  by_cases h : sg a < sg b
  all_goals
    go_enter Try.func55, Try.ntmps55
    go_wp2
    go_ret
    exact ⟨ret_int (by first | rw [lessF] | rw [lessUF]
                       first | rw [if_pos h] | rw [if_neg (Int.not_lt.mpr h)]), rfl⟩
end Go.Proofs.Ythdkmjbeemfbbaa
