/-
  The contracts of the functions of layer 1 (word) and of the document's own answers to it: what each call returns, and what becomes of memory.
-/
import Derived.Test.YtipfefkddnogjaaRows
import Derived.Test.YtipfefkddnogjaaMath
import Derived.WalkKit
import Derived.ProofKit
import Derived.OpenShut
import Derived.Lib.Hide
namespace Go.Proofs.Ytipfefkddnogjaa
open Go.RowKit
set_option linter.unusedVariables false

theorem c82 (a b : Int) (h0 : 0 ≤ a) (h1 : a ≤ 4294967295) (g0 : 0 ≤ b) (g1 : b ≤ 4294967295) (w : World) :
    Calls Try.prog 82 #[.int .u32 a, .int .u32 b] w fun e w' => e = .returned (.int .u32 ((a + b) % 4294967296)) ∧ w = w' := by
  go_enter Try.func82, Try.ntmps82
  go_wp2
  go_ret
  exact ⟨rfl, rfl⟩
theorem c96 (a b : Int) (h0 : 0 ≤ a) (h1 : a ≤ 4294967295) (g0 : 0 ≤ b) (g1 : b ≤ 4294967295) (w : World) :
    Calls Try.prog 96 #[.int .u32 a, .int .u32 b] w fun e w' => e = .returned (.int .u32 ((a - b) % 4294967296)) ∧ w = w' := by
  go_enter Try.func96, Try.ntmps96
  go_wp2
  go_ret
  exact ⟨rfl, rfl⟩
theorem c101 (a b : Int) (h0 : 0 ≤ a) (h1 : a ≤ 4294967295) (g0 : 0 ≤ b) (g1 : b ≤ 4294967295) (w : World) :
    Calls Try.prog 101 #[.int .u32 a, .int .u32 b] w fun e w' => e = .returned (.int .u32 (mulF a b)) ∧ w = w' := by
  go_enter Try.func101, Try.ntmps101
  go_wp2
  go_ret
  exact ⟨rfl, rfl⟩
theorem c104 (a b : Int) (h0 : 0 ≤ a) (h1 : a ≤ 4294967295) (g0 : 0 ≤ b) (g1 : b ≤ 4294967295) (w : World) :
    Calls Try.prog 104 #[.int .u32 a, .int .u32 b] w fun e w' => e = .returned (.int .u32 (highUF a b)) ∧ w = w' := by
  obtain ⟨p1, p2⟩ := mul_in (x := a) (y := b) (X := 4294967295) (Y := 4294967295) h0 h1 g0 g1
  go_enter Try.func104, Try.ntmps104
  go_wp2
  go_ret
  exact ⟨ret_int (by unfold highUF; omega), rfl⟩
theorem c102 (a b : Int) (h0 : 0 ≤ a) (h1 : a ≤ 4294967295) (g0 : 0 ≤ b) (g1 : b ≤ 4294967295) (w : World) :
    Calls Try.prog 102 #[.int .u32 a, .int .u32 b] w fun e w' => e = .returned (.int .u32 (highF a b)) ∧ w = w' := by
  go_enter Try.func102, Try.ntmps102
  go_wp2
  go_ret
  exact ⟨ret_int (by show wrap64 (wrap64 (wrap32 a) * wrap64 (wrap32 b)) / 4294967296 % 4294967296 = _; rw [high_val h0 h1 g0 g1]; rfl), rfl⟩
theorem c103 (a b : Int) (h0 : 0 ≤ a) (h1 : a ≤ 4294967295) (g0 : 0 ≤ b) (g1 : b ≤ 4294967295) (w : World) :
    Calls Try.prog 103 #[.int .u32 a, .int .u32 b] w fun e w' => e = .returned (.int .u32 (highSUF a b)) ∧ w.alloc (.cells #[.int .u32 b] 24) = w' := by
  have hmf : ∀ (fn : Fn) (first cap : Array Value) (w : World), (Instr.makeFunc fn first cap).run Try.prog w = .ok (.func fn first cap) w := fun _ _ _ _ => rfl
  go_enter Try.func103, Try.ntmps103
  go_wp2
  go_ret
  exact ⟨ret_int (by show wrap64 (wrap64 (wrap32 a) * b) / 4294967296 % 4294967296 = _; rw [high_su_val h0 h1 g0 g1]; rfl), rfl⟩
theorem c105 (a b : Int) (h0 : 0 ≤ a) (h1 : a ≤ 4294967295) (g0 : 0 ≤ b) (g1 : b ≤ 4294967295) (w : World) :
    Calls Try.prog 105 #[.int .u32 a, .int .u32 b] w fun e w' => e = .returned (.int .u32 (divF a b)) ∧ w = w' := by
  by_cases hb : b = 0
  · subst hb
    have e0 : wrap64 (wrap32 0) = 0 := by rw [sg_wrap g0 g1]; rfl
    go_enter Try.func105, Try.ntmps105
    go_wp2
    go_ret
    exact ⟨ret_int (by simp [divF]), rfl⟩
  · have ea := sg_wrap h0 h1
    have eb := sg_wrap g0 g1
    have hz : (sg b == 0) = false := by have := sg_zero g0 g1; simp; omega
    have hz' : ¬ sg b = 0 := by have := sg_zero g0 g1; omega
    have l1 := sg_lo h0 h1
    have l2 := sg_hi h0 h1
    obtain ⟨l3, l4⟩ := tdiv_in (y := sg b) l1 l2
    go_enter Try.func105, Try.ntmps105
    go_wp2
    go_ret
    exact ⟨ret_int (by unfold divF; rw [if_neg hb]), rfl⟩
theorem c107 (a b : Int) (h0 : 0 ≤ a) (h1 : a ≤ 4294967295) (g0 : 0 ≤ b) (g1 : b ≤ 4294967295) (w : World) :
    Calls Try.prog 107 #[.int .u32 a, .int .u32 b] w fun e w' => e = .returned (.int .u32 (remF a b)) ∧ w = w' := by
  have ea := sg_wrap h0 h1
  have l1 := sg_lo h0 h1
  have l2 := sg_hi h0 h1
  by_cases hb : b = 0
  · subst hb
    have e0 : wrap64 (wrap32 0) = 0 := by rw [sg_wrap g0 g1]; rfl
    go_enter Try.func107, Try.ntmps107
    go_wp2
    go_ret
    exact ⟨ret_int (by show sg a % 4294967296 = _; rw [sg_mod h0 h1]; simp [remF]), rfl⟩
  · have eb := sg_wrap g0 g1
    have hz : (sg b == 0) = false := by have := sg_zero g0 g1; simp; omega
    have hz' : ¬ sg b = 0 := by have := sg_zero g0 g1; omega
    obtain ⟨l3, l4⟩ := tmod_in (x := sg a) (y := sg b) (sg_lo g0 g1) (sg_hi g0 g1) hz'
    go_enter Try.func107, Try.ntmps107
    go_wp2
    go_ret
    exact ⟨ret_int (by unfold remF; rw [if_neg hb]), rfl⟩
/-- The unsigned quotient and remainder. -/
def divUF (a b : Int) : Int := if b = 0 then 4294967295 else a / b
def remUF (a b : Int) : Int := if b = 0 then a else a % b
theorem divU_in {a b : Int} (h0 : 0 ≤ a) (h1 : a ≤ 4294967295) (g0 : 0 ≤ b) : 0 ≤ a / b ∧ a / b ≤ 4294967295 :=
  ⟨Int.ediv_nonneg h0 g0, by have := Int.ediv_le_self b h0; omega⟩
theorem remU_in {a b : Int} (g0 : 1 ≤ b) (g1 : b ≤ 4294967295) : 0 ≤ a % b ∧ a % b ≤ 4294967295 :=
  ⟨Int.emod_nonneg _ (by omega), by have := Int.emod_lt_of_pos a (b := b) (by omega); omega⟩
theorem c106 (a b : Int) (h0 : 0 ≤ a) (h1 : a ≤ 4294967295) (g0 : 0 ≤ b) (g1 : b ≤ 4294967295) (w : World) :
    Calls Try.prog 106 #[.int .u32 a, .int .u32 b] w fun e w' => e = .returned (.int .u32 (divUF a b)) ∧ w = w' := by
  by_cases hb : b = 0
  · subst hb
    go_enter Try.func106, Try.ntmps106
    go_wp2
    go_ret
    exact ⟨ret_int (by simp [divUF]), rfl⟩
  · have hb' : 1 ≤ b := by omega
    have hz : (b == 0) = false := by simpa using hb
    obtain ⟨q0, q1⟩ := divU_in (b := b) h0 h1 g0
    go_enter Try.func106, Try.ntmps106
    go_wp2
    go_ret
    exact ⟨ret_int (by unfold divUF; rw [if_neg (by omega)]), rfl⟩
theorem c108 (a b : Int) (h0 : 0 ≤ a) (h1 : a ≤ 4294967295) (g0 : 0 ≤ b) (g1 : b ≤ 4294967295) (w : World) :
    Calls Try.prog 108 #[.int .u32 a, .int .u32 b] w fun e w' => e = .returned (.int .u32 (remUF a b)) ∧ w = w' := by
  by_cases hb : b = 0
  · subst hb
    go_enter Try.func108, Try.ntmps108
    go_wp2
    go_ret
    exact ⟨ret_int (by simp [remUF]), rfl⟩
  · have hb' : 1 ≤ b := by omega
    have hz : (b == 0) = false := by simpa using hb
    obtain ⟨q0, q1⟩ := remU_in (a := a) hb' g1
    go_enter Try.func108, Try.ntmps108
    go_wp2
    go_ret
    exact ⟨ret_int (by unfold remUF; rw [if_neg (by omega)]), rfl⟩
end Go.Proofs.Ytipfefkddnogjaa
