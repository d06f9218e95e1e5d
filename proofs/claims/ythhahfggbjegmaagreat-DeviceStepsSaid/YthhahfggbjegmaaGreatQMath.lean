/-
  Plain facts on integers for the proofs of layer 1 (words): signed values, halves of products, quotients, shifts. Nothing of the program is named here. The contracts of the functions of layer 1 (word) and of the document's own answers to it: what each call returns, and what becomes of memory.
-/
import Derived.WalkKit
import Derived.Test.YthhahfggbjegmaaGreatRows
import Derived.ProofKit
import Derived.OpenShut
import Derived.Lib.Hide
namespace Go.Proofs.YthhahfggbjegmaaGreat
open Go.RowKit
set_option linter.unusedVariables false
set_option linter.unusedSimpArgs false

/-- The signed number of a word. -/
def sg (a : Int) : Int := if a < 2147483648 then a else a - 4294967296
/-- Two to the lowest five bits. -/
def pw (b : Int) : Int := 2 ^ (b % 32).toNat
def mulF (a b : Int) : Int := a * b % 4294967296
def highF (a b : Int) : Int := sg a * sg b / 4294967296 % 4294967296
def highUF (a b : Int) : Int := a * b / 4294967296
def highSUF (a b : Int) : Int := sg a * b / 4294967296 % 4294967296
def divF (a b : Int) : Int := if b = 0 then 4294967295 else (sg a).tdiv (sg b) % 4294967296
def remF (a b : Int) : Int := if b = 0 then a else (sg a).tmod (sg b) % 4294967296
def leftF (a b : Int) : Int := a * pw b % 4294967296
def rightF (a b : Int) : Int := a / pw b
def rightSF (a b : Int) : Int := sg a / pw b % 4294967296

def lessF (a b : Int) : Int := if sg a < sg b then 1 else 0
def lessUF (a b : Int) : Int := if a < b then 1 else 0
theorem wf_u32 {a : Int} (h : (Lit.int .u32 a).wf = true) : 0 ≤ a ∧ a ≤ 4294967295 := by
  simpa [Lit.wf, IntKind.min, IntKind.max, IntKind.signed, IntKind.bits] using h
theorem wf_i64 {a : Int} (h : (Lit.int .i64 a).wf = true) : -9223372036854775808 ≤ a ∧ a ≤ 9223372036854775807 := by
  simpa [Lit.wf, IntKind.min, IntKind.max, IntKind.signed, IntKind.bits] using h
theorem ret_int {k : IntKind} {a b : Int} (h : a = b) : Ending.returned (.int k a) = .returned (.int k b) := by rw [h]

theorem ret_two {k k' : IntKind} {a b c d : Int} (h : a = b) (h' : c = d) : Ending.returned (.tuple #[.int k a, .int k' c]) = .returned (.tuple #[.int k b, .int k' d]) := by rw [h, h']

theorem sg_lo {a : Int} (h0 : 0 ≤ a) (h1 : a ≤ 4294967295) : -2147483648 ≤ sg a := by unfold sg; split <;> omega
theorem sg_hi {a : Int} (h0 : 0 ≤ a) (h1 : a ≤ 4294967295) : sg a ≤ 2147483647 := by unfold sg; split <;> omega
theorem sg_mod {a : Int} (h0 : 0 ≤ a) (h1 : a ≤ 4294967295) : sg a % 4294967296 = a := by unfold sg; split <;> omega
theorem sg_zero {a : Int} (h0 : 0 ≤ a) (h1 : a ≤ 4294967295) : sg a = 0 ↔ a = 0 := by unfold sg; split <;> omega
theorem sg_wrap {a : Int} (h0 : 0 ≤ a) (h1 : a ≤ 4294967295) : wrap64 (wrap32 a) = sg a := by
  unfold wrap64 wrap32 sg; split <;> omega
theorem sg_wrap32 {a : Int} (h0 : 0 ≤ a) (h1 : a ≤ 4294967295) : wrap32 a = sg a := by
  unfold wrap32 sg; split <;> omega

theorem and31 {b : Int} (h0 : 0 ≤ b) (h1 : b ≤ 4294967295) : bits .and .u32 b 31 = b % 32 := by
  rw [u32_and b 31 h0 (by omega) (by omega) (by omega)]
  have e : (31 : Int).toNat = 2 ^ 5 - 1 := rfl
  rw [e, Nat.and_two_pow_sub_one_eq_mod]
  omega

theorem one_le_pow2 (n : Nat) : (1 : Int) ≤ 2 ^ n := by
  have h : 1 ≤ 2 ^ n := Nat.one_le_two_pow
  have h2 : ((1 : Nat) : Int) ≤ ((2 ^ n : Nat) : Int) := Int.ofNat_le.mpr h
  simpa using h2
theorem pw_lo (b : Int) : 1 ≤ pw b := one_le_pow2 _
theorem pw_hi {b : Int} (_h0 : 0 ≤ b) : pw b ≤ 2147483648 := by
  unfold pw
  have h : (b % 32).toNat ≤ 31 := by omega
  have := Nat.pow_le_pow_right (n := 2) (by omega) h
  have h2 : ((2 ^ (b % 32).toNat : Nat) : Int) ≤ ((2 ^ 31 : Nat) : Int) := by exact_mod_cast this
  simpa using h2

theorem mul_le {x y X Y : Int} (hx : -X ≤ x) (hx' : x ≤ X) (hy : -Y ≤ y) (hy' : y ≤ Y) : -(X * Y) ≤ x * y ∧ x * y ≤ X * Y := by
  have h1 : x.natAbs ≤ X.natAbs := by omega
  have h2 : y.natAbs ≤ Y.natAbs := by omega
  have h3 := Nat.mul_le_mul h1 h2
  rw [← Int.natAbs_mul, ← Int.natAbs_mul] at h3
  have h4 : 0 ≤ X * Y := Int.mul_nonneg (by omega) (by omega)
  omega
theorem mul_in {x y X Y : Int} (hx : 0 ≤ x) (hx' : x ≤ X) (hy : 0 ≤ y) (hy' : y ≤ Y) : 0 ≤ x * y ∧ x * y ≤ X * Y :=
  ⟨Int.mul_nonneg hx hy, (mul_le (X := X) (Y := Y) (by omega) hx' (by omega) hy').2⟩

theorem tmod_neg {n : Int} (M : Int) (hn : n ≤ 0) : n.tmod M = -((-n) % M) := by
  have h : n = -(-n) := by omega
  rw [h, Int.neg_tmod, Int.tmod_eq_emod_of_nonneg (by omega), Int.neg_neg]
/-- The product by halves. -/
theorem half_sum (a b : Int) : a * b = a % 65536 * (b % 65536) + 65536 * (a / 65536 * (b % 65536) + a % 65536 * (b / 65536)) + 4294967296 * (a / 65536 * (b / 65536)) := by
  have ha : a = a % 65536 + 65536 * (a / 65536) := by omega
  have hb : b = b % 65536 + 65536 * (b / 65536) := by omega
  generalize a % 65536 = al at *
  generalize a / 65536 = ah at *
  generalize b % 65536 = bl at *
  generalize b / 65536 = bh at *
  subst ha hb
  have e1 : 65536 * ah * (65536 * bh) = 4294967296 * (ah * bh) := by
    rw [Int.mul_assoc, Int.mul_left_comm ah, ← Int.mul_assoc]; rfl
  have e2 : al * (65536 * bh) = 65536 * (al * bh) := Int.mul_left_comm _ _ _
  have e3 : 65536 * ah * bl = 65536 * (ah * bl) := Int.mul_assoc _ _ _
  rw [Int.add_mul, Int.mul_add, Int.mul_add, e1, e2, e3]
  omega

theorem high_su (a b : Int) (h : a < 2147483648 → False) : (a * b / 4294967296 - b) % 4294967296 = sg a * b / 4294967296 % 4294967296 := by
  unfold sg; rw [if_neg (fun hh => h hh), Int.sub_mul]; omega
theorem high_ss (a b : Int) (h : b < 2147483648 → False) : ((sg a * b / 4294967296 % 4294967296) - a) % 4294967296 = sg a * sg b / 4294967296 % 4294967296 := by
  have e : sg b = b - 4294967296 := by unfold sg; rw [if_neg (fun hh => h hh)]
  rw [e, Int.mul_sub]
  have : sg a = a ∨ sg a = a - 4294967296 := by unfold sg; split <;> simp
  omega

theorem left_ref (a : Int) (n : Nat) (h : n < 32) : a % (4294967296 / 2 ^ n) * 2 ^ n = a * 2 ^ n % 4294967296 := by
  have e : (4294967296 : Int) = 2 ^ (32 - n) * 2 ^ n := by rw [← Int.pow_add]; have : 32 - n + n = 32 := by omega
                                                           rw [this]; rfl
  have p : (0 : Int) < 2 ^ n := by have := one_le_pow2 n; omega
  have d : (4294967296 : Int) / 2 ^ n = 2 ^ (32 - n) := by
    conv => lhs; rw [e]
    exact Int.mul_ediv_cancel _ (by omega)
  rw [d]
  conv => rhs; rw [e]
  rw [Int.mul_comm a, Int.mul_comm (2 ^ (32 - n)), Int.mul_emod_mul_of_pos _ _ p, Int.mul_comm]

theorem floor_ref (x p : Int) (hp : 0 < p) : x / p = if x < 0 ∧ x.tdiv p * p ≠ x then x.tdiv p - 1 else x.tdiv p := by
  rw [Int.tdiv_eq_ediv]
  by_cases h : 0 ≤ x ∨ p ∣ x
  · rw [if_pos h]
    rw [if_neg]
    · omega
    · rintro ⟨h1, h2⟩
      rcases h with h | h
      · omega
      · apply h2; simp; exact Int.ediv_mul_cancel h
  · rw [if_neg h]
    have hs : p.sign = 1 := Int.sign_eq_one_of_pos hp
    rw [hs, if_pos]
    · omega
    · refine ⟨by omega, ?_⟩
      intro e
      apply h; right
      exact ⟨_, by rw [Int.mul_comm]; exact e.symm⟩
theorem high_val {a b : Int} (h0 : 0 ≤ a) (h1 : a ≤ 4294967295) (g0 : 0 ≤ b) (g1 : b ≤ 4294967295) : wrap64 (wrap64 (wrap32 a) * wrap64 (wrap32 b)) = sg a * sg b := by
  rw [sg_wrap h0 h1, sg_wrap g0 g1]
  have m := mul_le (x := sg a) (y := sg b) (X := 2147483648) (Y := 2147483648) (sg_lo h0 h1) (by have := sg_hi h0 h1; omega) (sg_lo g0 g1) (by have := sg_hi g0 g1; omega)
  exact IntWalk.wrap64_in _ (by omega)
theorem high_su_val {a b : Int} (h0 : 0 ≤ a) (h1 : a ≤ 4294967295) (g0 : 0 ≤ b) (g1 : b ≤ 4294967295) : wrap64 (wrap64 (wrap32 a) * b) = sg a * b := by
  rw [sg_wrap h0 h1]
  have m := mul_le (x := sg a) (y := b) (X := 2147483648) (Y := 4294967295) (sg_lo h0 h1) (by have := sg_hi h0 h1; omega) (by omega) (by omega)
  exact IntWalk.wrap64_in _ (by omega)
theorem tdiv_in {x y : Int} (hx : -2147483648 ≤ x) (hx' : x ≤ 2147483647) : -2147483648 ≤ x.tdiv y ∧ x.tdiv y ≤ 2147483648 := by
  have h : (x.tdiv y).natAbs ≤ x.natAbs := by rw [Int.natAbs_tdiv]; exact Nat.div_le_self _ _
  omega
theorem tmod_in {x y : Int} (hy : -2147483648 ≤ y) (hy' : y ≤ 2147483647) (h0 : y ≠ 0) : -2147483648 ≤ x.tmod y ∧ x.tmod y ≤ 2147483648 := by
  have h : (x.tmod y).natAbs < y.natAbs := by rw [Int.natAbs_tmod]; exact Nat.mod_lt _ (by omega)
  omega
theorem div_ref (x y : Int) (h : y ≠ 0) : x.tdiv y = if x < 0 ∧ 0 < y ∨ 0 < x ∧ y < 0 then -((x.natAbs : Int) / (y.natAbs : Int)) else (x.natAbs : Int) / (y.natAbs : Int) := by
  by_cases hx : 0 ≤ x
  · by_cases hy : 0 ≤ y
    · have e1 : (x.natAbs : Int) = x := by omega
      have e2 : (y.natAbs : Int) = y := by omega
      rw [e1, e2, if_neg (by omega), Int.tdiv_eq_ediv_of_nonneg hx]
    · have e1 : (x.natAbs : Int) = x := by omega
      have e2 : (y.natAbs : Int) = -y := by omega
      rw [e1, e2]
      by_cases hz : x = 0
      · subst hz; simp
      · rw [if_pos (by omega), ← Int.tdiv_eq_ediv_of_nonneg hx, Int.tdiv_neg, Int.neg_neg]
  · have e1 : (x.natAbs : Int) = -x := by omega
    have hxn : 0 ≤ -x := by omega
    rw [e1]
    by_cases hy : 0 ≤ y
    · have e2 : (y.natAbs : Int) = y := by omega
      rw [e2, if_pos (by omega), ← Int.tdiv_eq_ediv_of_nonneg hxn, Int.neg_tdiv, Int.neg_neg]
    · have e2 : (y.natAbs : Int) = -y := by omega
      rw [e2, if_neg (by omega), ← Int.tdiv_eq_ediv_of_nonneg hxn, Int.neg_tdiv, Int.tdiv_neg, Int.neg_neg]
theorem rem_ref (x y : Int) : x.tmod y = if x < 0 then -((x.natAbs : Int) % (y.natAbs : Int)) else (x.natAbs : Int) % (y.natAbs : Int) := by
  have ey : x.tmod y = x.tmod (y.natAbs : Int) := by
    by_cases hy : 0 ≤ y
    · have e2 : (y.natAbs : Int) = y := by omega
      rw [e2]
    · have e2 : (y.natAbs : Int) = -y := by omega
      rw [e2, Int.tmod_neg]
  rw [ey]
  by_cases hx : x < 0
  · have e1 : (x.natAbs : Int) = -x := by omega
    rw [if_pos hx, e1, ← Int.tmod_eq_emod_of_nonneg (by omega), Int.neg_tmod, Int.neg_neg]
  · have e1 : (x.natAbs : Int) = x := by omega
    rw [if_neg hx, e1, Int.tmod_eq_emod_of_nonneg (by omega)]
theorem highUF_in {a b : Int} (h0 : 0 ≤ a) (h1 : a ≤ 4294967295) (g0 : 0 ≤ b) (g1 : b ≤ 4294967295) : 0 ≤ highUF a b ∧ highUF a b ≤ 4294967295 := by
  obtain ⟨p1, p2⟩ := mul_in (x := a) (y := b) (X := 4294967295) (Y := 4294967295) h0 h1 g0 g1
  unfold highUF; omega
theorem mod_in (x : Int) : 0 ≤ x % 4294967296 ∧ x % 4294967296 ≤ 4294967295 := by omega
theorem sg_neg {a : Int} (h : sg a < 0) (h0 : 0 ≤ a) : a < 2147483648 → False := by unfold sg at h; split at h <;> omega
theorem sg_pos {a : Int} (h : ¬ sg a < 0) (h1 : a ≤ 4294967295) : sg a = a := by unfold sg at *; split at h <;> omega
theorem high_su_end {a b : Int} (h : sg a < 0) (h0 : 0 ≤ a) : (highUF a b - b) % 4294967296 = highSUF a b := high_su a b (sg_neg h h0)
theorem high_su_end' {a b : Int} (h : ¬ sg a < 0) (h0 : 0 ≤ a) (h1 : a ≤ 4294967295) (g0 : 0 ≤ b) (g1 : b ≤ 4294967295) : highUF a b = highSUF a b := by
  have := highUF_in h0 h1 g0 g1
  unfold highSUF; rw [sg_pos h h1]; unfold highUF at *; omega
theorem high_ss_end {a b : Int} (h : sg b < 0) (g0 : 0 ≤ b) : (highSUF a b - a) % 4294967296 = highF a b := high_ss a b (sg_neg h g0)
theorem high_ss_end' {a b : Int} (h : ¬ sg b < 0) (g1 : b ≤ 4294967295) : highSUF a b = highF a b := by unfold highSUF highF; rw [sg_pos h g1]
theorem pw_step (k : Nat) (h : k < 31) : (2 : Int) ^ k ≤ 1073741824 := by
  have := Nat.pow_le_pow_right (n := 2) (by omega) (show k ≤ 30 by omega)
  have h2 : ((2 ^ k : Nat) : Int) ≤ ((2 ^ 30 : Nat) : Int) := Int.ofNat_le.mpr this
  simpa using h2
theorem pw_succ (k : Nat) : (2 : Int) * 2 ^ k = 2 ^ (k + 1) := by rw [Int.pow_succ, Int.mul_comm]
/-- The signed number in the lowest n bits. -/
def signN (a : Int) (n : Nat) : Int := if 2 ^ n / 2 ≤ a % 2 ^ n then a % 2 ^ n - 2 ^ n else a % 2 ^ n
def signF (a n : Int) : Int := if n < 1 ∨ 31 < n then a else signN a n.toNat % 4294967296
theorem sign_parts (a : Int) (n : Nat) (h1 : 1 ≤ n) (h2 : n ≤ 31) : sg (a * 2 ^ (32 - n) % 4294967296) / 2 ^ (32 - n) = signN a n := by
  have e : (4294967296 : Int) = 2 ^ n * 2 ^ (32 - n) := by
    rw [← Int.pow_add]; have : n + (32 - n) = 32 := by omega
    rw [this]; rfl
  obtain ⟨m, rfl⟩ : ∃ m, n = m + 1 := ⟨n - 1, by omega⟩
  have e2 : (2147483648 : Int) = 2 ^ m * 2 ^ (32 - (m + 1)) := by
    rw [← Int.pow_add]; have : m + (32 - (m + 1)) = 31 := by omega
    rw [this]; rfl
  have eP : (2 : Int) ^ (m + 1) = 2 * 2 ^ m := (pw_succ m).symm
  have pS := one_le_pow2 (32 - (m + 1))
  have pM := one_le_pow2 m
  unfold sg signN
  rw [e, Int.mul_comm a, Int.mul_comm (2 ^ (m + 1)), Int.mul_emod_mul_of_pos _ _ (by omega), e2]
  have hlt := Int.emod_lt_of_pos a (b := 2 ^ (m + 1)) (by omega)
  have hnn := Int.emod_nonneg a (b := 2 ^ (m + 1)) (by omega)
  generalize a % 2 ^ (m + 1) = r at *
  rw [eP] at *
  generalize (2 : Int) ^ m = M at *
  generalize (2 : Int) ^ (32 - (m + 1)) = S at *
  have hM : 2 * M / 2 = M := by omega
  rw [hM, Int.mul_comm M S]
  by_cases h : M ≤ r
  · rw [if_neg, if_pos h, ← Int.mul_sub, Int.mul_ediv_cancel_left _ (by omega)]
    have := Int.mul_le_mul_of_nonneg_left h (show 0 ≤ S by omega)
    omega
  · rw [if_pos, if_neg h, Int.mul_ediv_cancel_left _ (by omega)]
    exact Int.mul_lt_mul_of_pos_left (by omega) (by omega)

theorem c54 (a b : Int) (h0 : 0 ≤ a) (h1 : a ≤ 4294967295) (g0 : 0 ≤ b) (g1 : b ≤ 4294967295) (w : World) :
    Calls Tryz.prog 54 #[.int .u32 a, .int .u32 b] w fun e w' => e = .returned (.int .u32 ((a + b) % 4294967296)) ∧ w = w' := by
  go_enter Tryz.func54, Tryz.ntmps54
  go_wp2
  go_ret
  exact ⟨rfl, rfl⟩
theorem c71 (a b : Int) (h0 : 0 ≤ a) (h1 : a ≤ 4294967295) (g0 : 0 ≤ b) (g1 : b ≤ 4294967295) (w : World) :
    Calls Tryz.prog 71 #[.int .u32 a, .int .u32 b] w fun e w' => e = .returned (.int .u32 ((a + b) % 4294967296)) ∧ w = w' := by
  go_enter Tryz.func71, Tryz.ntmps71
  go_wp2
  go_ret
  exact ⟨rfl, rfl⟩
theorem c93 (a b : Int) (h0 : 0 ≤ a) (h1 : a ≤ 4294967295) (g0 : 0 ≤ b) (g1 : b ≤ 4294967295) (w : World) :
    Calls Tryz.prog 93 #[.int .u32 a, .int .u32 b] w fun e w' => e = .returned (.int .u32 ((a - b) % 4294967296)) ∧ w = w' := by
  go_enter Tryz.func93, Tryz.ntmps93
  go_wp2
  go_ret
  exact ⟨rfl, rfl⟩
/-- The document's Cut, of any number. -/
theorem c44 (n : Int) (h0 : -9223372036854775808 ≤ n) (h1 : n ≤ 9223372036854775807) (w : World) :
    Calls Tryz.prog 44 #[.int .i64 n] w fun e w' => e = .returned (.int .u32 (n % 4294967296)) ∧ w = w' := by
  by_cases hn : 0 ≤ n
  · go_enter Tryz.func44, Tryz.ntmps44
    go_wp2
    all_goals go_ret
    all_goals exact ⟨ret_int (by omega), rfl⟩
  · have e := tmod_neg 4294967296 (n := n) (by omega)
    have e1 : -4294967296 < n.tmod 4294967296 := by omega
    have e2 : n.tmod 4294967296 ≤ 0 := by omega
    have H := Lib.hid e
    clear e
    go_enter Tryz.func44, Tryz.ntmps44
    go_wp2
    all_goals go_ret
    all_goals exact ⟨ret_int (by have := H.out; omega), rfl⟩
theorem c72 (a b : Int) (h0 : 0 ≤ a) (h1 : a ≤ 4294967295) (g0 : 0 ≤ b) (g1 : b ≤ 4294967295) (w : World) :
    Calls Tryz.prog 72 #[.int .u32 a, .int .u32 b] w fun e w' => e = .returned (.int .u32 ((a - b) % 4294967296)) ∧ w = w' := by
  go_enter Tryz.func72, Tryz.ntmps72
  go_wp2_with (go_at_call 44; (with_reducible refine (c44 _ (by omega) (by omega) _).mono ?_); rintro e w' ⟨rfl, rfl⟩)
  go_ret
  exact ⟨rfl, rfl⟩
theorem c111 (a b : Int) (h0 : 0 ≤ a) (h1 : a ≤ 4294967295) (g0 : 0 ≤ b) (g1 : b ≤ 4294967295) (w : World) :
    Calls Tryz.prog 111 #[.int .u32 a, .int .u32 b] w fun e w' => e = .returned (.int .u32 (mulF a b)) ∧ w = w' := by
  go_enter Tryz.func111, Tryz.ntmps111
  go_wp2
  go_ret
  exact ⟨rfl, rfl⟩
theorem c119 (a b : Int) (h0 : 0 ≤ a) (h1 : a ≤ 4294967295) (g0 : 0 ≤ b) (g1 : b ≤ 4294967295) (w : World) :
    Calls Tryz.prog 119 #[.int .u32 a, .int .u32 b] w fun e w' => e = .returned (.tuple #[.int .u32 (highUF a b), .int .u32 (mulF a b)]) ∧ w = w' := by
  have p1 := mul_in (x := a % 65536) (y := b % 65536) (X := 65535) (Y := 65535) (by omega) (by omega) (by omega) (by omega)
  have p2 := mul_in (x := a / 65536) (y := b % 65536) (X := 65535) (Y := 65535) (by omega) (by omega) (by omega) (by omega)
  have p3 := mul_in (x := a % 65536) (y := b / 65536) (X := 65535) (Y := 65535) (by omega) (by omega) (by omega) (by omega)
  have p4 := mul_in (x := a / 65536) (y := b / 65536) (X := 65535) (Y := 65535) (by omega) (by omega) (by omega) (by omega)
  obtain ⟨p11, p12⟩ := p1
  obtain ⟨p21, p22⟩ := p2
  obtain ⟨p31, p32⟩ := p3
  obtain ⟨p41, p42⟩ := p4
  have H := Lib.hid (half_sum a b)
  go_enter Tryz.func119, Tryz.ntmps119
  go_wp2
  go_ret2
  exact ⟨ret_two (by unfold highUF; have := H.out; omega) (by unfold mulF; have := H.out; omega), rfl⟩
theorem c99 (a b : Int) (h0 : 0 ≤ a) (h1 : a ≤ 4294967295) (g0 : 0 ≤ b) (g1 : b ≤ 4294967295) (w : World) :
    Calls Tryz.prog 99 #[.int .u32 a, .int .u32 b] w fun e w' => e = .returned (.int .u32 (mulF a b)) ∧ w = w' := by
  go_enter Tryz.func99, Tryz.ntmps99
  go_wp2_with (go_at_call 119; (with_reducible refine (c119 _ _ h0 h1 g0 g1 _).mono ?_); rintro e w' ⟨rfl, rfl⟩)
  go_ret
  exact ⟨rfl, rfl⟩
theorem c102 (a b : Int) (h0 : 0 ≤ a) (h1 : a ≤ 4294967295) (g0 : 0 ≤ b) (g1 : b ≤ 4294967295) (w : World) :
    Calls Tryz.prog 102 #[.int .u32 a, .int .u32 b] w fun e w' => e = .returned (.int .u32 (highUF a b)) ∧ w = w' := by
  go_enter Tryz.func102, Tryz.ntmps102
  go_wp2_with (go_at_call 119; (with_reducible refine (c119 _ _ h0 h1 g0 g1 _).mono ?_); rintro e w' ⟨rfl, rfl⟩)
  go_ret
  exact ⟨rfl, rfl⟩
theorem c114 (a b : Int) (h0 : 0 ≤ a) (h1 : a ≤ 4294967295) (g0 : 0 ≤ b) (g1 : b ≤ 4294967295) (w : World) :
    Calls Tryz.prog 114 #[.int .u32 a, .int .u32 b] w fun e w' => e = .returned (.int .u32 (highUF a b)) ∧ w = w' := by
  obtain ⟨p1, p2⟩ := mul_in (x := a) (y := b) (X := 4294967295) (Y := 4294967295) h0 h1 g0 g1
  go_enter Tryz.func114, Tryz.ntmps114
  go_wp2
  go_ret
  exact ⟨ret_int (by unfold highUF; omega), rfl⟩
theorem c68 (a : Int) (h0 : 0 ≤ a) (h1 : a ≤ 4294967295) (w : World) :
    Calls Tryz.prog 68 #[.int .u32 a] w fun e w' => e = .returned (.int .i64 (sg a)) ∧ w = w' := by
  by_cases h : a < 2147483648
  all_goals
    go_enter Tryz.func68, Tryz.ntmps68
    go_wp2
    go_ret
    exact ⟨ret_int (by unfold sg; split <;> omega), rfl⟩
theorem c120 (n : Int) (h0 : -9223372036854775807 ≤ n) (h1 : n ≤ 9223372036854775807) (w : World) :
    Calls Tryz.prog 120 #[.int .i64 n] w fun e w' => e = .returned (.int .i64 (n.natAbs : Int)) ∧ w = w' := by
  by_cases h : n < 0
  all_goals
    go_enter Tryz.func120, Tryz.ntmps120
    go_wp2
    go_ret
    exact ⟨ret_int (by omega), rfl⟩
theorem c112 (a b : Int) (h0 : 0 ≤ a) (h1 : a ≤ 4294967295) (g0 : 0 ≤ b) (g1 : b ≤ 4294967295) (w : World) :
    Calls Tryz.prog 112 #[.int .u32 a, .int .u32 b] w fun e w' => e = .returned (.int .u32 (highF a b)) ∧ w = w' := by
  go_enter Tryz.func112, Tryz.ntmps112
  go_wp2
  go_ret
  exact ⟨ret_int (by show wrap64 (wrap64 (wrap32 a) * wrap64 (wrap32 b)) / 4294967296 % 4294967296 = _; rw [high_val h0 h1 g0 g1]; rfl), rfl⟩
theorem c113 (a b : Int) (h0 : 0 ≤ a) (h1 : a ≤ 4294967295) (g0 : 0 ≤ b) (g1 : b ≤ 4294967295) (w : World) :
    Calls Tryz.prog 113 #[.int .u32 a, .int .u32 b] w fun e w' => e = .returned (.int .u32 (highSUF a b)) ∧ w.alloc (.cells #[.int .u32 b] 40) = w' := by
  have hmf : ∀ (fn : Fn) (first cap : Array Value) (w : World), (Instr.makeFunc fn first cap).run Tryz.prog w = .ok (.func fn first cap) w := fun _ _ _ _ => rfl
  go_enter Tryz.func113, Tryz.ntmps113
  go_wp2
  go_ret
  exact ⟨ret_int (by show wrap64 (wrap64 (wrap32 a) * b) / 4294967296 % 4294967296 = _; rw [high_su_val h0 h1 g0 g1]; rfl), rfl⟩
theorem c101 (a b : Int) (h0 : 0 ≤ a) (h1 : a ≤ 4294967295) (g0 : 0 ≤ b) (g1 : b ≤ 4294967295) (w : World) :
    Calls Tryz.prog 101 #[.int .u32 a, .int .u32 b] w fun e w' => e = .returned (.int .u32 (highSUF a b)) ∧ w = w' := by
  obtain ⟨l1, l2⟩ := highUF_in h0 h1 g0 g1
  by_cases h : sg a < 0
  all_goals
    go_enter Tryz.func101, Tryz.ntmps101
    go_wp2_with (first
      | (go_at_call 102; (with_reducible refine (c102 _ _ h0 h1 g0 g1 _).mono ?_); rintro e w' ⟨rfl, rfl⟩)
      | (go_at_call 68; (with_reducible refine (c68 _ h0 h1 _).mono ?_); rintro e w' ⟨rfl, rfl⟩)
      | (go_at_call 72; (with_reducible refine (c72 _ _ l1 l2 g0 g1 _).mono ?_); rintro e w' ⟨rfl, rfl⟩))
    go_ret
    exact ⟨ret_int (by first | exact high_su_end h h0 | exact high_su_end' (Int.not_lt.mpr h) h0 h1 g0 g1), rfl⟩
theorem c100 (a b : Int) (h0 : 0 ≤ a) (h1 : a ≤ 4294967295) (g0 : 0 ≤ b) (g1 : b ≤ 4294967295) (w : World) :
    Calls Tryz.prog 100 #[.int .u32 a, .int .u32 b] w fun e w' => e = .returned (.int .u32 (highF a b)) ∧ w = w' := by
  obtain ⟨l1, l2⟩ : 0 ≤ highSUF a b ∧ highSUF a b ≤ 4294967295 := mod_in _
  by_cases h : sg b < 0
  all_goals
    go_enter Tryz.func100, Tryz.ntmps100
    go_wp2_with (first
      | (go_at_call 101; (with_reducible refine (c101 _ _ h0 h1 g0 g1 _).mono ?_); rintro e w' ⟨rfl, rfl⟩)
      | (go_at_call 68; (with_reducible refine (c68 _ g0 g1 _).mono ?_); rintro e w' ⟨rfl, rfl⟩)
      | (go_at_call 72; (with_reducible refine (c72 _ _ l1 l2 h0 h1 _).mono ?_); rintro e w' ⟨rfl, rfl⟩))
    go_ret
    exact ⟨ret_int (by first | exact high_ss_end h g0 | exact high_ss_end' (Int.not_lt.mpr h) g1), rfl⟩
theorem c115 (a b : Int) (h0 : 0 ≤ a) (h1 : a ≤ 4294967295) (g0 : 0 ≤ b) (g1 : b ≤ 4294967295) (w : World) :
    Calls Tryz.prog 115 #[.int .u32 a, .int .u32 b] w fun e w' => e = .returned (.int .u32 (divF a b)) ∧ w = w' := by
  by_cases hb : b = 0
  · subst hb
    have e0 : wrap64 (wrap32 0) = 0 := by rw [sg_wrap g0 g1]; rfl
    go_enter Tryz.func115, Tryz.ntmps115
    go_wp2
    go_ret
    exact ⟨ret_int (by simp [divF]), rfl⟩
  · have ea := sg_wrap h0 h1
    have eb := sg_wrap g0 g1
    have hz : (sg b == 0) = false := by have := sg_zero g0 g1; simp; omega
    have hz' : ¬ sg b = 0 := by have := sg_zero g0 g1; omega
    have l1 := sg_lo h0 h1
    have l2 := sg_hi h0 h1
    obtain ⟨l3, l4⟩ := tdiv_in (y := sg b) l1 l2
    go_enter Tryz.func115, Tryz.ntmps115
    go_wp2
    go_ret
    exact ⟨ret_int (by unfold divF; rw [if_neg hb]), rfl⟩
theorem c117 (a b : Int) (h0 : 0 ≤ a) (h1 : a ≤ 4294967295) (g0 : 0 ≤ b) (g1 : b ≤ 4294967295) (w : World) :
    Calls Tryz.prog 117 #[.int .u32 a, .int .u32 b] w fun e w' => e = .returned (.int .u32 (remF a b)) ∧ w = w' := by
  have ea := sg_wrap h0 h1
  have l1 := sg_lo h0 h1
  have l2 := sg_hi h0 h1
  by_cases hb : b = 0
  · subst hb
    have e0 : wrap64 (wrap32 0) = 0 := by rw [sg_wrap g0 g1]; rfl
    go_enter Tryz.func117, Tryz.ntmps117
    go_wp2
    go_ret
    exact ⟨ret_int (by show sg a % 4294967296 = _; rw [sg_mod h0 h1]; simp [remF]), rfl⟩
  · have eb := sg_wrap g0 g1
    have hz : (sg b == 0) = false := by have := sg_zero g0 g1; simp; omega
    have hz' : ¬ sg b = 0 := by have := sg_zero g0 g1; omega
    obtain ⟨l3, l4⟩ := tmod_in (x := sg a) (y := sg b) (sg_lo g0 g1) (sg_hi g0 g1) hz'
    go_enter Tryz.func117, Tryz.ntmps117
    go_wp2
    go_ret
    exact ⟨ret_int (by unfold remF; rw [if_neg hb]), rfl⟩
theorem c103 (a b : Int) (h0 : 0 ≤ a) (h1 : a ≤ 4294967295) (g0 : 0 ≤ b) (g1 : b ≤ 4294967295) (w : World) :
    Calls Tryz.prog 103 #[.int .u32 a, .int .u32 b] w fun e w' => e = .returned (.int .u32 (divF a b)) ∧ w = w' := by
  by_cases hb : b = 0
  · subst hb
    have e0 : sg 0 = 0 := rfl
    go_enter Tryz.func103, Tryz.ntmps103
    go_wp2_with (first
      | (go_at_call 68; (with_reducible refine (c68 _ h0 h1 _).mono ?_); rintro e w' ⟨rfl, rfl⟩)
      | (go_at_call 68; (with_reducible refine (c68 _ g0 g1 _).mono ?_); rintro e w' ⟨rfl, rfl⟩))
    go_ret
    exact ⟨ret_int (by simp [divF]), rfl⟩
  · have hz' : ¬ sg b = 0 := by have := sg_zero g0 g1; omega
    have D := Lib.hid (div_ref (sg a) (sg b) hz')
    have hz : (sg b == 0) = false := by simpa using hz'
    have l1 := sg_lo h0 h1
    have l2 := sg_hi h0 h1
    have m1 := sg_lo g0 g1
    have m2 := sg_hi g0 g1
    have hx : sg a < 0 ∨ (0 ≤ sg a ∧ sg a ≤ 0) ∨ 0 < sg a := by omega
    have hy : sg b < 0 ∨ 0 < sg b := by omega
    have R : Hid (divF a b = (sg a).tdiv (sg b) % 4294967296) := Lib.hid (by unfold divF; rw [if_neg hb])
    generalize divF a b = d at R
    generalize hsa : sg a = x at *
    generalize hsb : sg b = y at *
    have C1 : ∀ w, Calls Tryz.prog 68 #[.int .u32 a] w fun e w' => e = .returned (.int .i64 x) ∧ w = w' := fun w => hsa ▸ c68 a h0 h1 w
    have C2 : ∀ w, Calls Tryz.prog 68 #[.int .u32 b] w fun e w' => e = .returned (.int .i64 y) ∧ w = w' := fun w => hsb ▸ c68 b g0 g1 w
    have C3 := c120 x (by omega) (by omega)
    have C4 := c120 y (by omega) (by omega)
    have k0 : 0 ≤ (x.natAbs : Int) := by omega
    have k1 : 1 ≤ (y.natAbs : Int) := by omega
    have k2 : (x.natAbs : Int) ≤ 2147483648 := by omega
    generalize (x.natAbs : Int) = X at *
    generalize (y.natAbs : Int) = Y at *
    have q0 : 0 ≤ X / Y := Int.ediv_nonneg k0 (by omega)
    have q1 : X / Y ≤ 2147483648 := by have := Int.ediv_le_self Y k0; omega
    have HC1 := Lib.hid C1
    have HC2 := Lib.hid C2
    have HC3 := Lib.hid C3
    have HC4 := Lib.hid C4
    clear C1 C2 C3 C4 hsa hsb hb
    rcases hx with hx | ⟨hx, hx'⟩ | hx <;> rcases hy with hy | hy
    all_goals
      go_enter Tryz.func103, Tryz.ntmps103
      go_wp2_with (first
        | (go_at_call 68; (with_reducible refine (HC1.out _).mono ?_); rintro e w' ⟨rfl, rfl⟩)
        | (go_at_call 68; (with_reducible refine (HC2.out _).mono ?_); rintro e w' ⟨rfl, rfl⟩)
        | (go_at_call 120; (with_reducible refine (HC3.out _).mono ?_); rintro e w' ⟨rfl, rfl⟩)
        | (go_at_call 120; (with_reducible refine (HC4.out _).mono ?_); rintro e w' ⟨rfl, rfl⟩)
        | (go_at_call 44; (with_reducible refine (c44 _ (by omega) (by omega) _).mono ?_); rintro e w' ⟨rfl, rfl⟩))
      go_ret
      refine ⟨ret_int ?_, rfl⟩
      rw [R.out, D.out]
      first | rw [if_pos (by omega)] | rw [if_neg (by omega)]
theorem c105 (a b : Int) (h0 : 0 ≤ a) (h1 : a ≤ 4294967295) (g0 : 0 ≤ b) (g1 : b ≤ 4294967295) (w : World) :
    Calls Tryz.prog 105 #[.int .u32 a, .int .u32 b] w fun e w' => e = .returned (.int .u32 (remF a b)) ∧ w = w' := by
  by_cases hb : b = 0
  · subst hb
    have e0 : sg 0 = 0 := rfl
    go_enter Tryz.func105, Tryz.ntmps105
    go_wp2_with (first
      | (go_at_call 68; (with_reducible refine (c68 _ h0 h1 _).mono ?_); rintro e w' ⟨rfl, rfl⟩)
      | (go_at_call 68; (with_reducible refine (c68 _ g0 g1 _).mono ?_); rintro e w' ⟨rfl, rfl⟩))
    go_ret
    exact ⟨ret_int (by simp [remF]), rfl⟩
  · have hz' : ¬ sg b = 0 := by have := sg_zero g0 g1; omega
    have D := Lib.hid (rem_ref (sg a) (sg b))
    have hz : (sg b == 0) = false := by simpa using hz'
    have l1 := sg_lo h0 h1
    have l2 := sg_hi h0 h1
    have m1 := sg_lo g0 g1
    have m2 := sg_hi g0 g1
    have R : Hid (remF a b = (sg a).tmod (sg b) % 4294967296) := Lib.hid (by unfold remF; rw [if_neg hb])
    generalize remF a b = d at R
    generalize hsa : sg a = x at *
    generalize hsb : sg b = y at *
    have C1 : ∀ w, Calls Tryz.prog 68 #[.int .u32 a] w fun e w' => e = .returned (.int .i64 x) ∧ w = w' := fun w => hsa ▸ c68 a h0 h1 w
    have C2 : ∀ w, Calls Tryz.prog 68 #[.int .u32 b] w fun e w' => e = .returned (.int .i64 y) ∧ w = w' := fun w => hsb ▸ c68 b g0 g1 w
    have C3 := c120 x (by omega) (by omega)
    have C4 := c120 y (by omega) (by omega)
    have k0 : 0 ≤ (x.natAbs : Int) := by omega
    have k1 : 1 ≤ (y.natAbs : Int) := by omega
    have k2 : (x.natAbs : Int) ≤ 2147483648 := by omega
    have k3 : (y.natAbs : Int) ≤ 2147483648 := by omega
    generalize (x.natAbs : Int) = X at *
    generalize (y.natAbs : Int) = Y at *
    have q0 : 0 ≤ X % Y := Int.emod_nonneg _ (by omega)
    have q1 : X % Y ≤ 2147483648 := by have := Int.emod_lt_of_pos X (b := Y) (by omega); omega
    have HC1 := Lib.hid C1
    have HC2 := Lib.hid C2
    have HC3 := Lib.hid C3
    have HC4 := Lib.hid C4
    clear C1 C2 C3 C4 hsa hsb hb
    by_cases hx : x < 0
    all_goals
      go_enter Tryz.func105, Tryz.ntmps105
      go_wp2_with (first
        | (go_at_call 68; (with_reducible refine (HC1.out _).mono ?_); rintro e w' ⟨rfl, rfl⟩)
        | (go_at_call 68; (with_reducible refine (HC2.out _).mono ?_); rintro e w' ⟨rfl, rfl⟩)
        | (go_at_call 120; (with_reducible refine (HC3.out _).mono ?_); rintro e w' ⟨rfl, rfl⟩)
        | (go_at_call 120; (with_reducible refine (HC4.out _).mono ?_); rintro e w' ⟨rfl, rfl⟩)
        | (go_at_call 44; (with_reducible refine (c44 _ (by omega) (by omega) _).mono ?_); rintro e w' ⟨rfl, rfl⟩))
      go_ret
      refine ⟨ret_int ?_, rfl⟩
      rw [R.out, D.out]
      first | rw [if_pos (by omega)] | rw [if_neg (by omega)]
/-- The unsigned quotient and remainder. -/
def divUF (a b : Int) : Int := if b = 0 then 4294967295 else a / b
def remUF (a b : Int) : Int := if b = 0 then a else a % b
theorem divU_in {a b : Int} (h0 : 0 ≤ a) (h1 : a ≤ 4294967295) (g0 : 0 ≤ b) : 0 ≤ a / b ∧ a / b ≤ 4294967295 :=
  ⟨Int.ediv_nonneg h0 g0, by have := Int.ediv_le_self b h0; omega⟩
theorem remU_in {a b : Int} (g0 : 1 ≤ b) (g1 : b ≤ 4294967295) : 0 ≤ a % b ∧ a % b ≤ 4294967295 :=
  ⟨Int.emod_nonneg _ (by omega), by have := Int.emod_lt_of_pos a (b := b) (by omega); omega⟩
theorem c116 (a b : Int) (h0 : 0 ≤ a) (h1 : a ≤ 4294967295) (g0 : 0 ≤ b) (g1 : b ≤ 4294967295) (w : World) :
    Calls Tryz.prog 116 #[.int .u32 a, .int .u32 b] w fun e w' => e = .returned (.int .u32 (divUF a b)) ∧ w = w' := by
  by_cases hb : b = 0
  · subst hb
    go_enter Tryz.func116, Tryz.ntmps116
    go_wp2
    go_ret
    exact ⟨ret_int (by simp [divUF]), rfl⟩
  · have hb' : 1 ≤ b := by omega
    have hz : (b == 0) = false := by simpa using hb
    obtain ⟨q0, q1⟩ := divU_in (b := b) h0 h1 g0
    go_enter Tryz.func116, Tryz.ntmps116
    go_wp2
    go_ret
    exact ⟨ret_int (by unfold divUF; rw [if_neg (by omega)]), rfl⟩
theorem c104 (a b : Int) (h0 : 0 ≤ a) (h1 : a ≤ 4294967295) (g0 : 0 ≤ b) (g1 : b ≤ 4294967295) (w : World) :
    Calls Tryz.prog 104 #[.int .u32 a, .int .u32 b] w fun e w' => e = .returned (.int .u32 (divUF a b)) ∧ w = w' := by
  by_cases hb : b = 0
  · subst hb
    go_enter Tryz.func104, Tryz.ntmps104
    go_wp2
    go_ret
    exact ⟨ret_int (by simp [divUF]), rfl⟩
  · have hb' : 1 ≤ b := by omega
    have hz : (b == 0) = false := by simpa using hb
    obtain ⟨q0, q1⟩ := divU_in (b := b) h0 h1 g0
    go_enter Tryz.func104, Tryz.ntmps104
    go_wp2
    go_ret
    exact ⟨ret_int (by unfold divUF; rw [if_neg (by omega)]), rfl⟩
theorem c118 (a b : Int) (h0 : 0 ≤ a) (h1 : a ≤ 4294967295) (g0 : 0 ≤ b) (g1 : b ≤ 4294967295) (w : World) :
    Calls Tryz.prog 118 #[.int .u32 a, .int .u32 b] w fun e w' => e = .returned (.int .u32 (remUF a b)) ∧ w = w' := by
  by_cases hb : b = 0
  · subst hb
    go_enter Tryz.func118, Tryz.ntmps118
    go_wp2
    go_ret
    exact ⟨ret_int (by simp [remUF]), rfl⟩
  · have hb' : 1 ≤ b := by omega
    have hz : (b == 0) = false := by simpa using hb
    obtain ⟨q0, q1⟩ := remU_in (a := a) hb' g1
    go_enter Tryz.func118, Tryz.ntmps118
    go_wp2
    go_ret
    exact ⟨ret_int (by unfold remUF; rw [if_neg (by omega)]), rfl⟩
theorem c106 (a b : Int) (h0 : 0 ≤ a) (h1 : a ≤ 4294967295) (g0 : 0 ≤ b) (g1 : b ≤ 4294967295) (w : World) :
    Calls Tryz.prog 106 #[.int .u32 a, .int .u32 b] w fun e w' => e = .returned (.int .u32 (remUF a b)) ∧ w = w' := by
  by_cases hb : b = 0
  · subst hb
    go_enter Tryz.func106, Tryz.ntmps106
    go_wp2
    go_ret
    exact ⟨ret_int (by simp [remUF]), rfl⟩
  · have hb' : 1 ≤ b := by omega
    have hz : (b == 0) = false := by simpa using hb
    obtain ⟨q0, q1⟩ := remU_in (a := a) hb' g1
    go_enter Tryz.func106, Tryz.ntmps106
    go_wp2
    go_ret
    exact ⟨ret_int (by unfold remUF; rw [if_neg (by omega)]), rfl⟩
end Go.Proofs.YthhahfggbjegmaaGreat
