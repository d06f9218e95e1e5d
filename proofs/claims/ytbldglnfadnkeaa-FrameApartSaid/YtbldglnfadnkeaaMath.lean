/-
  Plain facts on integers for the proofs of layer 1 (words): signed values, halves of products, quotients, shifts. Nothing of the program is named here.
-/
import Derived.WalkKit
namespace Go.Proofs.Ytbldglnfadnkeaa
open Go.RowKit
set_option linter.unusedVariables false

/-- The signed number of a word. -/
def sg (a : Int) : Int := if a < 2147483648 then a else a - 4294967296
/-- Two to the lowest five bits. -/
def pw (b : Int) : Int := 2 ^ (b % 32).toNat
def mulF (a b : Int) : Int := a * b % 4294967296
def highF (a b : Int) : Int := sg a * sg b / 4294967296 % 4294967296
def highUF (a b : Int) : Int := a * b / 4294967296
def highSUF (a b : Int) : Int := sg a * b / 4294967296 % 4294967296
def divF (a b : Int) : Int := if b = 0 then 4294967295 else (sg a).tdiv (sg b) % 4294967296
def remF (a b : Int) : Int := if b = 0 then a else (sg a).tmod (sg b) % 4294967296
def leftF (a b : Int) : Int := a * pw b % 4294967296
def rightF (a b : Int) : Int := a / pw b
def rightSF (a b : Int) : Int := sg a / pw b % 4294967296

def lessF (a b : Int) : Int := if sg a < sg b then 1 else 0
def lessUF (a b : Int) : Int := if a < b then 1 else 0
theorem wf_u32 {a : Int} (h : (Lit.int .u32 a).wf = true) : 0 ≤ a ∧ a ≤ 4294967295 := by
  simpa [Lit.wf, IntKind.min, IntKind.max, IntKind.signed, IntKind.bits] using h
theorem wf_i64 {a : Int} (h : (Lit.int .i64 a).wf = true) : -9223372036854775808 ≤ a ∧ a ≤ 9223372036854775807 := by
  simpa [Lit.wf, IntKind.min, IntKind.max, IntKind.signed, IntKind.bits] using h
theorem ret_int {k : IntKind} {a b : Int} (h : a = b) : Ending.returned (.int k a) = .returned (.int k b) := by rw [h]

theorem ret_two {k k' : IntKind} {a b c d : Int} (h : a = b) (h' : c = d) : Ending.returned (.tuple #[.int k a, .int k' c]) = .returned (.tuple #[.int k b, .int k' d]) := by rw [h, h']

theorem sg_lo {a : Int} (h0 : 0 ≤ a) (h1 : a ≤ 4294967295) : -2147483648 ≤ sg a := by unfold sg; split <;> omega
theorem sg_hi {a : Int} (h0 : 0 ≤ a) (h1 : a ≤ 4294967295) : sg a ≤ 2147483647 := by unfold sg; split <;> omega
theorem sg_mod {a : Int} (h0 : 0 ≤ a) (h1 : a ≤ 4294967295) : sg a % 4294967296 = a := by unfold sg; split <;> omega
theorem sg_zero {a : Int} (h0 : 0 ≤ a) (h1 : a ≤ 4294967295) : sg a = 0 ↔ a = 0 := by unfold sg; split <;> omega
theorem sg_wrap {a : Int} (h0 : 0 ≤ a) (h1 : a ≤ 4294967295) : wrap64 (wrap32 a) = sg a := by
  unfold wrap64 wrap32 sg; split <;> omega
theorem sg_wrap32 {a : Int} (h0 : 0 ≤ a) (h1 : a ≤ 4294967295) : wrap32 a = sg a := by
  unfold wrap32 sg; split <;> omega

theorem and31 {b : Int} (h0 : 0 ≤ b) (h1 : b ≤ 4294967295) : bits .and .u32 b 31 = b % 32 := by
  rw [u32_and b 31 h0 (by omega) (by omega) (by omega)]
  have e : (31 : Int).toNat = 2 ^ 5 - 1 := rfl
  rw [e, Nat.and_two_pow_sub_one_eq_mod]
  omega

theorem one_le_pow2 (n : Nat) : (1 : Int) ≤ 2 ^ n := by
  have h : 1 ≤ 2 ^ n := Nat.one_le_two_pow
  have h2 : ((1 : Nat) : Int) ≤ ((2 ^ n : Nat) : Int) := Int.ofNat_le.mpr h
  simpa using h2
theorem pw_lo (b : Int) : 1 ≤ pw b := one_le_pow2 _
theorem pw_hi {b : Int} (_h0 : 0 ≤ b) : pw b ≤ 2147483648 := by
  unfold pw
  have h : (b % 32).toNat ≤ 31 := by omega
  have := Nat.pow_le_pow_right (n := 2) (by omega) h
  have h2 : ((2 ^ (b % 32).toNat : Nat) : Int) ≤ ((2 ^ 31 : Nat) : Int) := by exact_mod_cast this
  simpa using h2

theorem mul_le {x y X Y : Int} (hx : -X ≤ x) (hx' : x ≤ X) (hy : -Y ≤ y) (hy' : y ≤ Y) : -(X * Y) ≤ x * y ∧ x * y ≤ X * Y := by
  have h1 : x.natAbs ≤ X.natAbs := by omega
  have h2 : y.natAbs ≤ Y.natAbs := by omega
  have h3 := Nat.mul_le_mul h1 h2
  rw [← Int.natAbs_mul, ← Int.natAbs_mul] at h3
  have h4 : 0 ≤ X * Y := Int.mul_nonneg (by omega) (by omega)
  omega
theorem mul_in {x y X Y : Int} (hx : 0 ≤ x) (hx' : x ≤ X) (hy : 0 ≤ y) (hy' : y ≤ Y) : 0 ≤ x * y ∧ x * y ≤ X * Y :=
  ⟨Int.mul_nonneg hx hy, (mul_le (X := X) (Y := Y) (by omega) hx' (by omega) hy').2⟩

theorem tmod_neg {n : Int} (M : Int) (hn : n ≤ 0) : n.tmod M = -((-n) % M) := by
  have h : n = -(-n) := by omega
  rw [h, Int.neg_tmod, Int.tmod_eq_emod_of_nonneg (by omega), Int.neg_neg]
/-- The product by halves. -/
theorem half_sum (a b : Int) : a * b = a % 65536 * (b % 65536) + 65536 * (a / 65536 * (b % 65536) + a % 65536 * (b / 65536)) + 4294967296 * (a / 65536 * (b / 65536)) := by
  have ha : a = a % 65536 + 65536 * (a / 65536) := by omega
  have hb : b = b % 65536 + 65536 * (b / 65536) := by omega
  generalize a % 65536 = al at *
  generalize a / 65536 = ah at *
  generalize b % 65536 = bl at *
  generalize b / 65536 = bh at *
  subst ha hb
  have e1 : 65536 * ah * (65536 * bh) = 4294967296 * (ah * bh) := by
    rw [Int.mul_assoc, Int.mul_left_comm ah, ← Int.mul_assoc]; rfl
  have e2 : al * (65536 * bh) = 65536 * (al * bh) := Int.mul_left_comm _ _ _
  have e3 : 65536 * ah * bl = 65536 * (ah * bl) := Int.mul_assoc _ _ _
  rw [Int.add_mul, Int.mul_add, Int.mul_add, e1, e2, e3]
  omega

theorem high_su (a b : Int) (h : a < 2147483648 → False) : (a * b / 4294967296 - b) % 4294967296 = sg a * b / 4294967296 % 4294967296 := by
  unfold sg; rw [if_neg (fun hh => h hh), Int.sub_mul]; omega
theorem high_ss (a b : Int) (h : b < 2147483648 → False) : ((sg a * b / 4294967296 % 4294967296) - a) % 4294967296 = sg a * sg b / 4294967296 % 4294967296 := by
  have e : sg b = b - 4294967296 := by unfold sg; rw [if_neg (fun hh => h hh)]
  rw [e, Int.mul_sub]
  have : sg a = a ∨ sg a = a - 4294967296 := by unfold sg; split <;> simp
  omega

theorem left_ref (a : Int) (n : Nat) (h : n < 32) : a % (4294967296 / 2 ^ n) * 2 ^ n = a * 2 ^ n % 4294967296 := by
  have e : (4294967296 : Int) = 2 ^ (32 - n) * 2 ^ n := by rw [← Int.pow_add]; have : 32 - n + n = 32 := by omega
                                                           rw [this]; rfl
  have p : (0 : Int) < 2 ^ n := by have := one_le_pow2 n; omega
  have d : (4294967296 : Int) / 2 ^ n = 2 ^ (32 - n) := by
    conv => lhs; rw [e]
    exact Int.mul_ediv_cancel _ (by omega)
  rw [d]
  conv => rhs; rw [e]
  rw [Int.mul_comm a, Int.mul_comm (2 ^ (32 - n)), Int.mul_emod_mul_of_pos _ _ p, Int.mul_comm]

theorem floor_ref (x p : Int) (hp : 0 < p) : x / p = if x < 0 ∧ x.tdiv p * p ≠ x then x.tdiv p - 1 else x.tdiv p := by
  rw [Int.tdiv_eq_ediv]
  by_cases h : 0 ≤ x ∨ p ∣ x
  · rw [if_pos h]
    rw [if_neg]
    · omega
    · rintro ⟨h1, h2⟩
      rcases h with h | h
      · omega
      · apply h2; simp; exact Int.ediv_mul_cancel h
  · rw [if_neg h]
    have hs : p.sign = 1 := Int.sign_eq_one_of_pos hp
    rw [hs, if_pos]
    · omega
    · refine ⟨by omega, ?_⟩
      intro e
      apply h; right
      exact ⟨_, by rw [Int.mul_comm]; exact e.symm⟩
theorem high_val {a b : Int} (h0 : 0 ≤ a) (h1 : a ≤ 4294967295) (g0 : 0 ≤ b) (g1 : b ≤ 4294967295) : wrap64 (wrap64 (wrap32 a) * wrap64 (wrap32 b)) = sg a * sg b := by
  rw [sg_wrap h0 h1, sg_wrap g0 g1]
  have m := mul_le (x := sg a) (y := sg b) (X := 2147483648) (Y := 2147483648) (sg_lo h0 h1) (by have := sg_hi h0 h1; omega) (sg_lo g0 g1) (by have := sg_hi g0 g1; omega)
  exact IntWalk.wrap64_in _ (by omega)
theorem high_su_val {a b : Int} (h0 : 0 ≤ a) (h1 : a ≤ 4294967295) (g0 : 0 ≤ b) (g1 : b ≤ 4294967295) : wrap64 (wrap64 (wrap32 a) * b) = sg a * b := by
  rw [sg_wrap h0 h1]
  have m := mul_le (x := sg a) (y := b) (X := 2147483648) (Y := 4294967295) (sg_lo h0 h1) (by have := sg_hi h0 h1; omega) (by omega) (by omega)
  exact IntWalk.wrap64_in _ (by omega)
theorem tdiv_in {x y : Int} (hx : -2147483648 ≤ x) (hx' : x ≤ 2147483647) : -2147483648 ≤ x.tdiv y ∧ x.tdiv y ≤ 2147483648 := by
  have h : (x.tdiv y).natAbs ≤ x.natAbs := by rw [Int.natAbs_tdiv]; exact Nat.div_le_self _ _
  omega
theorem tmod_in {x y : Int} (hy : -2147483648 ≤ y) (hy' : y ≤ 2147483647) (h0 : y ≠ 0) : -2147483648 ≤ x.tmod y ∧ x.tmod y ≤ 2147483648 := by
  have h : (x.tmod y).natAbs < y.natAbs := by rw [Int.natAbs_tmod]; exact Nat.mod_lt _ (by omega)
  omega
theorem div_ref (x y : Int) (h : y ≠ 0) : x.tdiv y = if x < 0 ∧ 0 < y ∨ 0 < x ∧ y < 0 then -((x.natAbs : Int) / (y.natAbs : Int)) else (x.natAbs : Int) / (y.natAbs : Int) := by
  by_cases hx : 0 ≤ x
  · by_cases hy : 0 ≤ y
    · have e1 : (x.natAbs : Int) = x := by omega
      have e2 : (y.natAbs : Int) = y := by omega
      rw [e1, e2, if_neg (by omega), Int.tdiv_eq_ediv_of_nonneg hx]
    · have e1 : (x.natAbs : Int) = x := by omega
      have e2 : (y.natAbs : Int) = -y := by omega
      rw [e1, e2]
      by_cases hz : x = 0
      · subst hz; simp
      · rw [if_pos (by omega), ← Int.tdiv_eq_ediv_of_nonneg hx, Int.tdiv_neg, Int.neg_neg]
  · have e1 : (x.natAbs : Int) = -x := by omega
    have hxn : 0 ≤ -x := by omega
    rw [e1]
    by_cases hy : 0 ≤ y
    · have e2 : (y.natAbs : Int) = y := by omega
      rw [e2, if_pos (by omega), ← Int.tdiv_eq_ediv_of_nonneg hxn, Int.neg_tdiv, Int.neg_neg]
    · have e2 : (y.natAbs : Int) = -y := by omega
      rw [e2, if_neg (by omega), ← Int.tdiv_eq_ediv_of_nonneg hxn, Int.neg_tdiv, Int.tdiv_neg, Int.neg_neg]
theorem rem_ref (x y : Int) : x.tmod y = if x < 0 then -((x.natAbs : Int) % (y.natAbs : Int)) else (x.natAbs : Int) % (y.natAbs : Int) := by
  have ey : x.tmod y = x.tmod (y.natAbs : Int) := by
    by_cases hy : 0 ≤ y
    · have e2 : (y.natAbs : Int) = y := by omega
      rw [e2]
    · have e2 : (y.natAbs : Int) = -y := by omega
      rw [e2, Int.tmod_neg]
  rw [ey]
  by_cases hx : x < 0
  · have e1 : (x.natAbs : Int) = -x := by omega
    rw [if_pos hx, e1, ← Int.tmod_eq_emod_of_nonneg (by omega), Int.neg_tmod, Int.neg_neg]
  · have e1 : (x.natAbs : Int) = x := by omega
    rw [if_neg hx, e1, Int.tmod_eq_emod_of_nonneg (by omega)]
theorem highUF_in {a b : Int} (h0 : 0 ≤ a) (h1 : a ≤ 4294967295) (g0 : 0 ≤ b) (g1 : b ≤ 4294967295) : 0 ≤ highUF a b ∧ highUF a b ≤ 4294967295 := by
  obtain ⟨p1, p2⟩ := mul_in (x := a) (y := b) (X := 4294967295) (Y := 4294967295) h0 h1 g0 g1
  unfold highUF; omega
theorem mod_in (x : Int) : 0 ≤ x % 4294967296 ∧ x % 4294967296 ≤ 4294967295 := by omega
theorem sg_neg {a : Int} (h : sg a < 0) (h0 : 0 ≤ a) : a < 2147483648 → False := by unfold sg at h; split at h <;> omega
theorem sg_pos {a : Int} (h : ¬ sg a < 0) (h1 : a ≤ 4294967295) : sg a = a := by unfold sg at *; split at h <;> omega
theorem high_su_end {a b : Int} (h : sg a < 0) (h0 : 0 ≤ a) : (highUF a b - b) % 4294967296 = highSUF a b := high_su a b (sg_neg h h0)
theorem high_su_end' {a b : Int} (h : ¬ sg a < 0) (h0 : 0 ≤ a) (h1 : a ≤ 4294967295) (g0 : 0 ≤ b) (g1 : b ≤ 4294967295) : highUF a b = highSUF a b := by
  have := highUF_in h0 h1 g0 g1
  unfold highSUF; rw [sg_pos h h1]; unfold highUF at *; omega
theorem high_ss_end {a b : Int} (h : sg b < 0) (g0 : 0 ≤ b) : (highSUF a b - a) % 4294967296 = highF a b := high_ss a b (sg_neg h g0)
theorem high_ss_end' {a b : Int} (h : ¬ sg b < 0) (g1 : b ≤ 4294967295) : highSUF a b = highF a b := by unfold highSUF highF; rw [sg_pos h g1]
theorem pw_step (k : Nat) (h : k < 31) : (2 : Int) ^ k ≤ 1073741824 := by
  have := Nat.pow_le_pow_right (n := 2) (by omega) (show k ≤ 30 by omega)
  have h2 : ((2 ^ k : Nat) : Int) ≤ ((2 ^ 30 : Nat) : Int) := Int.ofNat_le.mpr this
  simpa using h2
theorem pw_succ (k : Nat) : (2 : Int) * 2 ^ k = 2 ^ (k + 1) := by rw [Int.pow_succ, Int.mul_comm]
/-- The signed number in the lowest n bits. -/
def signN (a : Int) (n : Nat) : Int := if 2 ^ n / 2 ≤ a % 2 ^ n then a % 2 ^ n - 2 ^ n else a % 2 ^ n
def signF (a n : Int) : Int := if n < 1 ∨ 31 < n then a else signN a n.toNat % 4294967296
theorem sign_parts (a : Int) (n : Nat) (h1 : 1 ≤ n) (h2 : n ≤ 31) : sg (a * 2 ^ (32 - n) % 4294967296) / 2 ^ (32 - n) = signN a n := by
  have e : (4294967296 : Int) = 2 ^ n * 2 ^ (32 - n) := by
    rw [← Int.pow_add]; have : n + (32 - n) = 32 := by omega
    rw [this]; rfl
  obtain ⟨m, rfl⟩ : ∃ m, n = m + 1 := ⟨n - 1, by omega⟩
  have e2 : (2147483648 : Int) = 2 ^ m * 2 ^ (32 - (m + 1)) := by
    rw [← Int.pow_add]; have : m + (32 - (m + 1)) = 31 := by omega
    rw [this]; rfl
  have eP : (2 : Int) ^ (m + 1) = 2 * 2 ^ m := (pw_succ m).symm
  have pS := one_le_pow2 (32 - (m + 1))
  have pM := one_le_pow2 m
  unfold sg signN
  rw [e, Int.mul_comm a, Int.mul_comm (2 ^ (m + 1)), Int.mul_emod_mul_of_pos _ _ (by omega), e2]
  have hlt := Int.emod_lt_of_pos a (b := 2 ^ (m + 1)) (by omega)
  have hnn := Int.emod_nonneg a (b := 2 ^ (m + 1)) (by omega)
  generalize a % 2 ^ (m + 1) = r at *
  rw [eP] at *
  generalize (2 : Int) ^ m = M at *
  generalize (2 : Int) ^ (32 - (m + 1)) = S at *
  have hM : 2 * M / 2 = M := by omega
  rw [hM, Int.mul_comm M S]
  by_cases h : M ≤ r
  · rw [if_neg, if_pos h, ← Int.mul_sub, Int.mul_ediv_cancel_left _ (by omega)]
    have := Int.mul_le_mul_of_nonneg_left h (show 0 ≤ S by omega)
    omega
  · rw [if_pos, if_neg h, Int.mul_ediv_cancel_left _ (by omega)]
    exact Int.mul_lt_mul_of_pos_left (by omega) (by omega)
end Go.Proofs.Ytbldglnfadnkeaa
