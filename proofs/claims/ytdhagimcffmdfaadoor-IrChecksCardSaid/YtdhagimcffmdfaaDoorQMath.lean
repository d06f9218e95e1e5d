/-
  Plain facts on integers for the proofs of layer 1 (words): signed values, halves of products, quotients, shifts. Nothing of the program is named here. The contracts of the functions of layer 1 (word) and of the document's own answers to it: what each call returns, and what becomes of memory. The contracts of the shifts, the comparisons, Sign, Parts and Whole of layer 1 (word), and of the document's own answers to them. Modules (layer 13): small tests; the fields of the page's two operations. Modules (layer 13): the tests of a procedure's view.
-/
import Derived.WalkKit
import Derived.Test.YtdhagimcffmdfaaDoorRows
import Derived.ProofKit
import Derived.OpenShut
import Derived.Lib.Hide
import Derived.Deep.QuietTactic
import Derived.BigQuiet
import Derived.Test.YtdhagimcffmdfaaDoorQFr
import Derived.Outline
namespace Go.Proofs.YtdhagimcffmdfaaDoor
open Go.RowKit
set_option linter.unusedVariables false
set_option linter.unusedSimpArgs false

/-- The signed number of a word. -/
def sg (a : Int) : Int := if a < 2147483648 then a else a - 4294967296
/-- Two to the lowest five bits. -/
def pw (b : Int) : Int := 2 ^ (b % 32).toNat
def mulF (a b : Int) : Int := a * b % 4294967296
def highF (a b : Int) : Int := sg a * sg b / 4294967296 % 4294967296
def highUF (a b : Int) : Int := a * b / 4294967296
def highSUF (a b : Int) : Int := sg a * b / 4294967296 % 4294967296
def divF (a b : Int) : Int := if b = 0 then 4294967295 else (sg a).tdiv (sg b) % 4294967296
def remF (a b : Int) : Int := if b = 0 then a else (sg a).tmod (sg b) % 4294967296
def leftF (a b : Int) : Int := a * pw b % 4294967296
def rightF (a b : Int) : Int := a / pw b
def rightSF (a b : Int) : Int := sg a / pw b % 4294967296

def lessF (a b : Int) : Int := if sg a < sg b then 1 else 0
def lessUF (a b : Int) : Int := if a < b then 1 else 0
theorem wf_u32 {a : Int} (h : (Lit.int .u32 a).wf = true) : 0 ≤ a ∧ a ≤ 4294967295 := by
  simpa [Lit.wf, IntKind.min, IntKind.max, IntKind.signed, IntKind.bits] using h
theorem wf_i64 {a : Int} (h : (Lit.int .i64 a).wf = true) : -9223372036854775808 ≤ a ∧ a ≤ 9223372036854775807 := by
  simpa [Lit.wf, IntKind.min, IntKind.max, IntKind.signed, IntKind.bits] using h
theorem ret_int {k : IntKind} {a b : Int} (h : a = b) : Ending.returned (.int k a) = .returned (.int k b) := by rw [h]

theorem ret_two {k k' : IntKind} {a b c d : Int} (h : a = b) (h' : c = d) : Ending.returned (.tuple #[.int k a, .int k' c]) = .returned (.tuple #[.int k b, .int k' d]) := by rw [h, h']

theorem sg_lo {a : Int} (h0 : 0 ≤ a) (h1 : a ≤ 4294967295) : -2147483648 ≤ sg a := by unfold sg; split <;> omega
theorem sg_hi {a : Int} (h0 : 0 ≤ a) (h1 : a ≤ 4294967295) : sg a ≤ 2147483647 := by unfold sg; split <;> omega
theorem sg_mod {a : Int} (h0 : 0 ≤ a) (h1 : a ≤ 4294967295) : sg a % 4294967296 = a := by unfold sg; split <;> omega
theorem sg_zero {a : Int} (h0 : 0 ≤ a) (h1 : a ≤ 4294967295) : sg a = 0 ↔ a = 0 := by unfold sg; split <;> omega
theorem sg_wrap {a : Int} (h0 : 0 ≤ a) (h1 : a ≤ 4294967295) : wrap64 (wrap32 a) = sg a := by
  unfold wrap64 wrap32 sg; split <;> omega
theorem sg_wrap32 {a : Int} (h0 : 0 ≤ a) (h1 : a ≤ 4294967295) : wrap32 a = sg a := by
  unfold wrap32 sg; split <;> omega

theorem and31 {b : Int} (h0 : 0 ≤ b) (h1 : b ≤ 4294967295) : bits .and .u32 b 31 = b % 32 := by
  rw [u32_and b 31 h0 (by omega) (by omega) (by omega)]
  have e : (31 : Int).toNat = 2 ^ 5 - 1 := rfl
  rw [e, Nat.and_two_pow_sub_one_eq_mod]
  omega

theorem one_le_pow2 (n : Nat) : (1 : Int) ≤ 2 ^ n := by
  have h : 1 ≤ 2 ^ n := Nat.one_le_two_pow
  have h2 : ((1 : Nat) : Int) ≤ ((2 ^ n : Nat) : Int) := Int.ofNat_le.mpr h
  simpa using h2
theorem pw_lo (b : Int) : 1 ≤ pw b := one_le_pow2 _
theorem pw_hi {b : Int} (_h0 : 0 ≤ b) : pw b ≤ 2147483648 := by
  unfold pw
  have h : (b % 32).toNat ≤ 31 := by omega
  have := Nat.pow_le_pow_right (n := 2) (by omega) h
  have h2 : ((2 ^ (b % 32).toNat : Nat) : Int) ≤ ((2 ^ 31 : Nat) : Int) := by exact_mod_cast this
  simpa using h2

theorem mul_le {x y X Y : Int} (hx : -X ≤ x) (hx' : x ≤ X) (hy : -Y ≤ y) (hy' : y ≤ Y) : -(X * Y) ≤ x * y ∧ x * y ≤ X * Y := by
  have h1 : x.natAbs ≤ X.natAbs := by omega
  have h2 : y.natAbs ≤ Y.natAbs := by omega
  have h3 := Nat.mul_le_mul h1 h2
  rw [← Int.natAbs_mul, ← Int.natAbs_mul] at h3
  have h4 : 0 ≤ X * Y := Int.mul_nonneg (by omega) (by omega)
  omega
theorem mul_in {x y X Y : Int} (hx : 0 ≤ x) (hx' : x ≤ X) (hy : 0 ≤ y) (hy' : y ≤ Y) : 0 ≤ x * y ∧ x * y ≤ X * Y :=
  ⟨Int.mul_nonneg hx hy, (mul_le (X := X) (Y := Y) (by omega) hx' (by omega) hy').2⟩

theorem tmod_neg {n : Int} (M : Int) (hn : n ≤ 0) : n.tmod M = -((-n) % M) := by
  have h : n = -(-n) := by omega
  rw [h, Int.neg_tmod, Int.tmod_eq_emod_of_nonneg (by omega), Int.neg_neg]
/-- The product by halves. -/
theorem half_sum (a b : Int) : a * b = a % 65536 * (b % 65536) + 65536 * (a / 65536 * (b % 65536) + a % 65536 * (b / 65536)) + 4294967296 * (a / 65536 * (b / 65536)) := by
  have ha : a = a % 65536 + 65536 * (a / 65536) := by omega
  have hb : b = b % 65536 + 65536 * (b / 65536) := by omega
  generalize a % 65536 = al at *
  generalize a / 65536 = ah at *
  generalize b % 65536 = bl at *
  generalize b / 65536 = bh at *
  subst ha hb
  have e1 : 65536 * ah * (65536 * bh) = 4294967296 * (ah * bh) := by
    rw [Int.mul_assoc, Int.mul_left_comm ah, ← Int.mul_assoc]; rfl
  have e2 : al * (65536 * bh) = 65536 * (al * bh) := Int.mul_left_comm _ _ _
  have e3 : 65536 * ah * bl = 65536 * (ah * bl) := Int.mul_assoc _ _ _
  rw [Int.add_mul, Int.mul_add, Int.mul_add, e1, e2, e3]
  omega

theorem high_su (a b : Int) (h : a < 2147483648 → False) : (a * b / 4294967296 - b) % 4294967296 = sg a * b / 4294967296 % 4294967296 := by
  unfold sg; rw [if_neg (fun hh => h hh), Int.sub_mul]; omega
theorem high_ss (a b : Int) (h : b < 2147483648 → False) : ((sg a * b / 4294967296 % 4294967296) - a) % 4294967296 = sg a * sg b / 4294967296 % 4294967296 := by
  have e : sg b = b - 4294967296 := by unfold sg; rw [if_neg (fun hh => h hh)]
  rw [e, Int.mul_sub]
  have : sg a = a ∨ sg a = a - 4294967296 := by unfold sg; split <;> simp
  omega

theorem left_ref (a : Int) (n : Nat) (h : n < 32) : a % (4294967296 / 2 ^ n) * 2 ^ n = a * 2 ^ n % 4294967296 := by
  have e : (4294967296 : Int) = 2 ^ (32 - n) * 2 ^ n := by rw [← Int.pow_add]; have : 32 - n + n = 32 := by omega
                                                           rw [this]; rfl
  have p : (0 : Int) < 2 ^ n := by have := one_le_pow2 n; omega
  have d : (4294967296 : Int) / 2 ^ n = 2 ^ (32 - n) := by
    conv => lhs; rw [e]
    exact Int.mul_ediv_cancel _ (by omega)
  rw [d]
  conv => rhs; rw [e]
  rw [Int.mul_comm a, Int.mul_comm (2 ^ (32 - n)), Int.mul_emod_mul_of_pos _ _ p, Int.mul_comm]

theorem floor_ref (x p : Int) (hp : 0 < p) : x / p = if x < 0 ∧ x.tdiv p * p ≠ x then x.tdiv p - 1 else x.tdiv p := by
  rw [Int.tdiv_eq_ediv]
  by_cases h : 0 ≤ x ∨ p ∣ x
  · rw [if_pos h]
    rw [if_neg]
    · omega
    · rintro ⟨h1, h2⟩
      rcases h with h | h
      · omega
      · apply h2; simp; exact Int.ediv_mul_cancel h
  · rw [if_neg h]
    have hs : p.sign = 1 := Int.sign_eq_one_of_pos hp
    rw [hs, if_pos]
    · omega
    · refine ⟨by omega, ?_⟩
      intro e
      apply h; right
      exact ⟨_, by rw [Int.mul_comm]; exact e.symm⟩
theorem high_val {a b : Int} (h0 : 0 ≤ a) (h1 : a ≤ 4294967295) (g0 : 0 ≤ b) (g1 : b ≤ 4294967295) : wrap64 (wrap64 (wrap32 a) * wrap64 (wrap32 b)) = sg a * sg b := by
  rw [sg_wrap h0 h1, sg_wrap g0 g1]
  have m := mul_le (x := sg a) (y := sg b) (X := 2147483648) (Y := 2147483648) (sg_lo h0 h1) (by have := sg_hi h0 h1; omega) (sg_lo g0 g1) (by have := sg_hi g0 g1; omega)
  exact IntWalk.wrap64_in _ (by omega)
theorem high_su_val {a b : Int} (h0 : 0 ≤ a) (h1 : a ≤ 4294967295) (g0 : 0 ≤ b) (g1 : b ≤ 4294967295) : wrap64 (wrap64 (wrap32 a) * b) = sg a * b := by
  rw [sg_wrap h0 h1]
  have m := mul_le (x := sg a) (y := b) (X := 2147483648) (Y := 4294967295) (sg_lo h0 h1) (by have := sg_hi h0 h1; omega) (by omega) (by omega)
  exact IntWalk.wrap64_in _ (by omega)
theorem tdiv_in {x y : Int} (hx : -2147483648 ≤ x) (hx' : x ≤ 2147483647) : -2147483648 ≤ x.tdiv y ∧ x.tdiv y ≤ 2147483648 := by
  have h : (x.tdiv y).natAbs ≤ x.natAbs := by rw [Int.natAbs_tdiv]; exact Nat.div_le_self _ _
  omega
theorem tmod_in {x y : Int} (hy : -2147483648 ≤ y) (hy' : y ≤ 2147483647) (h0 : y ≠ 0) : -2147483648 ≤ x.tmod y ∧ x.tmod y ≤ 2147483648 := by
  have h : (x.tmod y).natAbs < y.natAbs := by rw [Int.natAbs_tmod]; exact Nat.mod_lt _ (by omega)
  omega
theorem div_ref (x y : Int) (h : y ≠ 0) : x.tdiv y = if x < 0 ∧ 0 < y ∨ 0 < x ∧ y < 0 then -((x.natAbs : Int) / (y.natAbs : Int)) else (x.natAbs : Int) / (y.natAbs : Int) := by
  by_cases hx : 0 ≤ x
  · by_cases hy : 0 ≤ y
    · have e1 : (x.natAbs : Int) = x := by omega
      have e2 : (y.natAbs : Int) = y := by omega
      rw [e1, e2, if_neg (by omega), Int.tdiv_eq_ediv_of_nonneg hx]
    · have e1 : (x.natAbs : Int) = x := by omega
      have e2 : (y.natAbs : Int) = -y := by omega
      rw [e1, e2]
      by_cases hz : x = 0
      · subst hz; simp
      · rw [if_pos (by omega), ← Int.tdiv_eq_ediv_of_nonneg hx, Int.tdiv_neg, Int.neg_neg]
  · have e1 : (x.natAbs : Int) = -x := by omega
    have hxn : 0 ≤ -x := by omega
    rw [e1]
    by_cases hy : 0 ≤ y
    · have e2 : (y.natAbs : Int) = y := by omega
      rw [e2, if_pos (by omega), ← Int.tdiv_eq_ediv_of_nonneg hxn, Int.neg_tdiv, Int.neg_neg]
    · have e2 : (y.natAbs : Int) = -y := by omega
      rw [e2, if_neg (by omega), ← Int.tdiv_eq_ediv_of_nonneg hxn, Int.neg_tdiv, Int.tdiv_neg, Int.neg_neg]
theorem rem_ref (x y : Int) : x.tmod y = if x < 0 then -((x.natAbs : Int) % (y.natAbs : Int)) else (x.natAbs : Int) % (y.natAbs : Int) := by
  have ey : x.tmod y = x.tmod (y.natAbs : Int) := by
    by_cases hy : 0 ≤ y
    · have e2 : (y.natAbs : Int) = y := by omega
      rw [e2]
    · have e2 : (y.natAbs : Int) = -y := by omega
      rw [e2, Int.tmod_neg]
  rw [ey]
  by_cases hx : x < 0
  · have e1 : (x.natAbs : Int) = -x := by omega
    rw [if_pos hx, e1, ← Int.tmod_eq_emod_of_nonneg (by omega), Int.neg_tmod, Int.neg_neg]
  · have e1 : (x.natAbs : Int) = x := by omega
    rw [if_neg hx, e1, Int.tmod_eq_emod_of_nonneg (by omega)]
theorem highUF_in {a b : Int} (h0 : 0 ≤ a) (h1 : a ≤ 4294967295) (g0 : 0 ≤ b) (g1 : b ≤ 4294967295) : 0 ≤ highUF a b ∧ highUF a b ≤ 4294967295 := by
  obtain ⟨p1, p2⟩ := mul_in (x := a) (y := b) (X := 4294967295) (Y := 4294967295) h0 h1 g0 g1
  unfold highUF; omega
theorem mod_in (x : Int) : 0 ≤ x % 4294967296 ∧ x % 4294967296 ≤ 4294967295 := by omega
theorem sg_neg {a : Int} (h : sg a < 0) (h0 : 0 ≤ a) : a < 2147483648 → False := by unfold sg at h; split at h <;> omega
theorem sg_pos {a : Int} (h : ¬ sg a < 0) (h1 : a ≤ 4294967295) : sg a = a := by unfold sg at *; split at h <;> omega
theorem high_su_end {a b : Int} (h : sg a < 0) (h0 : 0 ≤ a) : (highUF a b - b) % 4294967296 = highSUF a b := high_su a b (sg_neg h h0)
theorem high_su_end' {a b : Int} (h : ¬ sg a < 0) (h0 : 0 ≤ a) (h1 : a ≤ 4294967295) (g0 : 0 ≤ b) (g1 : b ≤ 4294967295) : highUF a b = highSUF a b := by
  have := highUF_in h0 h1 g0 g1
  unfold highSUF; rw [sg_pos h h1]; unfold highUF at *; omega
theorem high_ss_end {a b : Int} (h : sg b < 0) (g0 : 0 ≤ b) : (highSUF a b - a) % 4294967296 = highF a b := high_ss a b (sg_neg h g0)
theorem high_ss_end' {a b : Int} (h : ¬ sg b < 0) (g1 : b ≤ 4294967295) : highSUF a b = highF a b := by unfold highSUF highF; rw [sg_pos h g1]
theorem pw_step (k : Nat) (h : k < 31) : (2 : Int) ^ k ≤ 1073741824 := by
  have := Nat.pow_le_pow_right (n := 2) (by omega) (show k ≤ 30 by omega)
  have h2 : ((2 ^ k : Nat) : Int) ≤ ((2 ^ 30 : Nat) : Int) := Int.ofNat_le.mpr this
  simpa using h2
theorem pw_succ (k : Nat) : (2 : Int) * 2 ^ k = 2 ^ (k + 1) := by rw [Int.pow_succ, Int.mul_comm]
/-- The signed number in the lowest n bits. -/
def signN (a : Int) (n : Nat) : Int := if 2 ^ n / 2 ≤ a % 2 ^ n then a % 2 ^ n - 2 ^ n else a % 2 ^ n
def signF (a n : Int) : Int := if n < 1 ∨ 31 < n then a else signN a n.toNat % 4294967296
theorem sign_parts (a : Int) (n : Nat) (h1 : 1 ≤ n) (h2 : n ≤ 31) : sg (a * 2 ^ (32 - n) % 4294967296) / 2 ^ (32 - n) = signN a n := by
  have e : (4294967296 : Int) = 2 ^ n * 2 ^ (32 - n) := by
    rw [← Int.pow_add]; have : n + (32 - n) = 32 := by omega
    rw [this]; rfl
  obtain ⟨m, rfl⟩ : ∃ m, n = m + 1 := ⟨n - 1, by omega⟩
  have e2 : (2147483648 : Int) = 2 ^ m * 2 ^ (32 - (m + 1)) := by
    rw [← Int.pow_add]; have : m + (32 - (m + 1)) = 31 := by omega
    rw [this]; rfl
  have eP : (2 : Int) ^ (m + 1) = 2 * 2 ^ m := (pw_succ m).symm
  have pS := one_le_pow2 (32 - (m + 1))
  have pM := one_le_pow2 m
  unfold sg signN
  rw [e, Int.mul_comm a, Int.mul_comm (2 ^ (m + 1)), Int.mul_emod_mul_of_pos _ _ (by omega), e2]
  have hlt := Int.emod_lt_of_pos a (b := 2 ^ (m + 1)) (by omega)
  have hnn := Int.emod_nonneg a (b := 2 ^ (m + 1)) (by omega)
  generalize a % 2 ^ (m + 1) = r at *
  rw [eP] at *
  generalize (2 : Int) ^ m = M at *
  generalize (2 : Int) ^ (32 - (m + 1)) = S at *
  have hM : 2 * M / 2 = M := by omega
  rw [hM, Int.mul_comm M S]
  by_cases h : M ≤ r
  · rw [if_neg, if_pos h, ← Int.mul_sub, Int.mul_ediv_cancel_left _ (by omega)]
    have := Int.mul_le_mul_of_nonneg_left h (show 0 ≤ S by omega)
    omega
  · rw [if_pos, if_neg h, Int.mul_ediv_cancel_left _ (by omega)]
    exact Int.mul_lt_mul_of_pos_left (by omega) (by omega)

/-- The unsigned quotient and remainder. -/
def divUF (a b : Int) : Int := if b = 0 then 4294967295 else a / b
def remUF (a b : Int) : Int := if b = 0 then a else a % b
theorem divU_in {a b : Int} (h0 : 0 ≤ a) (h1 : a ≤ 4294967295) (g0 : 0 ≤ b) : 0 ≤ a / b ∧ a / b ≤ 4294967295 :=
  ⟨Int.ediv_nonneg h0 g0, by have := Int.ediv_le_self b h0; omega⟩
theorem remU_in {a b : Int} (g0 : 1 ≤ b) (g1 : b ≤ 4294967295) : 0 ≤ a % b ∧ a % b ≤ 4294967295 :=
  ⟨Int.emod_nonneg _ (by omega), by have := Int.emod_lt_of_pos a (b := b) (by omega); omega⟩

theorem quiet_sym {P : Program} {f : FuncId} {args : Array Value} {w : World} {v : Value}
    (h : Calls P f args w fun e w' => e = .returned v ∧ w = w') : Calls P f args w fun e w' => e = .returned v ∧ w' = w :=
  h.mono fun _ _ ⟨he, hm⟩ => ⟨he, hm.symm⟩
theorem left_val {a b : Int} (g0 : 0 ≤ b) : a % (4294967296 / pw b) * pw b % 4294967296 = leftF a b := by
  unfold leftF pw
  rw [left_ref a (b % 32).toNat (by omega), Int.emod_emod_of_dvd _ (Int.dvd_refl _)]
theorem grown_trans {w w1 w2 : World} (h : Grown w w1) (h' : Grown w1 w2) : Grown w w2 :=
  ⟨World.keptBut_trans h.1 h'.1, fun a => (h'.2.1 a).trans (h.2.1 a), Nat.le_trans h.2.2 h'.2.2⟩
theorem sign_val {a n : Int} (h0 : 0 ≤ a) (h1 : a ≤ 4294967295) (hn : 1 ≤ n) (hn' : n ≤ 31) : rightSF (leftF a (32 - n)) (32 - n) = signF a n := by
  have e : ((32 - n) % 32).toNat = 32 - n.toNat := by omega
  unfold rightSF leftF signF pw
  rw [e, if_neg (by omega), sign_parts a n.toNat (by omega) (by omega)]
theorem sign12_in (a : Int) : 0 ≤ signF a 12 ∧ signF a 12 ≤ 4294967295 := by
  unfold signF; rw [if_neg (by omega)]; exact mod_in _
theorem grown_drewN {w w1 : World} (h : Grown w w1) (n : Nat) : Grown w (w1.drewN n) := h
theorem c45 (n lo hi : Int) (w : World) : Calls Tryd.prog 45 #[.int .i64 n, .int .i64 lo, .int .i64 hi] w fun e w' => e = .returned (.bool (decide (lo ≤ n) && decide (n ≤ hi))) ∧ w = w' := by
  by_cases h : lo ≤ n
  all_goals
    go_enter Tryd.func45, Tryd.ntmps45
    go_wp2
    go_ret
    refine ⟨?_, rfl⟩
    first | (simp [h]; done) | (simp [h]; omega)
theorem c26 (n c : Int) (w : World) : Calls Tryd.prog 26 #[.int .i64 n, .int .i64 c] w fun e w' => e = .returned (.bool (decide (0 ≤ n) && decide (n < c))) ∧ w = w' := by
  by_cases h : 0 ≤ n
  all_goals
    go_enter Tryd.func26, Tryd.ntmps26
    go_wp2
    go_ret
    refine ⟨?_, rfl⟩
    first | (simp [h]; done) | (simp [h]; omega)
theorem c66 (op fn : Int) (h : op ≠ 3) (h' : op ≠ 4) (w : World) : Calls Tryd.prog 66 #[.int .i64 op, .int .i64 fn] w fun e w' => e = .returned (.bool (fn == 0)) ∧ w = w' := by
  have e3 : (op == 3) = false := by simpa using h
  have e4 : (op == 4) = false := by simpa using h'
  go_enter Tryd.func66, Tryd.ntmps66
  go_wp2
  go_ret
  exact ⟨rfl, rfl⟩
set_option maxRecDepth 100000 in
set_option maxHeartbeats 4000000 in
theorem fields_in (w : World) : Calls Tryd.prog 33 #[.int .i64 11] w fun e w' => e = .returned (.agg #[.bool true, .bool true, .bool false, .bool false, .bool false, .bool false, .bool false, .bool false, .bool false, .bool false, .bool false]) ∧ Fr (fun _ => False) w w' := by
  go_enter Tryd.func33, Tryd.ntmps33
  go_wp2
  exact bodyPost_ret (v := .agg #[.bool true, .bool true, .bool false, .bool false, .bool false, .bool false, .bool false, .bool false, .bool false, .bool false, .bool false]) (by simp [results, Tryd.results33, go_sem]) rfl ⟨rfl, fr_al (fr_al (Fr.refl _ _) _) _⟩
set_option maxRecDepth 100000 in
set_option maxHeartbeats 4000000 in
theorem fields_out (w : World) : Calls Tryd.prog 33 #[.int .i64 10] w fun e w' => e = .returned (.agg #[.bool true, .bool false, .bool true, .bool false, .bool false, .bool false, .bool false, .bool false, .bool false, .bool false, .bool false]) ∧ Fr (fun _ => False) w w' := by
  go_enter Tryd.func33, Tryd.ntmps33
  go_wp2
  exact bodyPost_ret (v := .agg #[.bool true, .bool false, .bool true, .bool false, .bool false, .bool false, .bool false, .bool false, .bool false, .bool false, .bool false]) (by simp [results, Tryd.results33, go_sem]) rfl ⟨rfl, fr_al (fr_al (Fr.refl _ _) _) _⟩
set_option maxRecDepth 100000 in
set_option maxHeartbeats 4000000 in
theorem fields_con (w : World) : Calls Tryd.prog 33 #[.int .i64 1] w fun e w' => e = .returned (.agg #[.bool true, .bool true, .bool false, .bool false, .bool false, .bool false, .bool false, .bool false, .bool false, .bool true, .bool false]) ∧ Fr (fun _ => False) w w' := by
  go_enter Tryd.func33, Tryd.ntmps33
  go_wp2
  exact bodyPost_ret (v := .agg #[.bool true, .bool true, .bool false, .bool false, .bool false, .bool false, .bool false, .bool false, .bool false, .bool true, .bool false]) (by simp [results, Tryd.results33, go_sem]) rfl ⟨rfl, fr_al (fr_al (Fr.refl _ _) _) _⟩
theorem fld0 (x0 x1 x2 x3 x4 x5 x6 x7 x8 x9 x10 : Value) (w : World) : (Instr.field 66 (.agg #[x0, x1, x2, x3, x4, x5, x6, x7, x8, x9, x10]) 0).run Tryd.prog w = .ok x0 w := by kernel_rfl
theorem fld1 (x0 x1 x2 x3 x4 x5 x6 x7 x8 x9 x10 : Value) (w : World) : (Instr.field 66 (.agg #[x0, x1, x2, x3, x4, x5, x6, x7, x8, x9, x10]) 1).run Tryd.prog w = .ok x1 w := by kernel_rfl
theorem fld2 (x0 x1 x2 x3 x4 x5 x6 x7 x8 x9 x10 : Value) (w : World) : (Instr.field 66 (.agg #[x0, x1, x2, x3, x4, x5, x6, x7, x8, x9, x10]) 2).run Tryd.prog w = .ok x2 w := by kernel_rfl
theorem fld3 (x0 x1 x2 x3 x4 x5 x6 x7 x8 x9 x10 : Value) (w : World) : (Instr.field 66 (.agg #[x0, x1, x2, x3, x4, x5, x6, x7, x8, x9, x10]) 3).run Tryd.prog w = .ok x3 w := by kernel_rfl
theorem fld4 (x0 x1 x2 x3 x4 x5 x6 x7 x8 x9 x10 : Value) (w : World) : (Instr.field 66 (.agg #[x0, x1, x2, x3, x4, x5, x6, x7, x8, x9, x10]) 4).run Tryd.prog w = .ok x4 w := by kernel_rfl
theorem fld5 (x0 x1 x2 x3 x4 x5 x6 x7 x8 x9 x10 : Value) (w : World) : (Instr.field 66 (.agg #[x0, x1, x2, x3, x4, x5, x6, x7, x8, x9, x10]) 5).run Tryd.prog w = .ok x5 w := by kernel_rfl
theorem fld6 (x0 x1 x2 x3 x4 x5 x6 x7 x8 x9 x10 : Value) (w : World) : (Instr.field 66 (.agg #[x0, x1, x2, x3, x4, x5, x6, x7, x8, x9, x10]) 6).run Tryd.prog w = .ok x6 w := by kernel_rfl
theorem fld7 (x0 x1 x2 x3 x4 x5 x6 x7 x8 x9 x10 : Value) (w : World) : (Instr.field 66 (.agg #[x0, x1, x2, x3, x4, x5, x6, x7, x8, x9, x10]) 7).run Tryd.prog w = .ok x7 w := by kernel_rfl
theorem fld8 (x0 x1 x2 x3 x4 x5 x6 x7 x8 x9 x10 : Value) (w : World) : (Instr.field 66 (.agg #[x0, x1, x2, x3, x4, x5, x6, x7, x8, x9, x10]) 8).run Tryd.prog w = .ok x8 w := by kernel_rfl
theorem fld9 (x0 x1 x2 x3 x4 x5 x6 x7 x8 x9 x10 : Value) (w : World) : (Instr.field 66 (.agg #[x0, x1, x2, x3, x4, x5, x6, x7, x8, x9, x10]) 9).run Tryd.prog w = .ok x9 w := by kernel_rfl
theorem fld10 (x0 x1 x2 x3 x4 x5 x6 x7 x8 x9 x10 : Value) (w : World) : (Instr.field 66 (.agg #[x0, x1, x2, x3, x4, x5, x6, x7, x8, x9, x10]) 10).run Tryd.prog w = .ok x10 w := by kernel_rfl
set_option maxRecDepth 100000 in
set_option maxHeartbeats 4000000 in
theorem is_register (g d p m nm vd pa ob bl : Value) (R : Int) (r : Int) (w : World) : Calls Tryd.prog 71 #[.agg #[g, d, p, m, nm, vd, pa, .int .i64 R, ob, bl], .int .i64 r] w fun e w' => e = .returned (.bool (decide (0 ≤ r) && decide (r < R))) ∧ Fr (fun _ => False) w w' := by
  go_enter Tryd.func71, Tryd.ntmps71
  go_wp2_with (go_at_call 26; (with_reducible refine (c26 _ _ _).mono ?_); rintro e w2 ⟨rfl, rfl⟩)
  go_ret
  exact ⟨rfl, fr_al (Fr.refl _ _) _⟩
set_option maxRecDepth 100000 in
set_option maxHeartbeats 4000000 in
theorem register_un (g d p m nm vd pa ob bl : Value) (R : Int) (r : Int) (w : World) : Calls Tryd.prog 60 #[.agg #[g, d, p, m, nm, vd, pa, .int .i64 R, ob, bl], .int .i64 r, .bool false] w fun e w' => e = .returned (.bool (r == -1)) ∧ Fr (fun _ => False) w w' := by
  go_enter Tryd.func60, Tryd.ntmps60
  go_wp2
  go_ret
  exact ⟨rfl, fr_al (Fr.refl _ _) _⟩
set_option maxRecDepth 100000 in
set_option maxHeartbeats 4000000 in
theorem register_used (g d p m nm vd pa ob bl : Value) (R : Int) (r : Int) (w : World) : Calls Tryd.prog 60 #[.agg #[g, d, p, m, nm, vd, pa, .int .i64 R, ob, bl], .int .i64 r, .bool true] w fun e w' => e = .returned (.bool (decide (0 ≤ r) && decide (r < R))) ∧ Fr (fun _ => False) w w' := by
  go_enter Tryd.func60, Tryd.ntmps60
  go_wp2_with (go_at_call 71; (with_reducible refine (is_register _ _ _ _ _ _ _ _ _ _ _ _).mono ?_); rintro e w2 ⟨rfl, hf⟩; have HF := Lib.hid hf; clear hf)
  go_ret
  exact ⟨rfl, (fr_al (Fr.refl _ _) _).trans HF.out⟩
set_option maxRecDepth 100000 in
set_option maxHeartbeats 4000000 in
theorem def_con (g d p m nm vd pa ob bl : Value) (R : Int)  (w : World) : Calls Tryd.prog 13 #[.agg #[.int .i64 1, .int .i64 0, .int .i64 (-1), .int .i64 (-1), .int .i64 0, .int .i64 0, .int .i64 0, .int .i64 0, .int .u32 7, .slice none 0 0, .bool false]] w fun e w' => e = .returned (.int .i64 0) ∧ Fr (fun _ => False) w w' := by
  have hfi := fld1
  go_enter Tryd.func13, Tryd.ntmps13
  go_wp2_with (go_at_call 33; (with_reducible refine (fields_con _).mono ?_); rintro e w2 ⟨rfl, hf⟩; have HF := Lib.hid hf; have k1 := hf.cell (fcell w _ _ 1 _ rfl) id; clear hf)
  go_ret
  exact ⟨rfl, (fr_al (Fr.refl _ _) _).trans HF.out⟩
set_option maxRecDepth 100000 in
set_option maxHeartbeats 4000000 in
theorem void_con (g d p m nm vd pa ob bl : Value) (R : Int)  (w : World) : Calls Tryd.prog 64 #[.agg #[g, d, p, m, nm, vd, pa, .int .i64 R, ob, bl], .agg #[.int .i64 1, .int .i64 0, .int .i64 (-1), .int .i64 (-1), .int .i64 0, .int .i64 0, .int .i64 0, .int .i64 0, .int .u32 7, .slice none 0 0, .bool false]] w fun e w' => e = .returned (.bool false) ∧ Fr (fun _ => False) w w' := by
  go_enter Tryd.func64, Tryd.ntmps64
  go_wp2
  go_ret
  exact ⟨rfl, fr_al (fr_al (Fr.refl _ _) _) _⟩
set_option maxRecDepth 100000 in
set_option maxHeartbeats 4000000 in
theorem args_con (g d p m nm vd pa ob bl : Value) (R : Int)  (w : World) : Calls Tryd.prog 65 #[.agg #[g, d, p, m, nm, vd, pa, .int .i64 R, ob, bl], .agg #[.int .i64 1, .int .i64 0, .int .i64 (-1), .int .i64 (-1), .int .i64 0, .int .i64 0, .int .i64 0, .int .i64 0, .int .u32 7, .slice none 0 0, .bool false], .bool false] w fun e w' => e = .returned (.bool true) ∧ Fr (fun _ => False) w w' := by
  go_enter Tryd.func65, Tryd.ntmps65
  go_wp2
  go_ret
  exact ⟨rfl, fr_al (fr_al (Fr.refl _ _) _) _⟩
end Go.Proofs.YtdhagimcffmdfaaDoor
