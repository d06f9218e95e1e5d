/-
  The contracts of the document's own functions of layer 2: powers, bits moved from place to place, immediates spread and gathered.
-/
import Derived.Test.YtnjlcimeaoedcaaQRefM
import Derived.Test.YtnjlcimeaoedcaaQAwake
import Derived.IntWalk
namespace Go.Proofs.Ytnjlcimeaoedcaa
open Go.RowKit
set_option linter.unusedVariables false

theorem pow_le32 (k : Nat) (h : k ≤ 32) : (2 : Int) ^ k ≤ 4294967296 := by
  have := Nat.pow_le_pow_right (n := 2) (by omega) h
  have h2 : ((2 ^ k : Nat) : Int) ≤ ((2 ^ 32 : Nat) : Int) := Int.ofNat_le.mpr this
  simpa using h2
theorem rv70 (n : Int) (h0 : 0 ≤ n) (h1 : n ≤ 32) (w : World) :
    Calls Try.prog 52 #[.int .i64 n] w fun e w' => e = .returned (.int .i64 (2 ^ n.toNat)) ∧ w = w' := by
  go_enter Try.func52, Try.ntmps52
  go_wp2
  go_loop [3, 4] (fun p i => ∃ k : Nat, (k : Int) ≤ n ∧ i = .int .i64 k ∧ p = .int .i64 (2 ^ k)) (fun _ i => (n - intOf i).toNat)
  case atStart => exact ⟨0, by omega, rfl, rfl⟩
  case round =>
    obtain ⟨k, hk, rfl, rfl⟩ := hrel
    by_cases hlt : (k : Int) < n
    · have s1 := pow_le32 k (by omega)
      have s2 := one_le_pow2 k
      go_wp2
      go_round
      case rel => exact ⟨k + 1, by omega, by go_num, by rw [pw_succ]⟩
      case measure => simp [intOf]; omega
    · have hp := one_le_pow2 k
      go_wp2
      go_ret
      exact ⟨ret_int (by have : n.toNat = k := by omega
                         rw [this]), rfl⟩
/-- Bits f to t of a number, moved to place a. -/
def mvF (n f t a : Int) : Int := n % 4294967296 / 2 ^ f.toNat % 2 ^ (t - f + 1).toNat * 2 ^ a.toNat
theorem rv54q (m f t a : Int) (m0 : 0 ≤ m) (m1 : m < 4294967296) (f0 : 0 ≤ f) (ft : f ≤ t) (t1 : t ≤ 31) (a0 : 0 ≤ a) (hat : a + (t - f + 1) ≤ 32) :
    m / 2 ^ f.toNat % 2 ^ (t - f + 1).toNat * 2 ^ a.toNat < 4294967296 := by
  have p := one_le_pow2 f.toNat
  have q := one_le_pow2 (t - f + 1).toNat
  have r := one_le_pow2 a.toNat
  have b := Int.emod_lt_of_pos (m / 2 ^ f.toNat) (b := 2 ^ (t - f + 1).toNat) (by omega)
  have e : (2 : Int) ^ (t - f + 1).toNat * 2 ^ a.toNat = 2 ^ ((t - f + 1).toNat + a.toNat) := by rw [Int.pow_add]
  have l := pow_le32 ((t - f + 1).toNat + a.toNat) (by omega)
  have := Int.mul_lt_mul_of_pos_right b (show 0 < (2 : Int) ^ a.toNat by omega)
  omega
theorem mv_val (n m f t a : Int) (em : n % 4294967296 = m) (f0 : 0 ≤ f) (ft : f ≤ t) (t1 : t ≤ 31) (a0 : 0 ≤ a) (hat : a + (t - f + 1) ≤ 32) :
    wrap64 ((wrap64 (m / 2 ^ f.toNat)).tmod (2 ^ (t - f + 1).toNat) * 2 ^ a.toNat) = mvF n f t a := by
  unfold mvF
  rw [em]
  have m0 : 0 ≤ m := by omega
  have m1 : m < 4294967296 := by omega
  have q := rv54q m f t a m0 m1 f0 ft t1 a0 hat
  have p1 := one_le_pow2 f.toNat
  have p2 := one_le_pow2 (t - f + 1).toNat
  have p3 := one_le_pow2 a.toNat
  have g0 : 0 ≤ m / 2 ^ f.toNat := Int.ediv_nonneg (by omega) (by omega)
  have g1 : m / 2 ^ f.toNat ≤ 4294967295 := Int.le_trans (Int.ediv_le_self _ (by omega)) (by omega)
  have g2 := Int.emod_nonneg (m / 2 ^ f.toNat) (b := 2 ^ (t - f + 1).toNat) (by omega)
  have g3 := Int.mul_nonneg g2 (show 0 ≤ (2 : Int) ^ a.toNat by omega)
  rw [IntWalk.wrap64_in (m / 2 ^ f.toNat) (by omega), Int.tmod_eq_emod_of_nonneg g0, IntWalk.wrap64_in _ (by omega)]
/-- 'move' in one step. -/
def MvD (w : World) (v : Int) (e : Ending) (w' : World) : Prop := e = .returned (.int .i64 v) ∧ ∃ k, w' = w.drewN k
set_option maxHeartbeats 1000000 in
theorem rv54 (n f t a : Int) (n0 : -2147483648 ≤ n) (n1 : n ≤ 4294967295) (f0 : 0 ≤ f) (ft : f ≤ t) (t1 : t ≤ 31) (a0 : 0 ≤ a) (hat : a + (t - f + 1) ≤ 32) (w : World) :
    Calls Try.prog 73 #[.int .i64 n, .int .i64 f, .int .i64 t, .int .i64 a] w (MvD w (mvF n f t a)) := by
  have p1 := one_le_pow2 f.toNat
  have p2 := one_le_pow2 (t - f + 1).toNat
  have ew1 : IntKind.i64.wrap (t - f) = t - f := IntWalk.i64_in _ (by omega)
  have ew2 : IntKind.i64.wrap (t - f + 1) = t - f + 1 := IntWalk.i64_in _ (by omega)
  have z1 : (2 ^ f.toNat : Int) ≠ 0 := by omega
  have z2 : (2 ^ (t - f + 1).toNat : Int) ≠ 0 := by omega
  by_cases hn : n < 0
  · have V := Lib.hid (mv_val n (n + 4294967296) f t a (by omega) f0 ft t1 a0 hat)
    have hm : 0 ≤ n + 4294967296 := by omega
    have e1 : (n + 4294967296).tdiv (2 ^ f.toNat) = (n + 4294967296) / 2 ^ f.toNat := Int.tdiv_eq_ediv_of_nonneg hm
    go_enter Try.func73, Try.ntmps73
    go_wp2
    go_quiet ((go_at_call 52; exact Calls.quiet_of_same (quiet_sym (rv70 _ (by omega) (by omega) _))))
    go_wp2
    go_ret
    exact ⟨ret_int V.out, _, rfl⟩
  · have V := Lib.hid (mv_val n n f t a (by omega) f0 ft t1 a0 hat)
    have hm : 0 ≤ n := by omega
    have e1 : n.tdiv (2 ^ f.toNat) = n / 2 ^ f.toNat := Int.tdiv_eq_ediv_of_nonneg hm
    go_enter Try.func73, Try.ntmps73
    go_wp2
    go_quiet ((go_at_call 52; exact Calls.quiet_of_same (quiet_sym (rv70 _ (by omega) (by omega) _))))
    go_wp2
    go_ret
    exact ⟨ret_int V.out, _, rfl⟩
end Go.Proofs.Ytnjlcimeaoedcaa
