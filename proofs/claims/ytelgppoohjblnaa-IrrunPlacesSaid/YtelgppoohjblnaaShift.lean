/-
  The contracts of the shifts, the comparisons, Sign, Parts and Whole of layer 1 (word), and of the document's own answers to them.
-/
import Derived.Test.YtelgppoohjblnaaWord
import Derived.Deep.QuietTactic
import Derived.BigQuiet
namespace Go.Proofs.Ytelgppoohjblnaa
open Go.RowKit
set_option linter.unusedVariables false

theorem c50 (b : Int) (g0 : 0 ≤ b) (g1 : b ≤ 4294967295) (w : World) :
    Calls Try.prog 50 #[.int .u32 b] w fun e w' => e = .returned (.int .i64 (pw b)) ∧ w = w' := by
  have hb : b % 32 < 32 := by omega
  go_enter Try.func50, Try.ntmps50
  go_wp2
  go_loop [3, 4] (fun p i => ∃ k : Nat, (k : Int) ≤ b % 32 ∧ i = .int .i64 k ∧ p = .int .i64 (2 ^ k)) (fun _ i => (b % 32 - intOf i).toNat)
  case atStart => exact ⟨0, by omega, rfl, rfl⟩
  case round =>
    obtain ⟨k, hk, rfl, rfl⟩ := hrel
    by_cases hlt : (k : Int) < b % 32
    · have s1 := pw_step k (by omega)
      have s2 := one_le_pow2 k
      go_wp2
      go_round
      case rel => exact ⟨k + 1, by omega, by go_num, by rw [pw_succ]⟩
      case measure => simp [intOf]; omega
    · have hp := one_le_pow2 k
      go_wp2
      go_ret
      exact ⟨ret_int (by show (2 : Int) ^ k = pw b; unfold pw; have : (b % 32).toNat = k := by omega
                         rw [this]), rfl⟩
theorem c16 (a b : Int) (h0 : 0 ≤ a) (h1 : a ≤ 4294967295) (g0 : 0 ≤ b) (g1 : b ≤ 4294967295) (w : World) :
    Calls Try.prog 16 #[.int .u32 a, .int .u32 b] w fun e w' => e = .returned (.int .u32 (leftF a b)) ∧ w = w' := by
  have hb := and31 g0 g1
  go_enter Try.func16, Try.ntmps16
  go_wp2
  go_ret
  exact ⟨rfl, rfl⟩
theorem c17 (a b : Int) (h0 : 0 ≤ a) (h1 : a ≤ 4294967295) (g0 : 0 ≤ b) (g1 : b ≤ 4294967295) (w : World) :
    Calls Try.prog 17 #[.int .u32 a, .int .u32 b] w fun e w' => e = .returned (.int .u32 (rightSF a b)) ∧ w.alloc (.cells #[.int .u32 b] 22) = w' := by
  have hb := and31 g0 g1
  have hs := sg_wrap h0 h1
  have hmf : ∀ (fn : Fn) (first cap : Array Value) (w : World), (Instr.makeFunc fn first cap).run Try.prog w = .ok (.func fn first cap) w := fun _ _ _ _ => rfl
  go_enter Try.func17, Try.ntmps17
  go_wp2
  go_ret
  exact ⟨rfl, rfl⟩
theorem quiet_sym {P : Program} {f : FuncId} {args : Array Value} {w : World} {v : Value}
    (h : Calls P f args w fun e w' => e = .returned v ∧ w = w') : Calls P f args w fun e w' => e = .returned v ∧ w' = w :=
  h.mono fun _ _ ⟨he, hm⟩ => ⟨he, hm.symm⟩
theorem left_val {a b : Int} (g0 : 0 ≤ b) : a % (4294967296 / pw b) * pw b % 4294967296 = leftF a b := by
  unfold leftF pw
  rw [left_ref a (b % 32).toNat (by omega), Int.emod_emod_of_dvd _ (Int.dvd_refl _)]
theorem c39 (a b : Int) (h0 : 0 ≤ a) (h1 : a ≤ 4294967295) (g0 : 0 ≤ b) (g1 : b ≤ 4294967295) (w : World) :
    Calls Try.prog 39 #[.int .u32 a, .int .u32 b] w fun e w' => e = .returned (.int .u32 (leftF a b)) ∧ ∃ n, w' = w.drewN n := by
  have p1 := pw_lo b
  have p2 := pw_hi g0
  have q0 : 2 ≤ 4294967296 / pw b := by
    have := Int.ediv_mul_le 4294967296 (show pw b ≠ 0 by omega)
    have h : 2 * pw b ≤ 4294967296 := by omega
    exact (Int.le_ediv_iff_mul_le (by omega)).mpr h
  have q1 : 4294967296 / pw b ≤ 4294967296 := Int.ediv_le_self _ (by omega)
  have hp : (pw b == 0) = false := by simp; omega
  have hq : (4294967296 / pw b == 0) = false := by simp; omega
  have r0 : 0 ≤ a % (4294967296 / pw b) := Int.emod_nonneg _ (by omega)
  have r1 : a % (4294967296 / pw b) ≤ 4294967295 := by have := Int.emod_lt_of_pos a (b := 4294967296 / pw b) (by omega); omega
  obtain ⟨s0, s1⟩ := mul_in r0 r1 (show 0 ≤ pw b by omega) p2
  have H := Lib.hid (left_val (a := a) g0)
  go_enter Try.func39, Try.ntmps39
  go_wp2
  go_quiet ((first
    | (go_at_call 50; exact Calls.quiet_of_same (quiet_sym (c50 _ g0 g1 _)))
    | (go_at_call 35; exact Calls.quiet_of_same (quiet_sym (c35 _ (by omega) (by omega) _)))))
  go_wp2
  go_ret
  exact ⟨ret_int H.out, _, rfl⟩
theorem c40 (a b : Int) (h0 : 0 ≤ a) (h1 : a ≤ 4294967295) (g0 : 0 ≤ b) (g1 : b ≤ 4294967295) (w : World) :
    Calls Try.prog 40 #[.int .u32 a, .int .u32 b] w fun e w' => e = .returned (.int .u32 (rightSF a b)) ∧ w = w' := by
  have p1 := pw_lo b
  have p2 := pw_hi g0
  have hp : (pw b == 0) = false := by simp; omega
  have hp' : ¬ pw b = 0 := by omega
  have F := Lib.hid (floor_ref (sg a) (pw b) (by omega))
  have l1 := sg_lo h0 h1
  have l2 := sg_hi h0 h1
  obtain ⟨t1, t2⟩ := tdiv_in (y := pw b) l1 l2
  obtain ⟨u1, u2⟩ := mul_le (X := 2147483648) (Y := 2147483648) t1 t2 (by omega) p2
  go_enter Try.func40, Try.ntmps40
  go_wp2_with (first
    | (go_at_call 50; (with_reducible refine (c50 _ g0 g1 _).mono ?_); rintro e w' ⟨rfl, rfl⟩)
    | (go_at_call 33; (with_reducible refine (c33 _ h0 h1 _).mono ?_); rintro e w' ⟨rfl, rfl⟩)
    | (go_at_call 35; (with_reducible refine (c35 _ (by omega) (by omega) _).mono ?_); rintro e w' ⟨rfl, rfl⟩))
  all_goals go_ret
  all_goals refine ⟨ret_int ?_, rfl⟩
  all_goals unfold rightSF
  all_goals rw [F.out]
  · rw [if_pos ⟨by assumption, by simp_all⟩]
  · rw [if_neg (by simp_all)]
  · rw [if_neg (by omega)]
theorem c19 (a b : Int) (h0 : 0 ≤ a) (h1 : a ≤ 4294967295) (g0 : 0 ≤ b) (g1 : b ≤ 4294967295) (w : World) :
    Calls Try.prog 19 #[.int .u32 a, .int .u32 b] w fun e w' => e = .returned (.int .u32 (lessF a b)) ∧ w = w' := by
  have ha := sg_wrap h0 h1
  have hb := sg_wrap g0 g1
  by_cases h : sg a < sg b
  all_goals
    go_enter Try.func19, Try.ntmps19
    go_wp2
    go_ret
    exact ⟨ret_int (by first | rw [lessF] | rw [lessUF]
                       first | rw [if_pos h] | rw [if_neg (Int.not_lt.mpr h)]), rfl⟩
theorem grown_trans {w w1 w2 : World} (h : Grown w w1) (h' : Grown w1 w2) : Grown w w2 :=
  ⟨World.keptBut_trans h.1 h'.1, fun a => (h'.2.1 a).trans (h.2.1 a), Nat.le_trans h.2.2 h'.2.2⟩
theorem sign_val {a n : Int} (h0 : 0 ≤ a) (h1 : a ≤ 4294967295) (hn : 1 ≤ n) (hn' : n ≤ 31) : rightSF (leftF a (32 - n)) (32 - n) = signF a n := by
  have e : ((32 - n) % 32).toNat = 32 - n.toNat := by omega
  unfold rightSF leftF signF pw
  rw [e, if_neg (by omega), sign_parts a n.toNat (by omega) (by omega)]
theorem sign12_in (a : Int) : 0 ≤ signF a 12 ∧ signF a 12 ≤ 4294967295 := by
  unfold signF; rw [if_neg (by omega)]; exact mod_in _
theorem grown_drewN {w w1 : World} (h : Grown w w1) (n : Nat) : Grown w (w1.drewN n) := h
theorem g40 (a b : Int) (h0 : 0 ≤ a) (h1 : a ≤ 4294967295) (g0 : 0 ≤ b) (g1 : b ≤ 4294967295) (w : World) :
    Calls Try.prog 17 #[.int .u32 a, .int .u32 b] w fun e w' => e = .returned (.int .u32 (rightSF a b)) ∧ Grown w w' :=
  (c17 a b h0 h1 g0 g1 w).mono fun _ _ ⟨he, hw⟩ => ⟨he, hw ▸ (Grown.refl _).alloc _ _⟩
theorem g37 (a b : Int) (h0 : 0 ≤ a) (h1 : a ≤ 4294967295) (g0 : 0 ≤ b) (g1 : b ≤ 4294967295) (w : World) :
    Calls Try.prog 39 #[.int .u32 a, .int .u32 b] w fun e w' => e = .returned (.int .u32 (leftF a b)) ∧ Grown w w' :=
  (c39 a b h0 h1 g0 g1 w).mono fun _ _ ⟨he, n, hw⟩ => ⟨he, hw ▸ grown_drewN (Grown.refl _) n⟩
end Go.Proofs.Ytelgppoohjblnaa
