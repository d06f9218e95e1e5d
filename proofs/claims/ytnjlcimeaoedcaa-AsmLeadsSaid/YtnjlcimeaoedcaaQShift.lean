/-
  The contracts of the shifts, the comparisons, Sign, Parts and Whole of layer 1 (word), and of the document's own answers to them.
-/
import Derived.Test.YtnjlcimeaoedcaaQWord
import Derived.Deep.QuietTactic
import Derived.BigQuiet
namespace Go.Proofs.Ytnjlcimeaoedcaa
open Go.RowKit
set_option linter.unusedVariables false

theorem c75 (a b : Int) (h0 : 0 ≤ a) (h1 : a ≤ 4294967295) (g0 : 0 ≤ b) (g1 : b ≤ 4294967295) (w : World) :
    Calls Try.prog 75 #[.int .u32 a, .int .u32 b] w fun e w' => e = .returned (.int .u32 (leftF a b)) ∧ w = w' := by
  have hb := and31 g0 g1
  go_enter Try.func75, Try.ntmps75
  go_wp2
  go_ret
  exact ⟨rfl, rfl⟩
theorem c74 (a b : Int) (h0 : 0 ≤ a) (h1 : a ≤ 4294967295) (g0 : 0 ≤ b) (g1 : b ≤ 4294967295) (w : World) :
    Calls Try.prog 74 #[.int .u32 a, .int .u32 b] w fun e w' => e = .returned (.int .u32 (rightSF a b)) ∧ w.alloc (.cells #[.int .u32 b] 35) = w' := by
  have hb := and31 g0 g1
  have hs := sg_wrap h0 h1
  have hmf : ∀ (fn : Fn) (first cap : Array Value) (w : World), (Instr.makeFunc fn first cap).run Try.prog w = .ok (.func fn first cap) w := fun _ _ _ _ => rfl
  go_enter Try.func74, Try.ntmps74
  go_wp2
  go_ret
  exact ⟨rfl, rfl⟩
theorem quiet_sym {P : Program} {f : FuncId} {args : Array Value} {w : World} {v : Value}
    (h : Calls P f args w fun e w' => e = .returned v ∧ w = w') : Calls P f args w fun e w' => e = .returned v ∧ w' = w :=
  h.mono fun _ _ ⟨he, hm⟩ => ⟨he, hm.symm⟩
theorem left_val {a b : Int} (g0 : 0 ≤ b) : a % (4294967296 / pw b) * pw b % 4294967296 = leftF a b := by
  unfold leftF pw
  rw [left_ref a (b % 32).toNat (by omega), Int.emod_emod_of_dvd _ (Int.dvd_refl _)]
theorem grown_trans {w w1 w2 : World} (h : Grown w w1) (h' : Grown w1 w2) : Grown w w2 :=
  ⟨World.keptBut_trans h.1 h'.1, fun a => (h'.2.1 a).trans (h.2.1 a), Nat.le_trans h.2.2 h'.2.2⟩
theorem sign_val {a n : Int} (h0 : 0 ≤ a) (h1 : a ≤ 4294967295) (hn : 1 ≤ n) (hn' : n ≤ 31) : rightSF (leftF a (32 - n)) (32 - n) = signF a n := by
  have e : ((32 - n) % 32).toNat = 32 - n.toNat := by omega
  unfold rightSF leftF signF pw
  rw [e, if_neg (by omega), sign_parts a n.toNat (by omega) (by omega)]
theorem c62 (a n : Int) (h0 : 0 ≤ a) (h1 : a ≤ 4294967295) (w : World) :
    Calls Try.prog 62 #[.int .u32 a, .int .i64 n] w fun e w' => e = .returned (.int .u32 (signF a n)) ∧ Grown w w' := by
  by_cases hn : n < 1
  · go_enter Try.func62, Try.ntmps62
    go_wp2
    go_ret
    exact ⟨ret_int (by unfold signF; rw [if_pos (by omega)]), Grown.refl _⟩
  by_cases hn' : 31 < n
  · go_enter Try.func62, Try.ntmps62
    go_wp2
    go_ret
    exact ⟨ret_int (by unfold signF; rw [if_pos (by omega)]), Grown.refl _⟩
  obtain ⟨l0, l1⟩ : 0 ≤ leftF a (32 - n) ∧ leftF a (32 - n) ≤ 4294967295 := mod_in _
  have H := Lib.hid (sign_val (n := n) h0 h1 (by omega) (by omega))
  go_enter Try.func62, Try.ntmps62
  go_wp2_with (first
    | (go_at_call 75; (with_reducible refine (c75 _ _ h0 h1 (by omega) (by omega) _).mono ?_); rintro e w' ⟨rfl, rfl⟩)
    | (go_at_call 74; (with_reducible refine (c74 _ _ l0 l1 (by omega) (by omega) _).mono ?_); rintro e w' ⟨rfl, rfl⟩))
  go_ret
  exact ⟨ret_int H.out, (Grown.refl _).alloc _ _⟩
theorem c36 (a n : Int) (h0 : 0 ≤ a) (h1 : a ≤ 4294967295) (w : World) :
    Calls Try.prog 36 #[.int .u32 a, .int .i64 n] w fun e w' => e = .returned (.int .u32 (signF a n)) ∧ w = w' := by
  by_cases hn : n < 1
  · go_enter Try.func36, Try.ntmps36
    go_wp2
    go_ret
    exact ⟨ret_int (by unfold signF; rw [if_pos (by omega)]), rfl⟩
  by_cases hn' : 31 < n
  · go_enter Try.func36, Try.ntmps36
    go_wp2
    go_ret
    exact ⟨ret_int (by unfold signF; rw [if_pos (by omega)]), rfl⟩
  go_enter Try.func36, Try.ntmps36
  go_wp2
  go_loop [5, 6] (fun p i => ∃ k : Nat, (k : Int) ≤ n ∧ i = .int .i64 k ∧ p = .int .i64 (2 ^ k)) (fun _ i => (n - intOf i).toNat)
  case atStart => exact ⟨0, by omega, rfl, rfl⟩
  case round =>
    obtain ⟨k, hk, rfl, rfl⟩ := hrel
    by_cases hlt : (k : Int) < n
    · have s1 := pw_step k (by omega)
      have s2 := one_le_pow2 k
      go_wp2
      go_round
      case rel => exact ⟨k + 1, by omega, by go_num, by rw [pw_succ]⟩
      case measure => simp [intOf]; omega
    · have hkn : n.toNat = k := by omega
      have hF : Hid (signF a n = signN a k % 4294967296) := Lib.hid (by unfold signF; rw [if_neg (by omega), hkn])
      have hp := one_le_pow2 k
      have hq : (2 : Int) ^ k ≤ 2147483648 := by
        have h := pw_step (k - 1) (by omega)
        have e : k = k - 1 + 1 := by omega
        rw [e, ← pw_succ]; omega
      have hz : ((2 : Int) ^ k == 0) = false := by simp; omega
      have r0 : 0 ≤ a % 2 ^ k := Int.emod_nonneg _ (by omega)
      have r1 : a % 2 ^ k ≤ 2147483648 := by have := Int.emod_lt_of_pos a (b := 2 ^ k) (by omega); omega
      by_cases hc : 2 ^ k / 2 ≤ a % 2 ^ k
      all_goals
        go_wp2_with (go_at_call 35; (with_reducible refine (c35 _ (by omega) (by omega) _).mono ?_); rintro e w' ⟨rfl, rfl⟩)
        go_ret
        refine ⟨ret_int ?_, rfl⟩
        rw [hF.out, signN]
        first | rw [if_pos hc] | rw [if_neg (Int.not_le.mpr hc)]
theorem sign12_in (a : Int) : 0 ≤ signF a 12 ∧ signF a 12 ≤ 4294967295 := by
  unfold signF; rw [if_neg (by omega)]; exact mod_in _
theorem c78 (a : Int) (h0 : 0 ≤ a) (h1 : a ≤ 4294967295) (w : World) :
    Calls Try.prog 78 #[.int .u32 a] w fun e w' => e = .returned (.tuple #[.int .u32 ((a - signF a 12) % 4294967296), .int .u32 (signF a 12)]) ∧ Grown w w' := by
  obtain ⟨l0, l1⟩ := sign12_in a
  go_enter Try.func78, Try.ntmps78
  go_wp2_with (first
    | (go_at_call 62; (with_reducible refine (c62 _ _ h0 h1 _).mono ?_); rintro e w' ⟨rfl, hg⟩; have HG := Lib.hid hg; clear hg)
    | (go_at_call 85; (with_reducible refine (c85 _ _ h0 h1 l0 l1 _).mono ?_); rintro e w' ⟨rfl, rfl⟩))
  go_ret2
  exact ⟨rfl, HG.out⟩
theorem grown_drewN {w w1 : World} (h : Grown w w1) (n : Nat) : Grown w (w1.drewN n) := h
theorem g40 (a b : Int) (h0 : 0 ≤ a) (h1 : a ≤ 4294967295) (g0 : 0 ≤ b) (g1 : b ≤ 4294967295) (w : World) :
    Calls Try.prog 74 #[.int .u32 a, .int .u32 b] w fun e w' => e = .returned (.int .u32 (rightSF a b)) ∧ Grown w w' :=
  (c74 a b h0 h1 g0 g1 w).mono fun _ _ ⟨he, hw⟩ => ⟨he, hw ▸ (Grown.refl _).alloc _ _⟩
end Go.Proofs.Ytnjlcimeaoedcaa
