/-
  The contracts of the document's own functions of layer 2: powers, bits moved from place to place, immediates spread and gathered. The contracts of the document's own functions of layer 2: immediates spread and gathered; codes; which instructions are right. The contracts of the document's own functions of layer 2: codes; registers; room; which instructions are right. The contracts of the document's own Right, Word and Encode.
-/
import Derived.Test.YtlagdgkjpnocfaaGreatDoorQOnce
import Derived.Test.YtlagdgkjpnocfaaGreatDoorQAwake
import Derived.IntWalk
namespace Go.Proofs.YtlagdgkjpnocfaaGreatDoor
open Go.RowKit
set_option linter.unusedVariables false
set_option linter.unusedSimpArgs false

theorem pow_le32 (k : Nat) (h : k ≤ 32) : (2 : Int) ^ k ≤ 4294967296 := by
  have := Nat.pow_le_pow_right (n := 2) (by omega) h
  have h2 : ((2 ^ k : Nat) : Int) ≤ ((2 ^ 32 : Nat) : Int) := Int.ofNat_le.mpr this
  simpa using h2
theorem rv70 (n : Int) (h0 : 0 ≤ n) (h1 : n ≤ 32) (w : World) :
    Calls Tryz.prog 79 #[.int .i64 n] w fun e w' => e = .returned (.int .i64 (2 ^ n.toNat)) ∧ w = w' := by
  go_enter Tryz.func79, Tryz.ntmps79
  go_wp2
  go_loop [3, 4] (fun p i => ∃ k : Nat, (k : Int) ≤ n ∧ i = .int .i64 k ∧ p = .int .i64 (2 ^ k)) (fun _ i => (n - intOf i).toNat)
  case atStart => exact ⟨0, by omega, rfl, rfl⟩
  case round =>
    obtain ⟨k, hk, rfl, rfl⟩ := hrel
    by_cases hlt : (k : Int) < n
    · have s1 := pow_le32 k (by omega)
      have s2 := one_le_pow2 k
      go_wp2
      go_round
      case rel => exact ⟨k + 1, by omega, by go_num, by rw [pw_succ]⟩
      case measure => simp [intOf]; omega
    · have hp := one_le_pow2 k
      go_wp2
      go_ret
      exact ⟨ret_int (by have : n.toNat = k := by omega
                         rw [this]), rfl⟩
/-- Bits f to t of a number, moved to place a. -/
def mvF (n f t a : Int) : Int := n % 4294967296 / 2 ^ f.toNat % 2 ^ (t - f + 1).toNat * 2 ^ a.toNat
theorem rv54q (m f t a : Int) (m0 : 0 ≤ m) (m1 : m < 4294967296) (f0 : 0 ≤ f) (ft : f ≤ t) (t1 : t ≤ 31) (a0 : 0 ≤ a) (hat : a + (t - f + 1) ≤ 32) :
    m / 2 ^ f.toNat % 2 ^ (t - f + 1).toNat * 2 ^ a.toNat < 4294967296 := by
  have p := one_le_pow2 f.toNat
  have q := one_le_pow2 (t - f + 1).toNat
  have r := one_le_pow2 a.toNat
  have b := Int.emod_lt_of_pos (m / 2 ^ f.toNat) (b := 2 ^ (t - f + 1).toNat) (by omega)
  have e : (2 : Int) ^ (t - f + 1).toNat * 2 ^ a.toNat = 2 ^ ((t - f + 1).toNat + a.toNat) := by rw [Int.pow_add]
  have l := pow_le32 ((t - f + 1).toNat + a.toNat) (by omega)
  have := Int.mul_lt_mul_of_pos_right b (show 0 < (2 : Int) ^ a.toNat by omega)
  omega
theorem mv_val (n m f t a : Int) (em : n % 4294967296 = m) (f0 : 0 ≤ f) (ft : f ≤ t) (t1 : t ≤ 31) (a0 : 0 ≤ a) (hat : a + (t - f + 1) ≤ 32) :
    wrap64 ((wrap64 (m / 2 ^ f.toNat)).tmod (2 ^ (t - f + 1).toNat) * 2 ^ a.toNat) = mvF n f t a := by
  unfold mvF
  rw [em]
  have m0 : 0 ≤ m := by omega
  have m1 : m < 4294967296 := by omega
  have q := rv54q m f t a m0 m1 f0 ft t1 a0 hat
  have p1 := one_le_pow2 f.toNat
  have p2 := one_le_pow2 (t - f + 1).toNat
  have p3 := one_le_pow2 a.toNat
  have g0 : 0 ≤ m / 2 ^ f.toNat := Int.ediv_nonneg (by omega) (by omega)
  have g1 : m / 2 ^ f.toNat ≤ 4294967295 := Int.le_trans (Int.ediv_le_self _ (by omega)) (by omega)
  have g2 := Int.emod_nonneg (m / 2 ^ f.toNat) (b := 2 ^ (t - f + 1).toNat) (by omega)
  have g3 := Int.mul_nonneg g2 (show 0 ≤ (2 : Int) ^ a.toNat by omega)
  rw [IntWalk.wrap64_in (m / 2 ^ f.toNat) (by omega), Int.tmod_eq_emod_of_nonneg g0, IntWalk.wrap64_in _ (by omega)]
/-- 'move' in one step. -/
def MvD (w : World) (v : Int) (e : Ending) (w' : World) : Prop := e = .returned (.int .i64 v) ∧ ∃ k, w' = w.drewN k
set_option maxHeartbeats 1000000 in
theorem rv54 (n f t a : Int) (n0 : -2147483648 ≤ n) (n1 : n ≤ 4294967295) (f0 : 0 ≤ f) (ft : f ≤ t) (t1 : t ≤ 31) (a0 : 0 ≤ a) (hat : a + (t - f + 1) ≤ 32) (w : World) :
    Calls Tryz.prog 54 #[.int .i64 n, .int .i64 f, .int .i64 t, .int .i64 a] w (MvD w (mvF n f t a)) := by
  have p1 := one_le_pow2 f.toNat
  have p2 := one_le_pow2 (t - f + 1).toNat
  have ew1 : IntKind.i64.wrap (t - f) = t - f := IntWalk.i64_in _ (by omega)
  have ew2 : IntKind.i64.wrap (t - f + 1) = t - f + 1 := IntWalk.i64_in _ (by omega)
  have z1 : (2 ^ f.toNat : Int) ≠ 0 := by omega
  have z2 : (2 ^ (t - f + 1).toNat : Int) ≠ 0 := by omega
  by_cases hn : n < 0
  · have V := Lib.hid (mv_val n (n + 4294967296) f t a (by omega) f0 ft t1 a0 hat)
    have hm : 0 ≤ n + 4294967296 := by omega
    have e1 : (n + 4294967296).tdiv (2 ^ f.toNat) = (n + 4294967296) / 2 ^ f.toNat := Int.tdiv_eq_ediv_of_nonneg hm
    go_enter Tryz.func54, Tryz.ntmps54
    go_wp2
    go_quiet ((go_at_call 79; exact Calls.quiet_of_same (quiet_sym (rv70 _ (by omega) (by omega) _))))
    go_wp2
    go_ret
    exact ⟨ret_int V.out, _, rfl⟩
  · have V := Lib.hid (mv_val n n f t a (by omega) f0 ft t1 a0 hat)
    have hm : 0 ≤ n := by omega
    have e1 : n.tdiv (2 ^ f.toNat) = n / 2 ^ f.toNat := Int.tdiv_eq_ediv_of_nonneg hm
    go_enter Tryz.func54, Tryz.ntmps54
    go_wp2
    go_quiet ((go_at_call 79; exact Calls.quiet_of_same (quiet_sym (rv70 _ (by omega) (by omega) _))))
    go_wp2
    go_ret
    exact ⟨ret_int V.out, _, rfl⟩

/-- The world is the same but for draws. -/
def Drw (w w' : World) : Prop := ∃ k, w' = w.drewN k
theorem drw_refl (w : World) : Drw w w := ⟨0, rfl⟩
theorem drw_trans {a b c : World} (h : Drw a b) (h' : Drw b c) : Drw a c := by
  obtain ⟨k, rfl⟩ := h
  obtain ⟨j, rfl⟩ := h'
  exact ⟨k + j, by rw [World.drewN_drewN]⟩
theorem drw_grown {w w1 w2 : World} (h : Grown w w1) (d : Drw w1 w2) : Grown w w2 := by
  obtain ⟨k, rfl⟩ := d
  exact grown_drewN h k
theorem mv_in (n f t a : Int) (f0 : 0 ≤ f) (ft : f ≤ t) (t1 : t ≤ 31) (a0 : 0 ≤ a) (hat : a + (t - f + 1) ≤ 32) : 0 ≤ mvF n f t a ∧ mvF n f t a < 4294967296 := by
  refine ⟨?_, rv54q (n % 4294967296) f t a (by omega) (by omega) f0 ft t1 a0 hat⟩
  have p2 := one_le_pow2 (t - f + 1).toNat
  have p3 := one_le_pow2 a.toNat
  exact Int.mul_nonneg (Int.emod_nonneg _ (by omega)) (by omega)
theorem m54 (n f t a : Int) (n0 : -2147483648 ≤ n) (n1 : n ≤ 4294967295) (f0 : 0 ≤ f) (ft : f ≤ t) (t1 : t ≤ 31) (a0 : 0 ≤ a) (hat : a + (t - f + 1) ≤ 32) (w : World) :
    Calls Tryz.prog 54 #[.int .i64 n, .int .i64 f, .int .i64 t, .int .i64 a] w fun e w' => e = .returned (.int .i64 (mvF n f t a)) ∧ 0 ≤ mvF n f t a ∧ mvF n f t a < 4294967296 ∧ Drw w w' :=
  (rv54 n f t a n0 n1 f0 ft t1 a0 hat w).mono fun _ _ ⟨he, hk⟩ => ⟨he, (mv_in n f t a f0 ft t1 a0 hat).1, (mv_in n f t a f0 ft t1 a0 hat).2, hk⟩
set_option maxHeartbeats 4000000 in
theorem rv73 (f n : Int) (hf : isForm f) (n0 : -2147483648 ≤ n) (n1 : n ≤ 4294967295) (w : World) :
    Calls Tryz.prog 83 #[.int .u8 f, .int .i64 n] w fun e w' => e = .returned (.int .i64 (scat f (n % 4294967296) 4)) ∧ Drw w w' := by
  have HD := Lib.hid (drw_refl w)
  rcases hf with rfl | rfl | rfl | rfl | rfl | rfl | rfl | rfl
  · have V := Lib.hid (scat_85 (n % 4294967296) (by omega) (by omega))
    go_enter Tryz.func83, Tryz.ntmps83
    go_wp2_with (go_at_call 54; (with_reducible refine (m54 _ _ _ _ n0 n1 (by decide) (by decide) (by decide) (by decide) (by decide) _).mono ?_); rintro e w' ⟨rfl, q0, q1, hd⟩; replace HD := Lib.hid (drw_trans HD.out hd); clear hd)
    go_ret
    exact ⟨ret_int (by rw [V.out]; simp [mvF]), HD.out⟩
  · have V := Lib.hid (scat_74 (n % 4294967296) (by omega) (by omega))
    go_enter Tryz.func83, Tryz.ntmps83
    go_wp2_with (go_at_call 54; (with_reducible refine (m54 _ _ _ _ n0 n1 (by decide) (by decide) (by decide) (by decide) (by decide) _).mono ?_); rintro e w' ⟨rfl, q0, q1, hd⟩; replace HD := Lib.hid (drw_trans HD.out hd); clear hd)
    go_ret
    exact ⟨ret_int (by rw [V.out]; simp [mvF]), HD.out⟩
  · have V := Lib.hid (scat_73 (n % 4294967296) (by omega) (by omega))
    go_enter Tryz.func83, Tryz.ntmps83
    go_wp2_with (go_at_call 54; (with_reducible refine (m54 _ _ _ _ n0 n1 (by decide) (by decide) (by decide) (by decide) (by decide) _).mono ?_); rintro e w' ⟨rfl, q0, q1, hd⟩; replace HD := Lib.hid (drw_trans HD.out hd); clear hd)
    go_ret
    exact ⟨ret_int (by rw [V.out]; simp [mvF]), HD.out⟩
  · have V := Lib.hid (scat_72 (n % 4294967296) (by omega) (by omega))
    go_enter Tryz.func83, Tryz.ntmps83
    go_wp2_with (go_at_call 54; (with_reducible refine (m54 _ _ _ _ n0 n1 (by decide) (by decide) (by decide) (by decide) (by decide) _).mono ?_); rintro e w' ⟨rfl, q0, q1, hd⟩; replace HD := Lib.hid (drw_trans HD.out hd); clear hd)
    go_ret
    exact ⟨ret_int (by rw [V.out]; simp [mvF]), HD.out⟩
  · have V := Lib.hid (scat_83 (n % 4294967296) (by omega) (by omega))
    go_enter Tryz.func83, Tryz.ntmps83
    go_wp2_with (go_at_call 54; (with_reducible refine (m54 _ _ _ _ n0 n1 (by decide) (by decide) (by decide) (by decide) (by decide) _).mono ?_); rintro e w' ⟨rfl, q0, q1, hd⟩; replace HD := Lib.hid (drw_trans HD.out hd); clear hd)
    go_ret
    exact ⟨ret_int (by rw [V.out]; simp [mvF]), HD.out⟩
  · have V := Lib.hid (scat_66 (n % 4294967296) (by omega) (by omega))
    go_enter Tryz.func83, Tryz.ntmps83
    go_wp2_with (go_at_call 54; (with_reducible refine (m54 _ _ _ _ n0 n1 (by decide) (by decide) (by decide) (by decide) (by decide) _).mono ?_); rintro e w' ⟨rfl, q0, q1, hd⟩; replace HD := Lib.hid (drw_trans HD.out hd); clear hd)
    go_ret
    exact ⟨ret_int (by rw [V.out]; simp [mvF]), HD.out⟩
  · have V := Lib.hid (scat_82 (n % 4294967296) (by omega) (by omega))
    go_enter Tryz.func83, Tryz.ntmps83
    go_wp2
    go_ret
    exact ⟨ret_int (by rw [V.out]), HD.out⟩
  · have V := Lib.hid (scat_0 (n % 4294967296) (by omega) (by omega))
    go_enter Tryz.func83, Tryz.ntmps83
    go_wp2
    go_ret
    exact ⟨ret_int (by rw [V.out]), HD.out⟩
def sgnF (n b : Int) : Int := if 2 ^ (b.toNat - 1) ≤ n then n - 2 ^ b.toNat else n
set_option maxHeartbeats 1000000 in
theorem rv77 (n b : Int) (n0 : 0 ≤ n) (n1 : n < 4294967296) (b0 : 1 ≤ b) (b1 : b ≤ 32) (w : World) :
    Calls Tryz.prog 78 #[.int .i64 n, .int .i64 b] w fun e w' => e = .returned (.int .i64 (sgnF n b)) ∧ w = w' := by
  have p1 := one_le_pow2 (b.toNat - 1)
  have p2 := one_le_pow2 b.toNat
  have p3 := pow_le32 b.toNat (by omega)
  by_cases h : 2 ^ (b.toNat - 1) ≤ n
  · have E : Hid (sgnF n b = n - 2 ^ b.toNat) := Lib.hid (if_pos h)
    go_enter Tryz.func78, Tryz.ntmps78
    go_wp2_with (go_at_call 79; (with_reducible refine (rv70 _ (by omega) (by omega) _).mono ?_); rintro e w' ⟨rfl, rfl⟩)
    go_ret
    exact ⟨ret_int E.out.symm, rfl⟩
  · have E : Hid (sgnF n b = n) := Lib.hid (if_neg h)
    have h' : n < 2 ^ (b.toNat - 1) := by omega
    go_enter Tryz.func78, Tryz.ntmps78
    go_wp2_with (go_at_call 79; (with_reducible refine (rv70 _ (by omega) (by omega) _).mono ?_); rintro e w' ⟨rfl, rfl⟩)
    go_ret
    exact ⟨ret_int E.out.symm, rfl⟩
set_option maxHeartbeats 4000000 in
theorem rv53 (f u : Int) (hf : isForm f) (u0 : 0 ≤ u) (u1 : u ≤ 4294967295) (w : World) :
    Calls Tryz.prog 53 #[.int .u8 f, .int .i64 u] w fun e w' => e = .returned (.int .i64 (gathS f u)) ∧ Drw w w' := by
  have HD := Lib.hid (drw_refl w)
  have E := Lib.hid (Int.emod_eq_of_lt u0 (show u < 4294967296 by omega))
  rcases hf with rfl | rfl | rfl | rfl | rfl | rfl | rfl | rfl
  · have V := Lib.hid (gathS_85 u0 u1)
    go_enter Tryz.func53, Tryz.ntmps53
    go_wp2_with (first
      | (go_at_call 54; (with_reducible refine (m54 _ _ _ _ (by omega) u1 (by decide) (by decide) (by decide) (by decide) (by decide) _).mono ?_); rintro e w' ⟨rfl, q0, q1, hd⟩; replace HD := Lib.hid (drw_trans HD.out hd); clear hd)
      | (go_at_call 78; (with_reducible refine (rv77 _ _ (by omega) (by omega) (by decide) (by decide) _).mono ?_); rintro e w' ⟨rfl, rfl⟩))
    go_ret
    exact ⟨ret_int (by rw [V.out]; unfold mvF; rw [E.out]; simp [sgnF]), HD.out⟩
  · have V := Lib.hid (gathS_74 u0 u1)
    have B : mvF u 31 31 20 + mvF u 21 30 1 + mvF u 20 20 11 + mvF u 12 19 12 < 2097152 := by unfold mvF; rw [E.out]; simp; omega
    go_enter Tryz.func53, Tryz.ntmps53
    go_wp2_with (first
      | (go_at_call 54; (with_reducible refine (m54 _ _ _ _ (by omega) u1 (by decide) (by decide) (by decide) (by decide) (by decide) _).mono ?_); rintro e w' ⟨rfl, q0, q1, hd⟩; replace HD := Lib.hid (drw_trans HD.out hd); clear hd)
      | (go_at_call 78; (with_reducible refine (rv77 _ _ (by omega) (by omega) (by decide) (by decide) _).mono ?_); rintro e w' ⟨rfl, rfl⟩))
    go_ret
    exact ⟨ret_int (by rw [V.out]; unfold mvF; rw [E.out]; simp [sgnF]), HD.out⟩
  · have V := Lib.hid (gathS_73 u0 u1)
    go_enter Tryz.func53, Tryz.ntmps53
    go_wp2_with (first
      | (go_at_call 54; (with_reducible refine (m54 _ _ _ _ (by omega) u1 (by decide) (by decide) (by decide) (by decide) (by decide) _).mono ?_); rintro e w' ⟨rfl, q0, q1, hd⟩; replace HD := Lib.hid (drw_trans HD.out hd); clear hd)
      | (go_at_call 78; (with_reducible refine (rv77 _ _ (by omega) (by omega) (by decide) (by decide) _).mono ?_); rintro e w' ⟨rfl, rfl⟩))
    go_ret
    exact ⟨ret_int (by rw [V.out]; unfold mvF; rw [E.out]; simp [sgnF]), HD.out⟩
  · have V := Lib.hid (gathS_72 u0 u1)
    go_enter Tryz.func53, Tryz.ntmps53
    go_wp2_with (first
      | (go_at_call 54; (with_reducible refine (m54 _ _ _ _ (by omega) u1 (by decide) (by decide) (by decide) (by decide) (by decide) _).mono ?_); rintro e w' ⟨rfl, q0, q1, hd⟩; replace HD := Lib.hid (drw_trans HD.out hd); clear hd)
      | (go_at_call 78; (with_reducible refine (rv77 _ _ (by omega) (by omega) (by decide) (by decide) _).mono ?_); rintro e w' ⟨rfl, rfl⟩))
    go_ret
    exact ⟨ret_int (by rw [V.out]; unfold mvF; rw [E.out]; simp [sgnF]), HD.out⟩
  · have V := Lib.hid (gathS_83 u0 u1)
    have B : mvF u 7 11 0 + mvF u 25 31 5 < 4096 := by unfold mvF; rw [E.out]; simp; omega
    go_enter Tryz.func53, Tryz.ntmps53
    go_wp2_with (first
      | (go_at_call 54; (with_reducible refine (m54 _ _ _ _ (by omega) u1 (by decide) (by decide) (by decide) (by decide) (by decide) _).mono ?_); rintro e w' ⟨rfl, q0, q1, hd⟩; replace HD := Lib.hid (drw_trans HD.out hd); clear hd)
      | (go_at_call 78; (with_reducible refine (rv77 _ _ (by omega) (by omega) (by decide) (by decide) _).mono ?_); rintro e w' ⟨rfl, rfl⟩))
    go_ret
    exact ⟨ret_int (by rw [V.out]; unfold mvF; rw [E.out]; simp [sgnF]), HD.out⟩
  · have V := Lib.hid (gathS_66 u0 u1)
    have B : mvF u 31 31 12 + mvF u 25 30 5 + mvF u 8 11 1 + mvF u 7 7 11 < 8192 := by unfold mvF; rw [E.out]; simp; omega
    go_enter Tryz.func53, Tryz.ntmps53
    go_wp2_with (first
      | (go_at_call 54; (with_reducible refine (m54 _ _ _ _ (by omega) u1 (by decide) (by decide) (by decide) (by decide) (by decide) _).mono ?_); rintro e w' ⟨rfl, q0, q1, hd⟩; replace HD := Lib.hid (drw_trans HD.out hd); clear hd)
      | (go_at_call 78; (with_reducible refine (rv77 _ _ (by omega) (by omega) (by decide) (by decide) _).mono ?_); rintro e w' ⟨rfl, rfl⟩))
    go_ret
    exact ⟨ret_int (by rw [V.out]; unfold mvF; rw [E.out]; simp [sgnF]), HD.out⟩
  · have V := Lib.hid (gathS_82 u0 u1)
    go_enter Tryz.func53, Tryz.ntmps53
    go_wp2
    go_ret
    exact ⟨ret_int (by rw [V.out]), HD.out⟩
  · have V : Hid (gathS 0 u = 0) := Lib.hid (by unfold gathS; rw [gath_0 u u0 (by omega)]; rfl)
    go_enter Tryz.func53, Tryz.ntmps53
    go_wp2
    go_ret
    exact ⟨ret_int (by rw [V.out]), HD.out⟩

def ocF (x : Int) : Int := if x = 1 then 55 else if x = 2 then 23 else if x = 3 then 111 else if x = 4 then 103 else if x ≤ 10 then 99 else if x ≤ 15 then 3 else if x ≤ 18 then 35 else if x ≤ 27 then 19 else 51
theorem oc_is : ∀ k : Nat, k < 46 → k ≠ 0 → oc k = ocF k := by decide
set_option maxHeartbeats 2000000 in
theorem rv69 (k : Nat) (hk : k < 46) (k0 : k ≠ 0) (w : World) :
    Calls Tryz.prog 80 #[.int .i64 k] w fun e w' => e = .returned (.int .i64 (oc k)) ∧ w = w' := by
  have F := Lib.hid (oc_is k hk k0)
  have hc : k = 1 ∨ k = 2 ∨ k = 3 ∨ k = 4 ∨ (5 ≤ (k : Int) ∧ (k : Int) ≤ 10) ∨ (11 ≤ (k : Int) ∧ (k : Int) ≤ 15) ∨ (16 ≤ (k : Int) ∧ (k : Int) ≤ 18) ∨ (19 ≤ (k : Int) ∧ (k : Int) ≤ 27) ∨ (28 ≤ (k : Int) ∧ (k : Int) ≤ 45) := by omega
  clear hk k0
  rcases hc with rfl | rfl | rfl | rfl | ⟨hc, hd⟩ | ⟨hc, hd⟩ | ⟨hc, hd⟩ | ⟨hc, hd⟩ | ⟨hc, hd⟩
  all_goals
    go_enter Tryz.func80, Tryz.ntmps80
    go_wp2
    all_goals go_ret
    all_goals
      refine ⟨ret_int ?_, rfl⟩
      rw [F.out]; unfold ocF
      repeat' split
      all_goals first | rfl | (exfalso; omega)
def f7F (x : Int) : Int := if x = 27 ∨ x = 29 ∨ x = 35 then 32 else if 38 ≤ x then 1 else 0
theorem f7_is : ∀ k : Nat, k < 46 → k ≠ 0 → f7 k = f7F k := by decide
set_option maxHeartbeats 2000000 in
theorem rv72 (k : Nat) (hk : k < 46) (k0 : k ≠ 0) (w : World) :
    Calls Tryz.prog 82 #[.int .i64 k] w fun e w' => e = .returned (.int .i64 (f7 k)) ∧ w = w' := by
  have F := Lib.hid (f7_is k hk k0)
  clear k0
  go_enter Tryz.func82, Tryz.ntmps82
  go_wp2
  all_goals go_ret
  all_goals
    refine ⟨ret_int ?_, rfl⟩
    rw [F.out]; unfold f7F
    repeat' split
    all_goals first | rfl | (exfalso; simp at *; omega)
def f3Cells : Array Value := (f3L.map (Value.int .i64)).toArray
theorem info3 : (Tryz.prog.info? 3).map (fun i => (i.zero, i.size)) = some (some (.int .i64 0), 1) := by kernel_rfl
theorem f3_cell (w : World) (k : Nat) (h : k < 46) : (w.alloc (.cells f3Cells 3)).cell? ⟨w.heap.size, k, none⟩ = some (.int .i64 (f3 k)) := by
  refine row_cell w f3Cells 3 k _ ?_
  have hl : k < f3L.length := h
  unfold f3Cells f3
  simp [hl]
set_option maxRecDepth 1000000 in
set_option maxHeartbeats 8000000 in
theorem rv71 (k : Nat) (hk : k < 46) (w : World) :
    Calls Tryz.prog 81 #[.int .i64 k] w fun e w' => e = .returned (.int .i64 (f3 k)) ∧ Grown w w' := by
  have hi := info3
  cases hie : Tryz.prog.info? 3 with
  | none => rw [hie] at hi; simp at hi
  | some ie =>
    rw [hie] at hi
    simp at hi
    obtain ⟨hz, hsz⟩ := hi
    have HIE := Lib.hid hie
    have HZ := Lib.hid hz
    have HSZ := Lib.hid hsz
    clear hie hz hsz
    have hc := f3_cell w k hk
    go_enter Tryz.func81, Tryz.ntmps81
    go_wp2_with (refine wpList_buildSlice rfl 131 3 46 _ rfl f3Cells ie (.int .i64 0) Tryz.underlying131 HIE.out HZ.out (by rw [HSZ.out]; decide) (by rw [HSZ.out]; decide) (by rw [HSZ.out]; as_aux_lemma => kernel_rfl) ?_)
    go_ret
    exact ⟨rfl, (Grown.refl _).alloc _ _⟩
theorem rv46 (n : Int) (u : Bool) (w : World) :
    Calls Tryz.prog 19 #[.int .i64 n, .bool u] w fun e w' => e = .returned (.bool (regB n u)) ∧ w = w' := by
  cases u
  · go_enter Tryz.func19, Tryz.ntmps19
    go_wp2
    go_ret
    exact ⟨ret_bool (by simp [regB, beq_iff_eq]; try rfl), rfl⟩
  · go_enter Tryz.func19, Tryz.ntmps19
    go_wp2
    all_goals go_ret
    all_goals exact ⟨ret_bool (by rw [Bool.eq_iff_iff]; simp [regB]; omega), rfl⟩
theorem rv47a (f : Int) (hf : isForm f) (hn : f ≠ 0) (w : World) :
    Calls Tryz.prog 20 #[.int .u8 f, .int .i64 1] w fun e w' => e = .returned (.bool (uRd f)) ∧ w = w' := by
  rcases hf with rfl | rfl | rfl | rfl | rfl | rfl | rfl | rfl
  all_goals first | (exact absurd rfl hn) | skip
  all_goals
    clear hn
    go_enter Tryz.func20, Tryz.ntmps20
    go_wp2
    go_ret
    exact ⟨rfl, rfl⟩
theorem rv47b (f : Int) (hf : isForm f) (hn : f ≠ 0) (w : World) :
    Calls Tryz.prog 20 #[.int .u8 f, .int .i64 2] w fun e w' => e = .returned (.bool (uRs1 f)) ∧ w = w' := by
  rcases hf with rfl | rfl | rfl | rfl | rfl | rfl | rfl | rfl
  all_goals first | (exact absurd rfl hn) | skip
  all_goals
    clear hn
    go_enter Tryz.func20, Tryz.ntmps20
    go_wp2
    go_ret
    exact ⟨rfl, rfl⟩
theorem rv47c (f : Int) (hf : isForm f) (hn : f ≠ 0) (w : World) :
    Calls Tryz.prog 20 #[.int .u8 f, .int .i64 3] w fun e w' => e = .returned (.bool (uRs2 f)) ∧ w = w' := by
  rcases hf with rfl | rfl | rfl | rfl | rfl | rfl | rfl | rfl
  all_goals first | (exact absurd rfl hn) | skip
  all_goals
    clear hn
    go_enter Tryz.func20, Tryz.ntmps20
    go_wp2
    go_ret
    exact ⟨rfl, rfl⟩
theorem tmod_beq (n m : Int) (h : 0 < m) : (n.tmod m == 0) = decide (n % m = 0) := by
  refine beq_dec ?_
  rw [← Int.dvd_iff_tmod_eq_zero, Int.dvd_iff_emod_eq_zero]
set_option maxHeartbeats 4000000 in
theorem rv48 (f n : Int) (hf : isForm f) (hn : f ≠ 0) (w : World) :
    Calls Tryz.prog 21 #[.int .u8 f, .int .i64 n] w fun e w' => e = .returned (.bool (roomB f n)) ∧ w = w' := by
  have t1 := tmod_beq n 4096 (by decide)
  have t2 := tmod_beq n 2 (by decide)
  rcases hf with rfl | rfl | rfl | rfl | rfl | rfl | rfl | rfl
  all_goals first | (exact absurd rfl hn) | skip
  all_goals
    clear hn
    go_enter Tryz.func21, Tryz.ntmps21
    go_wp2
    all_goals go_ret
    all_goals refine ⟨ret_bool ?_, rfl⟩
    all_goals (rw [Bool.eq_iff_iff]; simp [roomB])
    all_goals first | omega | (constructor <;> intro h <;> omega) | (show n = 0 ↔ n = 0; exact Iff.rfl)

set_option maxRecDepth 100000 in
set_option maxHeartbeats 8000000 in
theorem rv15_f (op rd r1 r2 imm f : Int) (hf : isForm f) (w : World)
    (K45 : Hid (∀ w, Calls Tryz.prog 18 #[.int .i64 op] w fun e w' => e = .returned (.int .u8 f) ∧ w = w')) (R : Bool)
    (hcase : ((f != 0) = false ∧ R = false) ∨ ((f != 0) = true ∧ regB rd (uRd f) = false ∧ R = false) ∨ ((f != 0) = true ∧ regB rd (uRd f) = true ∧ regB r1 (uRs1 f) = false ∧ R = false) ∨ ((f != 0) = true ∧ regB rd (uRd f) = true ∧ regB r1 (uRs1 f) = true ∧ regB r2 (uRs2 f) = false ∧ R = false) ∨
      ((f != 0) = true ∧ regB rd (uRd f) = true ∧ regB r1 (uRs1 f) = true ∧ regB r2 (uRs2 f) = true ∧ roomB f imm = R)) :
    Calls Tryz.prog 9 #[.agg #[.int .i64 op, .int .i64 rd, .int .i64 r1, .int .i64 r2, .int .i64 imm]] w fun e w' => e = .returned (.bool R) ∧ Grown w w' := by
  have Z : Hid (Grown w (w.alloc (.cells #[.int .i64 op, .int .i64 rd, .int .i64 r1, .int .i64 r2, .int .i64 imm] 28)) ∧ _) := Lib.hid (And.intro ((Grown.refl _).alloc _ _) (And.intro (row_cell w #[.int .i64 op, .int .i64 rd, .int .i64 r1, .int .i64 r2, .int .i64 imm] 28 0 (.int .i64 op) rfl) (And.intro (row_cell w #[.int .i64 op, .int .i64 rd, .int .i64 r1, .int .i64 r2, .int .i64 imm] 28 1 (.int .i64 rd) rfl) (And.intro (row_cell w #[.int .i64 op, .int .i64 rd, .int .i64 r1, .int .i64 r2, .int .i64 imm] 28 2 (.int .i64 r1) rfl) (And.intro (row_cell w #[.int .i64 op, .int .i64 rd, .int .i64 r1, .int .i64 r2, .int .i64 imm] 28 3 (.int .i64 r2) rfl) (row_cell w #[.int .i64 op, .int .i64 rd, .int .i64 r1, .int .i64 r2, .int .i64 imm] 28 4 (.int .i64 imm) rfl))))))
  rcases hcase with ⟨h0, rfl⟩ | ⟨h0, hA, rfl⟩ | ⟨h0, hA, hB, rfl⟩ | ⟨h0, hA, hB, hC, rfl⟩ | ⟨h0, hA, hB, hC, rfl⟩
  · go_enter Tryz.func9, Tryz.ntmps9
    go_wp2_with (go_at_call 18; (with_reducible refine (K45.out _).mono ?_); rintro e w' ⟨rfl, rfl⟩)
    generalize w.alloc (.cells #[.int .i64 op, .int .i64 rd, .int .i64 r1, .int .i64 r2, .int .i64 imm] 28) = w2 at *
    generalize w.heap.size = b at *
    obtain ⟨G0, z0, z1, z2, z3, z4⟩ := Z.out
    clear Z
    go_quiet (fail)
    go_wp2
    go_ret
    exact ⟨rfl, grown_drewN G0 _⟩
  all_goals
    have hn : f ≠ 0 := by simpa using h0
    have HN := Lib.hid hn
    clear hn
    go_enter Tryz.func9, Tryz.ntmps9
    go_wp2_with (go_at_call 18; (with_reducible refine (K45.out _).mono ?_); rintro e w' ⟨rfl, rfl⟩)
    generalize w.alloc (.cells #[.int .i64 op, .int .i64 rd, .int .i64 r1, .int .i64 r2, .int .i64 imm] 28) = w2 at *
    generalize w.heap.size = b at *
    obtain ⟨G0, z0, z1, z2, z3, z4⟩ := Z.out
    clear Z
    go_quiet ((first
      | (go_at_call 20; (with_reducible exact Calls.quiet_of_same (quiet_sym (rv47a _ hf HN.out _))))
      | (go_at_call 20; (with_reducible exact Calls.quiet_of_same (quiet_sym (rv47b _ hf HN.out _))))
      | (go_at_call 20; (with_reducible exact Calls.quiet_of_same (quiet_sym (rv47c _ hf HN.out _))))
      | (go_at_call 19; (with_reducible exact Calls.quiet_of_same (quiet_sym (rv46 _ _ _))))
      | (go_at_call 21; (with_reducible exact Calls.quiet_of_same (quiet_sym (rv48 _ _ hf HN.out _))))))
    go_wp2
    go_ret
    exact ⟨rfl, grown_drewN G0 _⟩
theorem rv15 (op rd r1 r2 imm : Int) (w : World) :
    Calls Tryz.prog 9 #[.agg #[.int .i64 op, .int .i64 rd, .int .i64 r1, .int .i64 r2, .int .i64 imm]] w fun e w' => e = .returned (.bool (fitsB rd r1 r2 imm (fm (ix op)))) ∧ Grown w w' := by
  have hf := fm_form op
  have K := c18 op
  refine rv15_f op rd r1 r2 imm _ hf w (Lib.hid K) _ ?_
  generalize fm (ix op) = f at *
  unfold fitsB
  cases h0 : (f != 0)
  · simp
  · have hn : f ≠ 0 := by simpa using h0
    rw [room_all hf hn imm]
    cases regB rd (uRd f) <;> cases regB r1 (uRs1 f) <;> cases regB r2 (uRs2 f) <;> simp
theorem sumW_in {k : Nat} (hk : k < 46) {rd r1 r2 imm : Int} (h : fitsB rd r1 r2 imm (fm k) = true) : 0 ≤ sumW k rd r1 r2 imm ∧ sumW k rd r1 r2 imm ≤ 4294967295 := by
  rw [← enc_sum hk h]
  unfold encW
  exact or_in _ _
end Go.Proofs.YtlagdgkjpnocfaaGreatDoor
