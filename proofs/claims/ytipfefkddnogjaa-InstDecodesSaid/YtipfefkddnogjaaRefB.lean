/-
  The contracts of the document's own functions of layer 2: immediates spread and gathered; codes; which instructions are right.
-/
import Derived.Test.YtipfefkddnogjaaRef
namespace Go.Proofs.Ytipfefkddnogjaa
open Go.RowKit
set_option linter.unusedVariables false
set_option linter.unusedSimpArgs false

/-- The world is the same but for draws. -/
def Drw (w w' : World) : Prop := ∃ k, w' = w.drewN k
theorem drw_refl (w : World) : Drw w w := ⟨0, rfl⟩
theorem drw_trans {a b c : World} (h : Drw a b) (h' : Drw b c) : Drw a c := by
  obtain ⟨k, rfl⟩ := h
  obtain ⟨j, rfl⟩ := h'
  exact ⟨k + j, by rw [World.drewN_drewN]⟩
theorem drw_grown {w w1 w2 : World} (h : Grown w w1) (d : Drw w1 w2) : Grown w w2 := by
  obtain ⟨k, rfl⟩ := d
  exact grown_drewN h k
theorem mv_in (n f t a : Int) (f0 : 0 ≤ f) (ft : f ≤ t) (t1 : t ≤ 31) (a0 : 0 ≤ a) (hat : a + (t - f + 1) ≤ 32) : 0 ≤ mvF n f t a ∧ mvF n f t a < 4294967296 := by
  refine ⟨?_, c54q (n % 4294967296) f t a (by omega) (by omega) f0 ft t1 a0 hat⟩
  have p2 := one_le_pow2 (t - f + 1).toNat
  have p3 := one_le_pow2 a.toNat
  exact Int.mul_nonneg (Int.emod_nonneg _ (by omega)) (by omega)
theorem m54 (n f t a : Int) (n0 : -2147483648 ≤ n) (n1 : n ≤ 4294967295) (f0 : 0 ≤ f) (ft : f ≤ t) (t1 : t ≤ 31) (a0 : 0 ≤ a) (hat : a + (t - f + 1) ≤ 32) (w : World) :
    Calls Try.prog 54 #[.int .i64 n, .int .i64 f, .int .i64 t, .int .i64 a] w fun e w' => e = .returned (.int .i64 (mvF n f t a)) ∧ 0 ≤ mvF n f t a ∧ mvF n f t a < 4294967296 ∧ Drw w w' :=
  (c54 n f t a n0 n1 f0 ft t1 a0 hat w).mono fun _ _ ⟨he, hk⟩ => ⟨he, (mv_in n f t a f0 ft t1 a0 hat).1, (mv_in n f t a f0 ft t1 a0 hat).2, hk⟩
set_option maxHeartbeats 4000000 in
theorem c73 (f n : Int) (hf : isForm f) (n0 : -2147483648 ≤ n) (n1 : n ≤ 4294967295) (w : World) :
    Calls Try.prog 73 #[.int .u8 f, .int .i64 n] w fun e w' => e = .returned (.int .i64 (scat f (n % 4294967296) 4)) ∧ Drw w w' := by
  have HD := Lib.hid (drw_refl w)
  rcases hf with rfl | rfl | rfl | rfl | rfl | rfl | rfl | rfl
  · have V := Lib.hid (scat_85 (n % 4294967296) (by omega) (by omega))
    go_enter Try.func73, Try.ntmps73
    go_wp2_with (go_at_call 54; (with_reducible refine (m54 _ _ _ _ n0 n1 (by decide) (by decide) (by decide) (by decide) (by decide) _).mono ?_); rintro e w' ⟨rfl, q0, q1, hd⟩; replace HD := Lib.hid (drw_trans HD.out hd); clear hd)
    go_ret
    exact ⟨ret_int (by rw [V.out]; simp [mvF]), HD.out⟩
  · have V := Lib.hid (scat_74 (n % 4294967296) (by omega) (by omega))
    go_enter Try.func73, Try.ntmps73
    go_wp2_with (go_at_call 54; (with_reducible refine (m54 _ _ _ _ n0 n1 (by decide) (by decide) (by decide) (by decide) (by decide) _).mono ?_); rintro e w' ⟨rfl, q0, q1, hd⟩; replace HD := Lib.hid (drw_trans HD.out hd); clear hd)
    go_ret
    exact ⟨ret_int (by rw [V.out]; simp [mvF]), HD.out⟩
  · have V := Lib.hid (scat_73 (n % 4294967296) (by omega) (by omega))
    go_enter Try.func73, Try.ntmps73
    go_wp2_with (go_at_call 54; (with_reducible refine (m54 _ _ _ _ n0 n1 (by decide) (by decide) (by decide) (by decide) (by decide) _).mono ?_); rintro e w' ⟨rfl, q0, q1, hd⟩; replace HD := Lib.hid (drw_trans HD.out hd); clear hd)
    go_ret
    exact ⟨ret_int (by rw [V.out]; simp [mvF]), HD.out⟩
  · have V := Lib.hid (scat_72 (n % 4294967296) (by omega) (by omega))
    go_enter Try.func73, Try.ntmps73
    go_wp2_with (go_at_call 54; (with_reducible refine (m54 _ _ _ _ n0 n1 (by decide) (by decide) (by decide) (by decide) (by decide) _).mono ?_); rintro e w' ⟨rfl, q0, q1, hd⟩; replace HD := Lib.hid (drw_trans HD.out hd); clear hd)
    go_ret
    exact ⟨ret_int (by rw [V.out]; simp [mvF]), HD.out⟩
  · have V := Lib.hid (scat_83 (n % 4294967296) (by omega) (by omega))
    go_enter Try.func73, Try.ntmps73
    go_wp2_with (go_at_call 54; (with_reducible refine (m54 _ _ _ _ n0 n1 (by decide) (by decide) (by decide) (by decide) (by decide) _).mono ?_); rintro e w' ⟨rfl, q0, q1, hd⟩; replace HD := Lib.hid (drw_trans HD.out hd); clear hd)
    go_ret
    exact ⟨ret_int (by rw [V.out]; simp [mvF]), HD.out⟩
  · have V := Lib.hid (scat_66 (n % 4294967296) (by omega) (by omega))
    go_enter Try.func73, Try.ntmps73
    go_wp2_with (go_at_call 54; (with_reducible refine (m54 _ _ _ _ n0 n1 (by decide) (by decide) (by decide) (by decide) (by decide) _).mono ?_); rintro e w' ⟨rfl, q0, q1, hd⟩; replace HD := Lib.hid (drw_trans HD.out hd); clear hd)
    go_ret
    exact ⟨ret_int (by rw [V.out]; simp [mvF]), HD.out⟩
  · have V := Lib.hid (scat_82 (n % 4294967296) (by omega) (by omega))
    go_enter Try.func73, Try.ntmps73
    go_wp2
    go_ret
    exact ⟨ret_int (by rw [V.out]), HD.out⟩
  · have V := Lib.hid (scat_0 (n % 4294967296) (by omega) (by omega))
    go_enter Try.func73, Try.ntmps73
    go_wp2
    go_ret
    exact ⟨ret_int (by rw [V.out]), HD.out⟩
def sgnF (n b : Int) : Int := if 2 ^ (b.toNat - 1) ≤ n then n - 2 ^ b.toNat else n
set_option maxHeartbeats 1000000 in
theorem c77 (n b : Int) (n0 : 0 ≤ n) (n1 : n < 4294967296) (b0 : 1 ≤ b) (b1 : b ≤ 32) (w : World) :
    Calls Try.prog 77 #[.int .i64 n, .int .i64 b] w fun e w' => e = .returned (.int .i64 (sgnF n b)) ∧ w = w' := by
  have p1 := one_le_pow2 (b.toNat - 1)
  have p2 := one_le_pow2 b.toNat
  have p3 := pow_le32 b.toNat (by omega)
  by_cases h : 2 ^ (b.toNat - 1) ≤ n
  · have E : Hid (sgnF n b = n - 2 ^ b.toNat) := Lib.hid (if_pos h)
    go_enter Try.func77, Try.ntmps77
    go_wp2_with (go_at_call 70; (with_reducible refine (c70 _ (by omega) (by omega) _).mono ?_); rintro e w' ⟨rfl, rfl⟩)
    go_ret
    exact ⟨ret_int E.out.symm, rfl⟩
  · have E : Hid (sgnF n b = n) := Lib.hid (if_neg h)
    have h' : n < 2 ^ (b.toNat - 1) := by omega
    go_enter Try.func77, Try.ntmps77
    go_wp2_with (go_at_call 70; (with_reducible refine (c70 _ (by omega) (by omega) _).mono ?_); rintro e w' ⟨rfl, rfl⟩)
    go_ret
    exact ⟨ret_int E.out.symm, rfl⟩
set_option maxHeartbeats 4000000 in
theorem c53 (f u : Int) (hf : isForm f) (u0 : 0 ≤ u) (u1 : u ≤ 4294967295) (w : World) :
    Calls Try.prog 53 #[.int .u8 f, .int .i64 u] w fun e w' => e = .returned (.int .i64 (gathS f u)) ∧ Drw w w' := by
  have HD := Lib.hid (drw_refl w)
  have E := Lib.hid (Int.emod_eq_of_lt u0 (show u < 4294967296 by omega))
  rcases hf with rfl | rfl | rfl | rfl | rfl | rfl | rfl | rfl
  · have V := Lib.hid (gathS_85 u0 u1)
    go_enter Try.func53, Try.ntmps53
    go_wp2_with (first
      | (go_at_call 54; (with_reducible refine (m54 _ _ _ _ (by omega) u1 (by decide) (by decide) (by decide) (by decide) (by decide) _).mono ?_); rintro e w' ⟨rfl, q0, q1, hd⟩; replace HD := Lib.hid (drw_trans HD.out hd); clear hd)
      | (go_at_call 77; (with_reducible refine (c77 _ _ (by omega) (by omega) (by decide) (by decide) _).mono ?_); rintro e w' ⟨rfl, rfl⟩))
    go_ret
    exact ⟨ret_int (by rw [V.out]; unfold mvF; rw [E.out]; simp [sgnF]), HD.out⟩
  · have V := Lib.hid (gathS_74 u0 u1)
    have B : mvF u 31 31 20 + mvF u 21 30 1 + mvF u 20 20 11 + mvF u 12 19 12 < 2097152 := by unfold mvF; rw [E.out]; simp; omega
    go_enter Try.func53, Try.ntmps53
    go_wp2_with (first
      | (go_at_call 54; (with_reducible refine (m54 _ _ _ _ (by omega) u1 (by decide) (by decide) (by decide) (by decide) (by decide) _).mono ?_); rintro e w' ⟨rfl, q0, q1, hd⟩; replace HD := Lib.hid (drw_trans HD.out hd); clear hd)
      | (go_at_call 77; (with_reducible refine (c77 _ _ (by omega) (by omega) (by decide) (by decide) _).mono ?_); rintro e w' ⟨rfl, rfl⟩))
    go_ret
    exact ⟨ret_int (by rw [V.out]; unfold mvF; rw [E.out]; simp [sgnF]), HD.out⟩
  · have V := Lib.hid (gathS_73 u0 u1)
    go_enter Try.func53, Try.ntmps53
    go_wp2_with (first
      | (go_at_call 54; (with_reducible refine (m54 _ _ _ _ (by omega) u1 (by decide) (by decide) (by decide) (by decide) (by decide) _).mono ?_); rintro e w' ⟨rfl, q0, q1, hd⟩; replace HD := Lib.hid (drw_trans HD.out hd); clear hd)
      | (go_at_call 77; (with_reducible refine (c77 _ _ (by omega) (by omega) (by decide) (by decide) _).mono ?_); rintro e w' ⟨rfl, rfl⟩))
    go_ret
    exact ⟨ret_int (by rw [V.out]; unfold mvF; rw [E.out]; simp [sgnF]), HD.out⟩
  · have V := Lib.hid (gathS_72 u0 u1)
    go_enter Try.func53, Try.ntmps53
    go_wp2_with (first
      | (go_at_call 54; (with_reducible refine (m54 _ _ _ _ (by omega) u1 (by decide) (by decide) (by decide) (by decide) (by decide) _).mono ?_); rintro e w' ⟨rfl, q0, q1, hd⟩; replace HD := Lib.hid (drw_trans HD.out hd); clear hd)
      | (go_at_call 77; (with_reducible refine (c77 _ _ (by omega) (by omega) (by decide) (by decide) _).mono ?_); rintro e w' ⟨rfl, rfl⟩))
    go_ret
    exact ⟨ret_int (by rw [V.out]; unfold mvF; rw [E.out]; simp [sgnF]), HD.out⟩
  · have V := Lib.hid (gathS_83 u0 u1)
    have B : mvF u 7 11 0 + mvF u 25 31 5 < 4096 := by unfold mvF; rw [E.out]; simp; omega
    go_enter Try.func53, Try.ntmps53
    go_wp2_with (first
      | (go_at_call 54; (with_reducible refine (m54 _ _ _ _ (by omega) u1 (by decide) (by decide) (by decide) (by decide) (by decide) _).mono ?_); rintro e w' ⟨rfl, q0, q1, hd⟩; replace HD := Lib.hid (drw_trans HD.out hd); clear hd)
      | (go_at_call 77; (with_reducible refine (c77 _ _ (by omega) (by omega) (by decide) (by decide) _).mono ?_); rintro e w' ⟨rfl, rfl⟩))
    go_ret
    exact ⟨ret_int (by rw [V.out]; unfold mvF; rw [E.out]; simp [sgnF]), HD.out⟩
  · have V := Lib.hid (gathS_66 u0 u1)
    have B : mvF u 31 31 12 + mvF u 25 30 5 + mvF u 8 11 1 + mvF u 7 7 11 < 8192 := by unfold mvF; rw [E.out]; simp; omega
    go_enter Try.func53, Try.ntmps53
    go_wp2_with (first
      | (go_at_call 54; (with_reducible refine (m54 _ _ _ _ (by omega) u1 (by decide) (by decide) (by decide) (by decide) (by decide) _).mono ?_); rintro e w' ⟨rfl, q0, q1, hd⟩; replace HD := Lib.hid (drw_trans HD.out hd); clear hd)
      | (go_at_call 77; (with_reducible refine (c77 _ _ (by omega) (by omega) (by decide) (by decide) _).mono ?_); rintro e w' ⟨rfl, rfl⟩))
    go_ret
    exact ⟨ret_int (by rw [V.out]; unfold mvF; rw [E.out]; simp [sgnF]), HD.out⟩
  · have V := Lib.hid (gathS_82 u0 u1)
    go_enter Try.func53, Try.ntmps53
    go_wp2
    go_ret
    exact ⟨ret_int (by rw [V.out]), HD.out⟩
  · have V : Hid (gathS 0 u = 0) := Lib.hid (by unfold gathS; rw [gath_0 u u0 (by omega)]; rfl)
    go_enter Try.func53, Try.ntmps53
    go_wp2
    go_ret
    exact ⟨ret_int (by rw [V.out]), HD.out⟩
end Go.Proofs.Ytipfefkddnogjaa
