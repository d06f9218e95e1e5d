/-
  The contracts of the document's own functions of layer 2: immediates spread and gathered; codes; which instructions are right.
-/
import Derived.Test.YtnjlcimeaoedcaaQRef
namespace Go.Proofs.Ytnjlcimeaoedcaa
open Go.RowKit
set_option linter.unusedVariables false
set_option linter.unusedSimpArgs false

/-- The world is the same but for draws. -/
def Drw (w w' : World) : Prop := ∃ k, w' = w.drewN k
theorem drw_refl (w : World) : Drw w w := ⟨0, rfl⟩
theorem drw_trans {a b c : World} (h : Drw a b) (h' : Drw b c) : Drw a c := by
  obtain ⟨k, rfl⟩ := h
  obtain ⟨j, rfl⟩ := h'
  exact ⟨k + j, by rw [World.drewN_drewN]⟩
theorem drw_grown {w w1 w2 : World} (h : Grown w w1) (d : Drw w1 w2) : Grown w w2 := by
  obtain ⟨k, rfl⟩ := d
  exact grown_drewN h k
theorem mv_in (n f t a : Int) (f0 : 0 ≤ f) (ft : f ≤ t) (t1 : t ≤ 31) (a0 : 0 ≤ a) (hat : a + (t - f + 1) ≤ 32) : 0 ≤ mvF n f t a ∧ mvF n f t a < 4294967296 := by
  refine ⟨?_, rv54q (n % 4294967296) f t a (by omega) (by omega) f0 ft t1 a0 hat⟩
  have p2 := one_le_pow2 (t - f + 1).toNat
  have p3 := one_le_pow2 a.toNat
  exact Int.mul_nonneg (Int.emod_nonneg _ (by omega)) (by omega)
theorem m54 (n f t a : Int) (n0 : -2147483648 ≤ n) (n1 : n ≤ 4294967295) (f0 : 0 ≤ f) (ft : f ≤ t) (t1 : t ≤ 31) (a0 : 0 ≤ a) (hat : a + (t - f + 1) ≤ 32) (w : World) :
    Calls Try.prog 73 #[.int .i64 n, .int .i64 f, .int .i64 t, .int .i64 a] w fun e w' => e = .returned (.int .i64 (mvF n f t a)) ∧ 0 ≤ mvF n f t a ∧ mvF n f t a < 4294967296 ∧ Drw w w' :=
  (rv54 n f t a n0 n1 f0 ft t1 a0 hat w).mono fun _ _ ⟨he, hk⟩ => ⟨he, (mv_in n f t a f0 ft t1 a0 hat).1, (mv_in n f t a f0 ft t1 a0 hat).2, hk⟩
set_option maxHeartbeats 4000000 in
theorem rv73 (f n : Int) (hf : isForm f) (n0 : -2147483648 ≤ n) (n1 : n ≤ 4294967295) (w : World) :
    Calls Try.prog 55 #[.int .u8 f, .int .i64 n] w fun e w' => e = .returned (.int .i64 (scat f (n % 4294967296) 4)) ∧ Drw w w' := by
  have HD := Lib.hid (drw_refl w)
  rcases hf with rfl | rfl | rfl | rfl | rfl | rfl | rfl | rfl
  · have V := Lib.hid (scat_85 (n % 4294967296) (by omega) (by omega))
    go_enter Try.func55, Try.ntmps55
    go_wp2_with (go_at_call 73; (with_reducible refine (m54 _ _ _ _ n0 n1 (by decide) (by decide) (by decide) (by decide) (by decide) _).mono ?_); rintro e w' ⟨rfl, q0, q1, hd⟩; replace HD := Lib.hid (drw_trans HD.out hd); clear hd)
    go_ret
    exact ⟨ret_int (by rw [V.out]; simp [mvF]), HD.out⟩
  · have V := Lib.hid (scat_74 (n % 4294967296) (by omega) (by omega))
    go_enter Try.func55, Try.ntmps55
    go_wp2_with (go_at_call 73; (with_reducible refine (m54 _ _ _ _ n0 n1 (by decide) (by decide) (by decide) (by decide) (by decide) _).mono ?_); rintro e w' ⟨rfl, q0, q1, hd⟩; replace HD := Lib.hid (drw_trans HD.out hd); clear hd)
    go_ret
    exact ⟨ret_int (by rw [V.out]; simp [mvF]), HD.out⟩
  · have V := Lib.hid (scat_73 (n % 4294967296) (by omega) (by omega))
    go_enter Try.func55, Try.ntmps55
    go_wp2_with (go_at_call 73; (with_reducible refine (m54 _ _ _ _ n0 n1 (by decide) (by decide) (by decide) (by decide) (by decide) _).mono ?_); rintro e w' ⟨rfl, q0, q1, hd⟩; replace HD := Lib.hid (drw_trans HD.out hd); clear hd)
    go_ret
    exact ⟨ret_int (by rw [V.out]; simp [mvF]), HD.out⟩
  · have V := Lib.hid (scat_72 (n % 4294967296) (by omega) (by omega))
    go_enter Try.func55, Try.ntmps55
    go_wp2_with (go_at_call 73; (with_reducible refine (m54 _ _ _ _ n0 n1 (by decide) (by decide) (by decide) (by decide) (by decide) _).mono ?_); rintro e w' ⟨rfl, q0, q1, hd⟩; replace HD := Lib.hid (drw_trans HD.out hd); clear hd)
    go_ret
    exact ⟨ret_int (by rw [V.out]; simp [mvF]), HD.out⟩
  · have V := Lib.hid (scat_83 (n % 4294967296) (by omega) (by omega))
    go_enter Try.func55, Try.ntmps55
    go_wp2_with (go_at_call 73; (with_reducible refine (m54 _ _ _ _ n0 n1 (by decide) (by decide) (by decide) (by decide) (by decide) _).mono ?_); rintro e w' ⟨rfl, q0, q1, hd⟩; replace HD := Lib.hid (drw_trans HD.out hd); clear hd)
    go_ret
    exact ⟨ret_int (by rw [V.out]; simp [mvF]), HD.out⟩
  · have V := Lib.hid (scat_66 (n % 4294967296) (by omega) (by omega))
    go_enter Try.func55, Try.ntmps55
    go_wp2_with (go_at_call 73; (with_reducible refine (m54 _ _ _ _ n0 n1 (by decide) (by decide) (by decide) (by decide) (by decide) _).mono ?_); rintro e w' ⟨rfl, q0, q1, hd⟩; replace HD := Lib.hid (drw_trans HD.out hd); clear hd)
    go_ret
    exact ⟨ret_int (by rw [V.out]; simp [mvF]), HD.out⟩
  · have V := Lib.hid (scat_82 (n % 4294967296) (by omega) (by omega))
    go_enter Try.func55, Try.ntmps55
    go_wp2
    go_ret
    exact ⟨ret_int (by rw [V.out]), HD.out⟩
  · have V := Lib.hid (scat_0 (n % 4294967296) (by omega) (by omega))
    go_enter Try.func55, Try.ntmps55
    go_wp2
    go_ret
    exact ⟨ret_int (by rw [V.out]), HD.out⟩
def sgnF (n b : Int) : Int := if 2 ^ (b.toNat - 1) ≤ n then n - 2 ^ b.toNat else n
end Go.Proofs.Ytnjlcimeaoedcaa
