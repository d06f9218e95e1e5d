/-
  The contracts of the functions of layer 1 (word) and of the document's own answers to it: what each call returns, and what becomes of memory.
-/
import Derived.Test.YtelgppoohjblnaaRows
import Derived.Test.YtelgppoohjblnaaMath
import Derived.WalkKit
import Derived.ProofKit
import Derived.OpenShut
import Derived.Lib.Hide
namespace Go.Proofs.Ytelgppoohjblnaa
open Go.RowKit
set_option linter.unusedVariables false

theorem c11 (a b : Int) (h0 : 0 ≤ a) (h1 : a ≤ 4294967295) (g0 : 0 ≤ b) (g1 : b ≤ 4294967295) (w : World) :
    Calls Try.prog 11 #[.int .u32 a, .int .u32 b] w fun e w' => e = .returned (.int .u32 ((a + b) % 4294967296)) ∧ w = w' := by
  go_enter Try.func11, Try.ntmps11
  go_wp2
  go_ret
  exact ⟨rfl, rfl⟩
theorem c36 (a b : Int) (h0 : 0 ≤ a) (h1 : a ≤ 4294967295) (g0 : 0 ≤ b) (g1 : b ≤ 4294967295) (w : World) :
    Calls Try.prog 36 #[.int .u32 a, .int .u32 b] w fun e w' => e = .returned (.int .u32 ((a + b) % 4294967296)) ∧ w = w' := by
  go_enter Try.func36, Try.ntmps36
  go_wp2
  go_ret
  exact ⟨rfl, rfl⟩
theorem c12 (a b : Int) (h0 : 0 ≤ a) (h1 : a ≤ 4294967295) (g0 : 0 ≤ b) (g1 : b ≤ 4294967295) (w : World) :
    Calls Try.prog 12 #[.int .u32 a, .int .u32 b] w fun e w' => e = .returned (.int .u32 ((a - b) % 4294967296)) ∧ w = w' := by
  go_enter Try.func12, Try.ntmps12
  go_wp2
  go_ret
  exact ⟨rfl, rfl⟩
/-- The document's Cut, of any number. -/
theorem c35 (n : Int) (h0 : -9223372036854775808 ≤ n) (h1 : n ≤ 9223372036854775807) (w : World) :
    Calls Try.prog 35 #[.int .i64 n] w fun e w' => e = .returned (.int .u32 (n % 4294967296)) ∧ w = w' := by
  by_cases hn : 0 ≤ n
  · go_enter Try.func35, Try.ntmps35
    go_wp2
    all_goals go_ret
    all_goals exact ⟨ret_int (by omega), rfl⟩
  · have e := tmod_neg 4294967296 (n := n) (by omega)
    have e1 : -4294967296 < n.tmod 4294967296 := by omega
    have e2 : n.tmod 4294967296 ≤ 0 := by omega
    have H := Lib.hid e
    clear e
    go_enter Try.func35, Try.ntmps35
    go_wp2
    all_goals go_ret
    all_goals exact ⟨ret_int (by have := H.out; omega), rfl⟩
theorem c37 (a b : Int) (h0 : 0 ≤ a) (h1 : a ≤ 4294967295) (g0 : 0 ≤ b) (g1 : b ≤ 4294967295) (w : World) :
    Calls Try.prog 37 #[.int .u32 a, .int .u32 b] w fun e w' => e = .returned (.int .u32 ((a - b) % 4294967296)) ∧ w = w' := by
  go_enter Try.func37, Try.ntmps37
  go_wp2_with (go_at_call 35; (with_reducible refine (c35 _ (by omega) (by omega) _).mono ?_); rintro e w' ⟨rfl, rfl⟩)
  go_ret
  exact ⟨rfl, rfl⟩
theorem c13 (a b : Int) (h0 : 0 ≤ a) (h1 : a ≤ 4294967295) (g0 : 0 ≤ b) (g1 : b ≤ 4294967295) (w : World) :
    Calls Try.prog 13 #[.int .u32 a, .int .u32 b] w fun e w' => e = .returned (.int .u32 (mulF a b)) ∧ w = w' := by
  go_enter Try.func13, Try.ntmps13
  go_wp2
  go_ret
  exact ⟨rfl, rfl⟩
theorem c49 (a b : Int) (h0 : 0 ≤ a) (h1 : a ≤ 4294967295) (g0 : 0 ≤ b) (g1 : b ≤ 4294967295) (w : World) :
    Calls Try.prog 49 #[.int .u32 a, .int .u32 b] w fun e w' => e = .returned (.tuple #[.int .u32 (highUF a b), .int .u32 (mulF a b)]) ∧ w = w' := by
  have p1 := mul_in (x := a % 65536) (y := b % 65536) (X := 65535) (Y := 65535) (by omega) (by omega) (by omega) (by omega)
  have p2 := mul_in (x := a / 65536) (y := b % 65536) (X := 65535) (Y := 65535) (by omega) (by omega) (by omega) (by omega)
  have p3 := mul_in (x := a % 65536) (y := b / 65536) (X := 65535) (Y := 65535) (by omega) (by omega) (by omega) (by omega)
  have p4 := mul_in (x := a / 65536) (y := b / 65536) (X := 65535) (Y := 65535) (by omega) (by omega) (by omega) (by omega)
  obtain ⟨p11, p12⟩ := p1
  obtain ⟨p21, p22⟩ := p2
  obtain ⟨p31, p32⟩ := p3
  obtain ⟨p41, p42⟩ := p4
  have H := Lib.hid (half_sum a b)
  go_enter Try.func49, Try.ntmps49
  go_wp2
  go_ret2
  exact ⟨ret_two (by unfold highUF; have := H.out; omega) (by unfold mulF; have := H.out; omega), rfl⟩
theorem c38 (a b : Int) (h0 : 0 ≤ a) (h1 : a ≤ 4294967295) (g0 : 0 ≤ b) (g1 : b ≤ 4294967295) (w : World) :
    Calls Try.prog 38 #[.int .u32 a, .int .u32 b] w fun e w' => e = .returned (.int .u32 (mulF a b)) ∧ w = w' := by
  go_enter Try.func38, Try.ntmps38
  go_wp2_with (go_at_call 49; (with_reducible refine (c49 _ _ h0 h1 g0 g1 _).mono ?_); rintro e w' ⟨rfl, rfl⟩)
  go_ret
  exact ⟨rfl, rfl⟩
theorem c33 (a : Int) (h0 : 0 ≤ a) (h1 : a ≤ 4294967295) (w : World) :
    Calls Try.prog 33 #[.int .u32 a] w fun e w' => e = .returned (.int .i64 (sg a)) ∧ w = w' := by
  by_cases h : a < 2147483648
  all_goals
    go_enter Try.func33, Try.ntmps33
    go_wp2
    go_ret
    exact ⟨ret_int (by unfold sg; split <;> omega), rfl⟩
theorem c34 (n : Int) (h0 : -9223372036854775807 ≤ n) (h1 : n ≤ 9223372036854775807) (w : World) :
    Calls Try.prog 34 #[.int .i64 n] w fun e w' => e = .returned (.int .i64 (n.natAbs : Int)) ∧ w = w' := by
  by_cases h : n < 0
  all_goals
    go_enter Try.func34, Try.ntmps34
    go_wp2
    go_ret
    exact ⟨ret_int (by omega), rfl⟩
theorem c14 (a b : Int) (h0 : 0 ≤ a) (h1 : a ≤ 4294967295) (g0 : 0 ≤ b) (g1 : b ≤ 4294967295) (w : World) :
    Calls Try.prog 14 #[.int .u32 a, .int .u32 b] w fun e w' => e = .returned (.int .u32 (divF a b)) ∧ w = w' := by
  by_cases hb : b = 0
  · subst hb
    have e0 : wrap64 (wrap32 0) = 0 := by rw [sg_wrap g0 g1]; rfl
    go_enter Try.func14, Try.ntmps14
    go_wp2
    go_ret
    exact ⟨ret_int (by simp [divF]), rfl⟩
  · have ea := sg_wrap h0 h1
    have eb := sg_wrap g0 g1
    have hz : (sg b == 0) = false := by have := sg_zero g0 g1; simp; omega
    have hz' : ¬ sg b = 0 := by have := sg_zero g0 g1; omega
    have l1 := sg_lo h0 h1
    have l2 := sg_hi h0 h1
    obtain ⟨l3, l4⟩ := tdiv_in (y := sg b) l1 l2
    go_enter Try.func14, Try.ntmps14
    go_wp2
    go_ret
    exact ⟨ret_int (by unfold divF; rw [if_neg hb]), rfl⟩
theorem c15 (a b : Int) (h0 : 0 ≤ a) (h1 : a ≤ 4294967295) (g0 : 0 ≤ b) (g1 : b ≤ 4294967295) (w : World) :
    Calls Try.prog 15 #[.int .u32 a, .int .u32 b] w fun e w' => e = .returned (.int .u32 (remF a b)) ∧ w = w' := by
  have ea := sg_wrap h0 h1
  have l1 := sg_lo h0 h1
  have l2 := sg_hi h0 h1
  by_cases hb : b = 0
  · subst hb
    have e0 : wrap64 (wrap32 0) = 0 := by rw [sg_wrap g0 g1]; rfl
    go_enter Try.func15, Try.ntmps15
    go_wp2
    go_ret
    exact ⟨ret_int (by show sg a % 4294967296 = _; rw [sg_mod h0 h1]; simp [remF]), rfl⟩
  · have eb := sg_wrap g0 g1
    have hz : (sg b == 0) = false := by have := sg_zero g0 g1; simp; omega
    have hz' : ¬ sg b = 0 := by have := sg_zero g0 g1; omega
    obtain ⟨l3, l4⟩ := tmod_in (x := sg a) (y := sg b) (sg_lo g0 g1) (sg_hi g0 g1) hz'
    go_enter Try.func15, Try.ntmps15
    go_wp2
    go_ret
    exact ⟨ret_int (by unfold remF; rw [if_neg hb]), rfl⟩
theorem c20 (a b : Int) (h0 : 0 ≤ a) (h1 : a ≤ 4294967295) (g0 : 0 ≤ b) (g1 : b ≤ 4294967295) (w : World) :
    Calls Try.prog 20 #[.int .u32 a, .int .u32 b] w fun e w' => e = .returned (.int .u32 (divF a b)) ∧ w = w' := by
  by_cases hb : b = 0
  · subst hb
    have e0 : sg 0 = 0 := rfl
    go_enter Try.func20, Try.ntmps20
    go_wp2_with (first
      | (go_at_call 33; (with_reducible refine (c33 _ h0 h1 _).mono ?_); rintro e w' ⟨rfl, rfl⟩)
      | (go_at_call 33; (with_reducible refine (c33 _ g0 g1 _).mono ?_); rintro e w' ⟨rfl, rfl⟩))
    go_ret
    exact ⟨ret_int (by simp [divF]), rfl⟩
  · have hz' : ¬ sg b = 0 := by have := sg_zero g0 g1; omega
    have D := Lib.hid (div_ref (sg a) (sg b) hz')
    have hz : (sg b == 0) = false := by simpa using hz'
    have l1 := sg_lo h0 h1
    have l2 := sg_hi h0 h1
    have m1 := sg_lo g0 g1
    have m2 := sg_hi g0 g1
    have hx : sg a < 0 ∨ (0 ≤ sg a ∧ sg a ≤ 0) ∨ 0 < sg a := by omega
    have hy : sg b < 0 ∨ 0 < sg b := by omega
    have R : Hid (divF a b = (sg a).tdiv (sg b) % 4294967296) := Lib.hid (by unfold divF; rw [if_neg hb])
    generalize divF a b = d at R
    generalize hsa : sg a = x at *
    generalize hsb : sg b = y at *
    have C1 : ∀ w, Calls Try.prog 33 #[.int .u32 a] w fun e w' => e = .returned (.int .i64 x) ∧ w = w' := fun w => hsa ▸ c33 a h0 h1 w
    have C2 : ∀ w, Calls Try.prog 33 #[.int .u32 b] w fun e w' => e = .returned (.int .i64 y) ∧ w = w' := fun w => hsb ▸ c33 b g0 g1 w
    have C3 := c34 x (by omega) (by omega)
    have C4 := c34 y (by omega) (by omega)
    have k0 : 0 ≤ (x.natAbs : Int) := by omega
    have k1 : 1 ≤ (y.natAbs : Int) := by omega
    have k2 : (x.natAbs : Int) ≤ 2147483648 := by omega
    generalize (x.natAbs : Int) = X at *
    generalize (y.natAbs : Int) = Y at *
    have q0 : 0 ≤ X / Y := Int.ediv_nonneg k0 (by omega)
    have q1 : X / Y ≤ 2147483648 := by have := Int.ediv_le_self Y k0; omega
    have HC1 := Lib.hid C1
    have HC2 := Lib.hid C2
    have HC3 := Lib.hid C3
    have HC4 := Lib.hid C4
    clear C1 C2 C3 C4 hsa hsb hb
    rcases hx with hx | ⟨hx, hx'⟩ | hx <;> rcases hy with hy | hy
    all_goals
      go_enter Try.func20, Try.ntmps20
      go_wp2_with (first
        | (go_at_call 33; (with_reducible refine (HC1.out _).mono ?_); rintro e w' ⟨rfl, rfl⟩)
        | (go_at_call 33; (with_reducible refine (HC2.out _).mono ?_); rintro e w' ⟨rfl, rfl⟩)
        | (go_at_call 34; (with_reducible refine (HC3.out _).mono ?_); rintro e w' ⟨rfl, rfl⟩)
        | (go_at_call 34; (with_reducible refine (HC4.out _).mono ?_); rintro e w' ⟨rfl, rfl⟩)
        | (go_at_call 35; (with_reducible refine (c35 _ (by omega) (by omega) _).mono ?_); rintro e w' ⟨rfl, rfl⟩))
      go_ret
      refine ⟨ret_int ?_, rfl⟩
      rw [R.out, D.out]
      first | rw [if_pos (by omega)] | rw [if_neg (by omega)]
theorem c21 (a b : Int) (h0 : 0 ≤ a) (h1 : a ≤ 4294967295) (g0 : 0 ≤ b) (g1 : b ≤ 4294967295) (w : World) :
    Calls Try.prog 21 #[.int .u32 a, .int .u32 b] w fun e w' => e = .returned (.int .u32 (remF a b)) ∧ w = w' := by
  by_cases hb : b = 0
  · subst hb
    have e0 : sg 0 = 0 := rfl
    go_enter Try.func21, Try.ntmps21
    go_wp2_with (first
      | (go_at_call 33; (with_reducible refine (c33 _ h0 h1 _).mono ?_); rintro e w' ⟨rfl, rfl⟩)
      | (go_at_call 33; (with_reducible refine (c33 _ g0 g1 _).mono ?_); rintro e w' ⟨rfl, rfl⟩))
    go_ret
    exact ⟨ret_int (by simp [remF]), rfl⟩
  · have hz' : ¬ sg b = 0 := by have := sg_zero g0 g1; omega
    have D := Lib.hid (rem_ref (sg a) (sg b))
    have hz : (sg b == 0) = false := by simpa using hz'
    have l1 := sg_lo h0 h1
    have l2 := sg_hi h0 h1
    have m1 := sg_lo g0 g1
    have m2 := sg_hi g0 g1
    have R : Hid (remF a b = (sg a).tmod (sg b) % 4294967296) := Lib.hid (by unfold remF; rw [if_neg hb])
    generalize remF a b = d at R
    generalize hsa : sg a = x at *
    generalize hsb : sg b = y at *
    have C1 : ∀ w, Calls Try.prog 33 #[.int .u32 a] w fun e w' => e = .returned (.int .i64 x) ∧ w = w' := fun w => hsa ▸ c33 a h0 h1 w
    have C2 : ∀ w, Calls Try.prog 33 #[.int .u32 b] w fun e w' => e = .returned (.int .i64 y) ∧ w = w' := fun w => hsb ▸ c33 b g0 g1 w
    have C3 := c34 x (by omega) (by omega)
    have C4 := c34 y (by omega) (by omega)
    have k0 : 0 ≤ (x.natAbs : Int) := by omega
    have k1 : 1 ≤ (y.natAbs : Int) := by omega
    have k2 : (x.natAbs : Int) ≤ 2147483648 := by omega
    have k3 : (y.natAbs : Int) ≤ 2147483648 := by omega
    generalize (x.natAbs : Int) = X at *
    generalize (y.natAbs : Int) = Y at *
    have q0 : 0 ≤ X % Y := Int.emod_nonneg _ (by omega)
    have q1 : X % Y ≤ 2147483648 := by have := Int.emod_lt_of_pos X (b := Y) (by omega); omega
    have HC1 := Lib.hid C1
    have HC2 := Lib.hid C2
    have HC3 := Lib.hid C3
    have HC4 := Lib.hid C4
    clear C1 C2 C3 C4 hsa hsb hb
    by_cases hx : x < 0
    all_goals
      go_enter Try.func21, Try.ntmps21
      go_wp2_with (first
        | (go_at_call 33; (with_reducible refine (HC1.out _).mono ?_); rintro e w' ⟨rfl, rfl⟩)
        | (go_at_call 33; (with_reducible refine (HC2.out _).mono ?_); rintro e w' ⟨rfl, rfl⟩)
        | (go_at_call 34; (with_reducible refine (HC3.out _).mono ?_); rintro e w' ⟨rfl, rfl⟩)
        | (go_at_call 34; (with_reducible refine (HC4.out _).mono ?_); rintro e w' ⟨rfl, rfl⟩)
        | (go_at_call 35; (with_reducible refine (c35 _ (by omega) (by omega) _).mono ?_); rintro e w' ⟨rfl, rfl⟩))
      go_ret
      refine ⟨ret_int ?_, rfl⟩
      rw [R.out, D.out]
      first | rw [if_pos (by omega)] | rw [if_neg (by omega)]
/-- The unsigned quotient and remainder. -/
def divUF (a b : Int) : Int := if b = 0 then 4294967295 else a / b
def remUF (a b : Int) : Int := if b = 0 then a else a % b
theorem divU_in {a b : Int} (h0 : 0 ≤ a) (h1 : a ≤ 4294967295) (g0 : 0 ≤ b) : 0 ≤ a / b ∧ a / b ≤ 4294967295 :=
  ⟨Int.ediv_nonneg h0 g0, by have := Int.ediv_le_self b h0; omega⟩
theorem remU_in {a b : Int} (g0 : 1 ≤ b) (g1 : b ≤ 4294967295) : 0 ≤ a % b ∧ a % b ≤ 4294967295 :=
  ⟨Int.emod_nonneg _ (by omega), by have := Int.emod_lt_of_pos a (b := b) (by omega); omega⟩
end Go.Proofs.Ytelgppoohjblnaa
