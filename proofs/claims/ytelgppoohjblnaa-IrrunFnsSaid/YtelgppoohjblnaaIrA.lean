/-
  Any function of two words (layer 14): the program's and the document's own.
-/
import Derived.Test.YtelgppoohjblnaaShift
import Derived.Test.YtelgppoohjblnaaFr
namespace Go.Proofs.Ytelgppoohjblnaa
open Go.RowKit
set_option linter.unusedVariables false
set_option linter.unusedSimpArgs false
def tr (p : Bool) : Int := if p then 1 else 0
theorem less_tr (a b : Int) : lessF a b = tr (decide (sg a < sg b)) := by unfold lessF tr; by_cases h : sg a < sg b <;> simp [h]
theorem c18 (p : Bool) (w : World) : Calls Try.prog 18 #[.bool p] w fun e w' => e = .returned (.int .u32 (tr p)) ∧ w = w' := by
  cases p
  all_goals
    go_enter Try.func18, Try.ntmps18
    go_wp2
    go_ret
    exact ⟨rfl, rfl⟩
theorem c41 (p : Bool) (w : World) : Calls Try.prog 41 #[.bool p] w fun e w' => e = .returned (.int .u32 (tr p)) ∧ w = w' := by
  cases p
  all_goals
    go_enter Try.func41, Try.ntmps41
    go_wp2
    go_ret
    exact ⟨rfl, rfl⟩
/-- What function fn makes of a and b. -/
def irF (fn a b : Int) : Int :=
  if fn = 1 then (a + b) % 4294967296 else if fn = 2 then (a - b) % 4294967296 else if fn = 3 then mulF a b else if fn = 4 then divF a b else if fn = 5 then remF a b else if fn = 6 then bits .and .u32 a b else if fn = 7 then bits .or .u32 a b else if fn = 8 then bits .xor .u32 a b else if fn = 9 then leftF a b else if fn = 10 then rightSF a b else if fn = 11 then tr (a == b) else if fn = 12 then tr (a != b) else if fn = 13 then tr (decide (sg a < sg b)) else if fn = 14 then tr (decide (sg b < sg a)) else if fn = 15 then tr (decide (sg a ≤ sg b)) else if fn = 16 then tr (decide (sg b ≤ sg a)) else if fn = 17 then (0 - a) % 4294967296 else if fn = 18 then 4294967295 - a else if fn = 19 then tr (a == 0) else 0
theorem irF_1 (a b : Int) : irF 1 a b = (a + b) % 4294967296 := rfl
theorem irF_2 (a b : Int) : irF 2 a b = (a - b) % 4294967296 := rfl
theorem irF_3 (a b : Int) : irF 3 a b = mulF a b := rfl
theorem irF_4 (a b : Int) : irF 4 a b = divF a b := rfl
theorem irF_5 (a b : Int) : irF 5 a b = remF a b := rfl
theorem irF_6 (a b : Int) : irF 6 a b = bits .and .u32 a b := rfl
theorem irF_7 (a b : Int) : irF 7 a b = bits .or .u32 a b := rfl
theorem irF_8 (a b : Int) : irF 8 a b = bits .xor .u32 a b := rfl
theorem irF_9 (a b : Int) : irF 9 a b = leftF a b := rfl
theorem irF_10 (a b : Int) : irF 10 a b = rightSF a b := rfl
theorem irF_11 (a b : Int) : irF 11 a b = tr (a == b) := rfl
theorem irF_12 (a b : Int) : irF 12 a b = tr (a != b) := rfl
theorem irF_13 (a b : Int) : irF 13 a b = tr (decide (sg a < sg b)) := rfl
theorem irF_14 (a b : Int) : irF 14 a b = tr (decide (sg b < sg a)) := rfl
theorem irF_15 (a b : Int) : irF 15 a b = tr (decide (sg a ≤ sg b)) := rfl
theorem irF_16 (a b : Int) : irF 16 a b = tr (decide (sg b ≤ sg a)) := rfl
theorem irF_17 (a b : Int) : irF 17 a b = (0 - a) % 4294967296 := rfl
theorem irF_18 (a b : Int) : irF 18 a b = 4294967295 - a := rfl
theorem irF_19 (a b : Int) : irF 19 a b = tr (a == 0) := rfl
theorem irF_no (fn a b : Int) (h : fn < 1 ∨ 19 < fn) : irF fn a b = 0 := by unfold irF; simp; omega
theorem le_tr (a b : Int) : (1 - lessF b a) % 4294967296 = tr (decide (sg a ≤ sg b)) := by
  rw [less_tr]; unfold tr; by_cases h : sg b < sg a
  · have : ¬ sg a ≤ sg b := by omega
    simp [h, this]
  · have : sg a ≤ sg b := by omega
    simp [h, this]
theorem xorN (n : Nat) (h : n < 2^32) : (2^32-1) ^^^ n = 2^32 - 1 - n := by
  apply Nat.eq_of_testBit_eq; intro i
  rw [Nat.testBit_xor, Nat.testBit_two_pow_sub_one]
  have := Nat.testBit_two_pow_sub_succ (x := n) (n := 32) h i
  rw [show 2^32 - 1 - n = 2^32 - (n+1) by omega, this]
  by_cases hi : i < 32
  · simp [hi]
  · have : n.testBit i = false := Nat.testBit_lt_two_pow (Nat.lt_of_lt_of_le h (Nat.pow_le_pow_right (by decide) (by omega)))
    simp [hi, this]
theorem not_xor (a : Int) (h0 : 0 ≤ a) (h1 : a ≤ 4294967295) : bits .xor .u32 IntKind.u32.max a = 4294967295 - a := by
  obtain ⟨n, rfl⟩ := Int.eq_ofNat_of_zero_le h0
  have e : (BitVec.ofInt 32 (n : Int)).toNat = n := by simp; omega
  have m : (BitVec.ofInt 32 (4294967295 : Int)).toNat = 2^32-1 := by decide
  show IntKind.u32.wrap ((BitVec.ofInt 32 (4294967295 : Int) ^^^ BitVec.ofInt 32 (n : Int)).toNat : Int) = _
  rw [BitVec.toNat_xor, e, m, xorN n (by omega)]
  simp [IntKind.wrap, IntKind.bits, IntKind.signed]; omega
theorem not_u32 (a : Int) (h0 : 0 ≤ a) (h1 : a ≤ 4294967295) : (4294967295 - a) % 4294967296 = 4294967295 - a := by omega
theorem sg_eq {a b : Int} (h0 : 0 ≤ a) (h1 : a ≤ 4294967295) (g0 : 0 ≤ b) (g1 : b ≤ 4294967295) : (sg a = sg b) = (a = b) := by
  unfold sg; apply propext; split <;> split <;> omega
set_option maxHeartbeats 4000000 in
theorem c6 (fn : Int) (a b : Int) (h0 : 0 ≤ a) (h1 : a ≤ 4294967295) (g0 : 0 ≤ b) (g1 : b ≤ 4294967295) (w : World) : Calls Try.prog 6 #[.int .i64 fn, .int .u32 a, .int .u32 b] w fun e w' => e = .returned (.int .u32 (irF fn a b)) ∧ Fr (fun _ => False) w w' := by
  by_cases hr : fn < 1 ∨ 19 < fn
  · have hh : (List.range 19).all (fun k => (fn == ((k + 1 : Nat) : Int)) == false) = true := by
      rw [List.all_eq_true]; intro k hk; have := List.mem_range.1 hk; simp; omega
    have HE := Lib.hid (irF_no fn a b hr)
    have e1 : (fn == 1) = false := by simp; omega
    have e2 : (fn == 2) = false := by simp; omega
    have e3 : (fn == 3) = false := by simp; omega
    have e4 : (fn == 4) = false := by simp; omega
    have e5 : (fn == 5) = false := by simp; omega
    have e6 : (fn == 6) = false := by simp; omega
    have e7 : (fn == 7) = false := by simp; omega
    have e8 : (fn == 8) = false := by simp; omega
    have e9 : (fn == 9) = false := by simp; omega
    have e10 : (fn == 10) = false := by simp; omega
    have e11 : (fn == 11) = false := by simp; omega
    have e12 : (fn == 12) = false := by simp; omega
    have e13 : (fn == 13) = false := by simp; omega
    have e14 : (fn == 14) = false := by simp; omega
    have e15 : (fn == 15) = false := by simp; omega
    have e16 : (fn == 16) = false := by simp; omega
    have e17 : (fn == 17) = false := by simp; omega
    have e18 : (fn == 18) = false := by simp; omega
    have e19 : (fn == 19) = false := by simp; omega
    clear hh hr
    go_enter Try.func6, Try.ntmps6
    go_wp2
    go_ret
    exact ⟨by rw [HE.out]; rfl, Fr.refl _ _⟩
  · have : fn = 1 ∨ fn = 2 ∨ fn = 3 ∨ fn = 4 ∨ fn = 5 ∨ fn = 6 ∨ fn = 7 ∨ fn = 8 ∨ fn = 9 ∨ fn = 10 ∨ fn = 11 ∨ fn = 12 ∨ fn = 13 ∨ fn = 14 ∨ fn = 15 ∨ fn = 16 ∨ fn = 17 ∨ fn = 18 ∨ fn = 19 := by omega
    clear hr
    rcases this with rfl | rfl | rfl | rfl | rfl | rfl | rfl | rfl | rfl | rfl | rfl | rfl | rfl | rfl | rfl | rfl | rfl | rfl | rfl
    · go_enter Try.func6, Try.ntmps6
      go_wp2_with (go_at_call 11; (with_reducible refine (c11 _ _ h0 h1 g0 g1 _).mono ?_); rintro e w2 ⟨rfl, rfl⟩)
      go_ret
      exact ⟨rfl, Fr.refl _ _⟩
    · go_enter Try.func6, Try.ntmps6
      go_wp2_with (go_at_call 12; (with_reducible refine (c12 _ _ h0 h1 g0 g1 _).mono ?_); rintro e w2 ⟨rfl, rfl⟩)
      go_ret
      exact ⟨rfl, Fr.refl _ _⟩
    · go_enter Try.func6, Try.ntmps6
      go_wp2_with (go_at_call 13; (with_reducible refine (c13 _ _ h0 h1 g0 g1 _).mono ?_); rintro e w2 ⟨rfl, rfl⟩)
      go_ret
      exact ⟨rfl, Fr.refl _ _⟩
    · go_enter Try.func6, Try.ntmps6
      go_wp2_with (go_at_call 14; (with_reducible refine (c14 _ _ h0 h1 g0 g1 _).mono ?_); rintro e w2 ⟨rfl, rfl⟩)
      go_ret
      exact ⟨rfl, Fr.refl _ _⟩
    · go_enter Try.func6, Try.ntmps6
      go_wp2_with (go_at_call 15; (with_reducible refine (c15 _ _ h0 h1 g0 g1 _).mono ?_); rintro e w2 ⟨rfl, rfl⟩)
      go_ret
      exact ⟨rfl, Fr.refl _ _⟩
    · go_enter Try.func6, Try.ntmps6
      go_wp2
      go_ret
      exact ⟨rfl, Fr.refl _ _⟩
    · go_enter Try.func6, Try.ntmps6
      go_wp2
      go_ret
      exact ⟨rfl, Fr.refl _ _⟩
    · go_enter Try.func6, Try.ntmps6
      go_wp2
      go_ret
      exact ⟨rfl, Fr.refl _ _⟩
    · go_enter Try.func6, Try.ntmps6
      go_wp2_with (go_at_call 16; (with_reducible refine (c16 _ _ h0 h1 g0 g1 _).mono ?_); rintro e w2 ⟨rfl, rfl⟩)
      go_ret
      exact ⟨rfl, Fr.refl _ _⟩
    · go_enter Try.func6, Try.ntmps6
      go_wp2_with (go_at_call 17; (with_reducible refine (c17 _ _ h0 h1 g0 g1 _).mono ?_); rintro e w2 ⟨rfl, rfl⟩)
      go_ret
      exact ⟨rfl, fr_al (Fr.refl _ _) _⟩
    · go_enter Try.func6, Try.ntmps6
      go_wp2_with (go_at_call 18; (with_reducible refine (c18 _ _).mono ?_); rintro e w2 ⟨rfl, rfl⟩)
      go_ret
      exact ⟨rfl, Fr.refl _ _⟩
    · go_enter Try.func6, Try.ntmps6
      go_wp2_with (go_at_call 18; (with_reducible refine (c18 _ _).mono ?_); rintro e w2 ⟨rfl, rfl⟩)
      go_ret
      exact ⟨rfl, Fr.refl _ _⟩
    · go_enter Try.func6, Try.ntmps6
      go_wp2_with (go_at_call 19; (with_reducible refine (c19 _ _ h0 h1 g0 g1 _).mono ?_); rintro e w2 ⟨rfl, rfl⟩)
      go_ret
      exact ⟨ret_int (less_tr a b), Fr.refl _ _⟩
    · go_enter Try.func6, Try.ntmps6
      go_wp2_with (go_at_call 19; (with_reducible refine (c19 _ _ g0 g1 h0 h1 _).mono ?_); rintro e w2 ⟨rfl, rfl⟩)
      go_ret
      exact ⟨ret_int (less_tr b a), Fr.refl _ _⟩
    · go_enter Try.func6, Try.ntmps6
      go_wp2_with (go_at_call 19; (with_reducible refine (c19 _ _ g0 g1 h0 h1 _).mono ?_); rintro e w2 ⟨rfl, rfl⟩)
      go_ret
      exact ⟨ret_int (le_tr a b), Fr.refl _ _⟩
    · go_enter Try.func6, Try.ntmps6
      go_wp2_with (go_at_call 19; (with_reducible refine (c19 _ _ h0 h1 g0 g1 _).mono ?_); rintro e w2 ⟨rfl, rfl⟩)
      go_ret
      exact ⟨ret_int (le_tr b a), Fr.refl _ _⟩
    · go_enter Try.func6, Try.ntmps6
      go_wp2_with (go_at_call 12; (with_reducible refine (c12 _ _ (by omega) (by omega) h0 h1 _).mono ?_); rintro e w2 ⟨rfl, rfl⟩)
      go_ret
      exact ⟨ret_int (by rw [irF_17]; congr 1; omega), Fr.refl _ _⟩
    · go_enter Try.func6, Try.ntmps6
      go_wp2
      go_ret
      exact ⟨ret_int (not_xor a h0 h1), Fr.refl _ _⟩
    · go_enter Try.func6, Try.ntmps6
      go_wp2_with (go_at_call 18; (with_reducible refine (c18 _ _).mono ?_); rintro e w2 ⟨rfl, rfl⟩)
      go_ret
      exact ⟨rfl, Fr.refl _ _⟩
theorem ap_cell (fn a b : Int) (h0 : 0 ≤ a) (h1 : a ≤ 4294967295) (g0 : 0 ≤ b) (g1 : b ≤ 4294967295) (l : 1 ≤ fn) (r : fn ≤ 19) (n : Nat) (w : World) :
    ((w.drewN n).alloc (.cells #[.int .u32 (0), .int .u32 ((a + b) % 4294967296), .int .u32 ((a - b) % 4294967296), .int .u32 (mulF a b), .int .u32 (divF a b), .int .u32 (remF a b), .int .u32 (bits .and .u32 a b), .int .u32 (bits .or .u32 a b), .int .u32 (bits .xor .u32 a b), .int .u32 (leftF a b), .int .u32 (rightSF a b), .int .u32 (tr (sg a == sg b)), .int .u32 (tr (sg a != sg b)), .int .u32 (tr (decide (sg a < sg b))), .int .u32 (tr (decide (sg b < sg a))), .int .u32 (tr (decide (sg a ≤ sg b))), .int .u32 (tr (decide (sg b ≤ sg a))), .int .u32 (-a % 4294967296), .int .u32 ((4294967295 - a) % 4294967296), .int .u32 (tr (a == 0))] 22)).cell? ⟨w.heap.size, fn.toNat, none⟩ = some (.int .u32 (irF fn a b)) := by
  have e1 : (sg a == sg b) = (a == b) := by rw [Bool.eq_iff_iff]; simp [sg_eq h0 h1 g0 g1]
  have e2 : (sg a != sg b) = (a != b) := by rw [Bool.eq_iff_iff]; simp [sg_eq h0 h1 g0 g1]
  have e3 : -a % 4294967296 = irF 17 a b := by rw [irF_17]; congr 1; omega
  have e4 : (4294967295 - a) % 4294967296 = irF 18 a b := by rw [irF_18]; omega
  rw [e1, e2, e3, e4]
  refine fcell (w.drewN n) _ 22 fn.toNat (.int .u32 (irF fn a b)) ?_
  have : fn = 1 ∨ fn = 2 ∨ fn = 3 ∨ fn = 4 ∨ fn = 5 ∨ fn = 6 ∨ fn = 7 ∨ fn = 8 ∨ fn = 9 ∨ fn = 10 ∨ fn = 11 ∨ fn = 12 ∨ fn = 13 ∨ fn = 14 ∨ fn = 15 ∨ fn = 16 ∨ fn = 17 ∨ fn = 18 ∨ fn = 19 := by omega
  rcases this with rfl | rfl | rfl | rfl | rfl | rfl | rfl | rfl | rfl | rfl | rfl | rfl | rfl | rfl | rfl | rfl | rfl | rfl | rfl
  all_goals rfl
end Go.Proofs.Ytelgppoohjblnaa
