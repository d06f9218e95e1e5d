/-
  Any function of two words (layer 14): the document's own walks.
-/
import Derived.Test.YtelgppoohjblnaaIrA
namespace Go.Proofs.Ytelgppoohjblnaa
open Go.RowKit
set_option linter.unusedVariables false
set_option linter.unusedSimpArgs false
set_option maxRecDepth 100000 in
set_option maxHeartbeats 4000000 in
theorem apply_in (fn a b : Int) (h0 : 0 ≤ a) (h1 : a ≤ 4294967295) (g0 : 0 ≤ b) (g1 : b ≤ 4294967295) (f0 : 1 ≤ fn) (f1 : fn ≤ 19) (n4 : fn ≠ 4) (n5 : fn ≠ 5) (w : World) :
    Calls Try.prog 22 #[.int .i64 fn, .int .u32 a, .int .u32 b] w fun e w' => e = .returned (.tuple #[.int .u32 (irF fn a b), .int .i64 0]) ∧ Fr (fun _ => False) w w' := by
  have e4 : (fn == 4) = false := by simpa using n4
  have e5 : (fn == 5) = false := by simpa using n5
  have l0 : decide (fn < 1) = false := by simp; omega
  have l1 : decide (20 ≤ fn) = false := by simp; omega
  have HL := ap_cell fn a b h0 h1 g0 g1 f0 f1
  go_enter Try.func22, Try.ntmps22
  go_wp2_with (first
    | (go_at_call 33; (with_reducible refine (c33 _ h0 h1 _).mono ?_); rintro e w2 ⟨rfl, rfl⟩)
    | (go_at_call 33; (with_reducible refine (c33 _ g0 g1 _).mono ?_); rintro e w2 ⟨rfl, rfl⟩)
    | (go_at_call 36; (with_reducible refine (c36 _ _ h0 h1 g0 g1 _).mono ?_); rintro e w2 ⟨rfl, rfl⟩)
    | (go_at_call 37; (with_reducible refine (c37 _ _ h0 h1 g0 g1 _).mono ?_); rintro e w2 ⟨rfl, rfl⟩)
    | (go_at_call 38; (with_reducible refine (c38 _ _ h0 h1 g0 g1 _).mono ?_); rintro e w2 ⟨rfl, rfl⟩)
    | (go_at_call 20; (with_reducible refine (c20 _ _ h0 h1 g0 g1 _).mono ?_); rintro e w2 ⟨rfl, rfl⟩)
    | (go_at_call 21; (with_reducible refine (c21 _ _ h0 h1 g0 g1 _).mono ?_); rintro e w2 ⟨rfl, rfl⟩)
    | (go_at_call 39; (with_reducible refine (c39 _ _ h0 h1 g0 g1 _).mono ?_); rintro e w2 ⟨rfl, n, rfl⟩)
    | (go_at_call 40; (with_reducible refine (c40 _ _ h0 h1 g0 g1 _).mono ?_); rintro e w2 ⟨rfl, rfl⟩)
    | (go_at_call 37; (with_reducible refine (c37 _ _ (by omega) (by omega) h0 h1 _).mono ?_); rintro e w2 ⟨rfl, rfl⟩)
    | (go_at_call 41; (with_reducible refine (c41 _ _).mono ?_); rintro e w2 ⟨rfl, rfl⟩))
  go_ret2
  exact ⟨rfl, fr_al ((Fr.refl _ _).drewN _) _⟩
set_option maxRecDepth 100000 in
set_option maxHeartbeats 4000000 in
theorem apply_out (fn a b : Int) (h0 : 0 ≤ a) (h1 : a ≤ 4294967295) (g0 : 0 ≤ b) (g1 : b ≤ 4294967295) (f0 : fn < 1 ∨ 19 < fn) (w : World) :
    Calls Try.prog 22 #[.int .i64 fn, .int .u32 a, .int .u32 b] w fun e w' => e = .returned (.tuple #[.int .u32 0, .int .i64 1]) ∧ Fr (fun _ => False) w w' := by
  have e4 : (fn == 4) = false := by simp; omega
  have e5 : (fn == 5) = false := by simp; omega
  by_cases l : fn < 1
  · have l0 : decide (fn < 1) = true := by simpa using l
    clear f0
    go_enter Try.func22, Try.ntmps22
    go_wp2_with (first
      | (go_at_call 33; (with_reducible refine (c33 _ h0 h1 _).mono ?_); rintro e w2 ⟨rfl, rfl⟩)
      | (go_at_call 33; (with_reducible refine (c33 _ g0 g1 _).mono ?_); rintro e w2 ⟨rfl, rfl⟩)
      | (go_at_call 36; (with_reducible refine (c36 _ _ h0 h1 g0 g1 _).mono ?_); rintro e w2 ⟨rfl, rfl⟩)
      | (go_at_call 37; (with_reducible refine (c37 _ _ h0 h1 g0 g1 _).mono ?_); rintro e w2 ⟨rfl, rfl⟩)
      | (go_at_call 38; (with_reducible refine (c38 _ _ h0 h1 g0 g1 _).mono ?_); rintro e w2 ⟨rfl, rfl⟩)
      | (go_at_call 20; (with_reducible refine (c20 _ _ h0 h1 g0 g1 _).mono ?_); rintro e w2 ⟨rfl, rfl⟩)
      | (go_at_call 21; (with_reducible refine (c21 _ _ h0 h1 g0 g1 _).mono ?_); rintro e w2 ⟨rfl, rfl⟩)
      | (go_at_call 39; (with_reducible refine (c39 _ _ h0 h1 g0 g1 _).mono ?_); rintro e w2 ⟨rfl, n, rfl⟩)
      | (go_at_call 40; (with_reducible refine (c40 _ _ h0 h1 g0 g1 _).mono ?_); rintro e w2 ⟨rfl, rfl⟩)
      | (go_at_call 37; (with_reducible refine (c37 _ _ (by omega) (by omega) h0 h1 _).mono ?_); rintro e w2 ⟨rfl, rfl⟩)
      | (go_at_call 41; (with_reducible refine (c41 _ _).mono ?_); rintro e w2 ⟨rfl, rfl⟩))
    go_ret2
    exact ⟨rfl, fr_al ((Fr.refl _ _).drewN _) _⟩
  · have l0 : decide (fn < 1) = false := by simpa using l
    have l1 : decide (20 ≤ fn) = true := by simp; omega
    clear f0
    go_enter Try.func22, Try.ntmps22
    go_wp2_with (first
      | (go_at_call 33; (with_reducible refine (c33 _ h0 h1 _).mono ?_); rintro e w2 ⟨rfl, rfl⟩)
      | (go_at_call 33; (with_reducible refine (c33 _ g0 g1 _).mono ?_); rintro e w2 ⟨rfl, rfl⟩)
      | (go_at_call 36; (with_reducible refine (c36 _ _ h0 h1 g0 g1 _).mono ?_); rintro e w2 ⟨rfl, rfl⟩)
      | (go_at_call 37; (with_reducible refine (c37 _ _ h0 h1 g0 g1 _).mono ?_); rintro e w2 ⟨rfl, rfl⟩)
      | (go_at_call 38; (with_reducible refine (c38 _ _ h0 h1 g0 g1 _).mono ?_); rintro e w2 ⟨rfl, rfl⟩)
      | (go_at_call 20; (with_reducible refine (c20 _ _ h0 h1 g0 g1 _).mono ?_); rintro e w2 ⟨rfl, rfl⟩)
      | (go_at_call 21; (with_reducible refine (c21 _ _ h0 h1 g0 g1 _).mono ?_); rintro e w2 ⟨rfl, rfl⟩)
      | (go_at_call 39; (with_reducible refine (c39 _ _ h0 h1 g0 g1 _).mono ?_); rintro e w2 ⟨rfl, n, rfl⟩)
      | (go_at_call 40; (with_reducible refine (c40 _ _ h0 h1 g0 g1 _).mono ?_); rintro e w2 ⟨rfl, rfl⟩)
      | (go_at_call 37; (with_reducible refine (c37 _ _ (by omega) (by omega) h0 h1 _).mono ?_); rintro e w2 ⟨rfl, rfl⟩)
      | (go_at_call 41; (with_reducible refine (c41 _ _).mono ?_); rintro e w2 ⟨rfl, rfl⟩))
    go_ret2
    exact ⟨rfl, fr_al ((Fr.refl _ _).drewN _) _⟩
theorem reffn_of (fn a b : Int) (h0 : 0 ≤ a) (h1 : a ≤ 4294967295) (g0 : 0 ≤ b) (g1 : b ≤ 4294967295) (w : World) :
    Calls Try.prog 7 #[.int .i64 fn, .int .u32 a, .int .u32 b] w fun e w' => e = .returned (.int .u32 (irF fn a b)) ∧ Fr (fun _ => False) w w' := by
  by_cases n4 : fn = 4
  · subst n4
    go_enter Try.func7, Try.ntmps7
    go_wp2_with (go_at_call 20; (with_reducible refine (c20 _ _ h0 h1 g0 g1 _).mono ?_); rintro e w2 ⟨rfl, rfl⟩)
    go_ret
    exact ⟨rfl, Fr.refl _ _⟩
  by_cases n5 : fn = 5
  · subst n5
    go_enter Try.func7, Try.ntmps7
    go_wp2_with (go_at_call 21; (with_reducible refine (c21 _ _ h0 h1 g0 g1 _).mono ?_); rintro e w2 ⟨rfl, rfl⟩)
    go_ret
    exact ⟨rfl, Fr.refl _ _⟩
  have e4 : (fn == 4) = false := by simpa using n4
  have e5 : (fn == 5) = false := by simpa using n5
  by_cases hr : fn < 1 ∨ 19 < fn
  · have HE := Lib.hid (irF_no fn a b hr)
    have HA := Lib.hid (apply_out fn a b h0 h1 g0 g1 hr)
    clear hr n4 n5
    go_enter Try.func7, Try.ntmps7
    go_wp2_with (go_at_call 22; (with_reducible refine (HA.out _).mono ?_); rintro e w2 ⟨rfl, hf⟩; have HF := Lib.hid hf; clear hf)
    go_ret
    exact ⟨by rw [HE.out]; rfl, HF.out⟩
  · have HA := Lib.hid (apply_in fn a b h0 h1 g0 g1 (by omega) (by omega) n4 n5)
    clear hr n4 n5
    go_enter Try.func7, Try.ntmps7
    go_wp2_with (go_at_call 22; (with_reducible refine (HA.out _).mono ?_); rintro e w2 ⟨rfl, hf⟩; have HF := Lib.hid hf; clear hf)
    go_ret
    exact ⟨rfl, HF.out⟩
end Go.Proofs.Ytelgppoohjblnaa
