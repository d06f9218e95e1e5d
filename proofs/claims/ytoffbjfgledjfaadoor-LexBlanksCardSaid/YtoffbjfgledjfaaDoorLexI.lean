/-
  Tokens (layer 7): blanks; the position behind a text.
-/
import Derived.Test.YtoffbjfgledjfaaDoorLexH
namespace Go.Proofs.YtoffbjfgledjfaaDoor
open Go.RowKit
set_option linter.unusedVariables false
set_option linter.unusedSimpArgs false
set_option maxRecDepth 100000 in
theorem blank_plain (s : ByteArray) (hs : s.size ≤ maxLen) (h1 : prefB s ⟨#[47, 47]⟩ = false) (h2 : prefB s ⟨#[47, 42]⟩ = false) (w : World) :
    Calls Tryd.prog 16 #[.string s] w fun e w' => e = .returned (.tuple #[.int .i64 (spanN blankB s.data.toList), .int .i64 0]) ∧ w = w' := by
  have HP := Lib.hid (c19 s ⟨#[47, 47]⟩)
  rw [h1] at HP
  have HC := Lib.hid (cutprefix_no s ⟨#[47, 42]⟩ h2)
  have HS : Hid (∀ w, Calls Tryd.prog 23 #[.string s, .func (.func 24) #[] #[]] w fun e w' => e = .returned (.int .i64 (spanN blankB s.data.toList)) ∧ w = w') := Lib.hid (fun w => span_blank s w hs)
  generalize (spanN blankB s.data.toList : Int) = n at *
  clear h1 h2 hs
  go_enter Tryd.func16, Tryd.ntmps16
  go_wp2_with first | (go_at_call 19; (with_reducible refine (HP.out _).mono ?_); rintro e w' ⟨rfl, rfl⟩) | (go_at_call 21; (with_reducible refine (HC.out _).mono ?_); rintro e w' ⟨rfl, rfl⟩) | (go_at_call 23; (with_reducible refine (HS.out _).mono ?_); rintro e w' ⟨rfl, rfl⟩)
  exact bodyPost_ret (v := .tuple #[.int .i64 n, .int .i64 0]) (by simp [results, Tryd.results16, go_sem]) rfl ⟨rfl, rfl⟩
theorem blank_line (s : ByteArray) (h1 : prefB s ⟨#[47, 47]⟩ = true) (hne : (([10] : List UInt8) == s.toList) = false) (hx : Lib.indexByte s.data.toList 10 = -1) (w : World) :
    Calls Tryd.prog 16 #[.string s] w fun e w' => e = .returned (.tuple #[.int .i64 s.size, .int .i64 0]) ∧ w = w' := by
  have HP := Lib.hid (c19 s ⟨#[47, 47]⟩)
  rw [h1] at HP
  have HC := Lib.hid (cut_no s hne hx)
  clear h1 hne hx
  go_enter Tryd.func16, Tryd.ntmps16
  go_wp2_with first | (go_at_call 19; (with_reducible refine (HP.out _).mono ?_); rintro e w' ⟨rfl, rfl⟩) | (go_at_call 20; (with_reducible refine (HC.out _).mono ?_); rintro e w' ⟨rfl, rfl⟩)
  exact bodyPost_ret (v := .tuple #[.int .i64 s.size, .int .i64 0]) (by simp [results, Tryd.results16, go_sem]) rfl ⟨rfl, rfl⟩
set_option maxRecDepth 100000 in
set_option maxHeartbeats 4000000 in
theorem after_plain (l c : Int) (s : ByteArray) (hs : s.size ≤ 1000000) (c0 : 0 ≤ c) (c1 : c ≤ 1000000000) (hn : ∀ j (hj : j < s.size), (((s[j]'hj).toNat : Int) == 10) = false) (w : World) :
    Calls Tryd.prog 14 #[.agg #[.int .i64 l, .int .i64 c], .string s] w fun e w' => e = .returned (.agg #[.int .i64 l, .int .i64 (c + s.size)]) ∧ Fr (fun _ => False) w w' := by
  have HN := Lib.hid hn
  clear hn
  go_enter Tryd.func14, Tryd.ntmps14
  go_wp2
  go_loopw [8, 5] (fun q _ wr => ∃ k : Nat, q = .int .i64 k ∧ k ≤ s.size ∧ Hid (wr = (w.alloc (.cells #[.int .i64 l, .int .i64 (c + k)] 25)).alloc (.cells #[.int .i64 0, .int .i64 0] 25))) (fun q _ _ => s.size - (intOf q).toNat)
  case atStart => exact ⟨0, rfl, Nat.zero_le _, Lib.hid (by simp)⟩
  case round =>
    obtain ⟨k, rfl, hk, HW⟩ := hrel
    have hw := HW.out
    clear HW
    by_cases hlt : k < s.size
    · have t0 : (0 : Int) ≤ k := by omega
      have t1 : (k : Int) < s.size := by omega
      have e1 := HN.out k hlt
      subst hw
      go_wp2
      go_roundw
      case rel => exact ⟨k + 1, by go_num, by omega, Lib.hid (by rw [show c + ((k + 1 : Nat) : Int) = c + k + 1 by omega])⟩
      case measure => simp [intOf]; omega
    · obtain rfl : k = s.size := by omega
      subst hw
      go_wp2
      exact bodyPost_ret (v := .agg #[.int .i64 l, .int .i64 (c + s.size)]) (by simp [results, Tryd.results14, go_sem]) rfl ⟨rfl, fr_al (fr_al (Fr.refl _ _) _) _⟩
end Go.Proofs.YtoffbjfgledjfaaDoor
