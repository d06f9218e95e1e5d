/-
  Registers that are none, left out (layer 13): the library's DeleteFunc over a row of the call's own.
-/
import Derived.Test.YteghojgdljlplaaDoorTelC
namespace Go.Proofs.YteghojgdljlplaaDoor
open Go.RowKit
set_option linter.unusedVariables false
set_option linter.unusedSimpArgs false
theorem ask_any (x : Int) (w : World) : Calls Tryd.prog 36 #[.int .i64 x] w fun e w' => e = .returned (.bool (x == -1)) ∧ w' = w := by
  go_enter Tryd.func36, Tryd.ntmps36
  go_wp2
  go_ret
  exact ⟨rfl, rfl⟩
/-- The first place of none, or no place. -/
def IdxR (n : Nat) (l : List Int) (e : Ending) : Prop := (∃ k : Nat, k < n ∧ l.getD k 0 = -1 ∧ (∀ j, j < k → l.getD j 0 ≠ -1) ∧ ((k : Int) == -1) = false ∧ e = .returned (.int .i64 k)) ∨ ((∀ j, j < n → l.getD j 0 ≠ -1) ∧ e = .returned (.int .i64 (-1)))
set_option maxRecDepth 100000 in
set_option maxHeartbeats 4000000 in
theorem idx_any (l : List Int) (a : Option Addr) (n c : Nat) (hn : n = l.length) (hb : n ≤ 1000) (w : World) (h : IntsAt w a l) : Calls Tryd.prog 54 #[.slice a n c, .func (.func 36) #[] #[]] w fun e w' => IdxR n l e ∧ w' = w := by
  have HN := Lib.hid hn
  have HI := Lib.hid h
  clear hn h
  go_enter Tryd.func54, Tryd.ntmps54
  go_wp2
  go_loopw [8] (fun q wr => ∃ k : Nat, q = .int .i64 k ∧ k ≤ n ∧ wr = w ∧ Hid (∀ j, j < k → l.getD j 0 ≠ -1)) (fun q _ => n - (intOf q).toNat)
  case atStart => exact ⟨0, rfl, Nat.zero_le _, rfl, Lib.hid (fun j hj => absurd hj (by omega))⟩
  case round =>
    obtain ⟨k, rfl, hk, rfl, HW⟩ := hrel
    by_cases hlt : k < n
    · obtain ⟨g, o, rfl, C⟩ := HI.out k (by rw [← HN.out]; exact hlt)
      obtain ⟨x, hx⟩ : ∃ x, l.getD k 0 = x := ⟨_, rfl⟩
      rw [hx] at C
      by_cases e : x = -1
      · subst e
        have HX := Lib.hid hx
        clear hx
        go_wp2_with (go_at_call 36; (with_reducible refine (ask_any _ _).mono ?_); rintro e w2 ⟨rfl, rfl⟩)
        go_ret
        exact ⟨.inl ⟨k, hlt, HX.out, HW.out, by simp, rfl⟩, rfl⟩
      · have HX : Hid (∀ j, j < k + 1 → l.getD j 0 ≠ -1) := Lib.hid (fun j hj => by
          by_cases hjk : j < k
          · exact HW.out j hjk
          · obtain rfl : j = k := by omega
            rw [hx]; exact e)
        have e' : (x == -1) = false := by simpa using e
        clear hx e
        go_wp2_with (go_at_call 36; (with_reducible refine (ask_any _ _).mono ?_); rintro e w2 ⟨rfl, rfl⟩)
        go_roundw
        case rel => exact ⟨k + 1, by go_num, by omega, trivial, HX⟩
        case measure => simp [intOf]; omega
    · obtain rfl : k = n := by omega
      go_wp2
      go_ret
      exact ⟨.inr ⟨HW.out, rfl⟩, rfl⟩
end Go.Proofs.YteghojgdljlplaaDoor
