/-
  Tokens (layer 7): classes of bytes, the program's and the document's own.
-/
import Derived.Test.YtoffbjfgledjfaaDoorChecked
import Derived.Test.YtoffbjfgledjfaaDoorFr
import Derived.LoopTactic
import Derived.Outline
namespace Go.Proofs.YtoffbjfgledjfaaDoor
open Go.RowKit
set_option linter.unusedVariables false
set_option linter.unusedSimpArgs false
def letB (c : Int) : Bool := decide (97 ≤ c) && decide (c ≤ 122) || decide (65 ≤ c) && decide (c ≤ 90) || c == 95
def digB (c : Int) : Bool := decide (48 ≤ c) && decide (c ≤ 57)
def partB (c : Int) : Bool := letB c || digB c
def blankB (c : Int) : Bool := c == 9 || c == 10 || c == 13 || c == 32
def hexB (c : Int) : Bool := digB c || decide (97 ≤ c) && decide (c ≤ 102) || decide (65 ≤ c) && decide (c ≤ 70)
theorem c25 (c : Int) (w : World) : Calls Tryd.prog 25 #[.int .u8 c] w fun e w' => e = .returned (.bool (letB c)) ∧ w = w' := by
  by_cases h1 : 97 ≤ c
  all_goals by_cases h2 : c ≤ 122
  all_goals by_cases h3 : 65 ≤ c
  all_goals by_cases h4 : c ≤ 90
  all_goals first | (exfalso; omega) | skip
  all_goals
    go_enter Tryd.func25, Tryd.ntmps25
    go_wp2
    go_ret
    refine ⟨?_, rfl⟩
    first | (simp [letB, *]; done) | (simp [letB, *]; omega)
theorem c27 (c : Int) (w : World) : Calls Tryd.prog 27 #[.int .u8 c] w fun e w' => e = .returned (.bool (digB c)) ∧ w = w' := by
  by_cases h1 : 48 ≤ c
  all_goals
    go_enter Tryd.func27, Tryd.ntmps27
    go_wp2
    go_ret
    refine ⟨?_, rfl⟩
    first | (simp [digB, *]; done) | (simp [digB, *]; omega)
theorem c36 (c : Int) (w : World) : Calls Tryd.prog 36 #[.int .u8 c] w fun e w' => e = .returned (.bool (partB c)) ∧ w = w' := by
  cases h : letB c
  all_goals
    go_enter Tryd.func36, Tryd.ntmps36
    go_wp2_with first | (go_at_call 25; (with_reducible refine (c25 _ _).mono ?_); rintro e w' ⟨rfl, rfl⟩; rw [h]) | (go_at_call 27; (with_reducible refine (c27 _ _).mono ?_); rintro e w' ⟨rfl, rfl⟩)
    go_ret
    refine ⟨?_, rfl⟩
    simp [partB, h]
theorem c24 (c : Int) (w : World) : Calls Tryd.prog 24 #[.int .u8 c] w fun e w' => e = .returned (.bool (blankB c)) ∧ w = w' := by
  by_cases h1 : c = 9
  · subst h1
    go_enter Tryd.func24, Tryd.ntmps24
    go_wp2
    go_ret
    exact ⟨rfl, rfl⟩
  by_cases h2 : c = 10
  · subst h2
    go_enter Tryd.func24, Tryd.ntmps24
    go_wp2
    go_ret
    exact ⟨rfl, rfl⟩
  by_cases h3 : c = 13
  · subst h3
    go_enter Tryd.func24, Tryd.ntmps24
    go_wp2
    go_ret
    exact ⟨rfl, rfl⟩
  have e1 : (c == 9) = false := by simpa using h1
  have e2 : (c == 10) = false := by simpa using h2
  have e3 : (c == 13) = false := by simpa using h3
  clear h1 h2 h3
  go_enter Tryd.func24, Tryd.ntmps24
  go_wp2
  go_ret
  refine ⟨?_, rfl⟩
  simp only [blankB, e1, e2, e3, Bool.false_or]; rfl
theorem c38 (c : Int) (w : World) : Calls Tryd.prog 38 #[.int .u8 c] w fun e w' => e = .returned (.bool (hexB c)) ∧ w = w' := by
  cases h : digB c
  all_goals by_cases h1 : 97 ≤ c
  all_goals by_cases h2 : c ≤ 102
  all_goals by_cases h3 : 65 ≤ c
  all_goals by_cases h4 : c ≤ 70
  all_goals first | (exfalso; omega) | skip
  all_goals
    go_enter Tryd.func38, Tryd.ntmps38
    go_wp2_with (go_at_call 27; (with_reducible refine (c27 _ _).mono ?_); rintro e w' ⟨rfl, rfl⟩; rw [h])
    go_ret
    refine ⟨?_, rfl⟩
    first | (simp [hexB, *]; done) | (simp [hexB, *]; omega)
end Go.Proofs.YtoffbjfgledjfaaDoor
