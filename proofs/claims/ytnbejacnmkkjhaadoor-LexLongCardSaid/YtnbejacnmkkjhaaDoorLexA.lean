/-
  Tokens (layer 7): classes of bytes, the program's and the document's own.
-/
import Derived.Test.YtnbejacnmkkjhaaDoorChecked
import Derived.Test.YtnbejacnmkkjhaaDoorFr
import Derived.LoopTactic
import Derived.Outline
namespace Go.Proofs.YtnbejacnmkkjhaaDoor
open Go.RowKit
set_option linter.unusedVariables false
set_option linter.unusedSimpArgs false
def letB (c : Int) : Bool := decide (97 ≤ c) && decide (c ≤ 122) || decide (65 ≤ c) && decide (c ≤ 90) || c == 95
def digB (c : Int) : Bool := decide (48 ≤ c) && decide (c ≤ 57)
def partB (c : Int) : Bool := letB c || digB c
def blankB (c : Int) : Bool := c == 9 || c == 10 || c == 13 || c == 32
def hexB (c : Int) : Bool := digB c || decide (97 ≤ c) && decide (c ≤ 102) || decide (65 ≤ c) && decide (c ≤ 70)
theorem c11 (c : Int) (w : World) : Calls Tryd.prog 11 #[.int .u8 c] w fun e w' => e = .returned (.bool (letB c)) ∧ w = w' := by
  by_cases h1 : 97 ≤ c
  all_goals by_cases h2 : c ≤ 122
  all_goals by_cases h3 : 65 ≤ c
  all_goals by_cases h4 : c ≤ 90
  all_goals first | (exfalso; omega) | skip
  all_goals
    go_enter Tryd.func11, Tryd.ntmps11
    go_wp2
    go_ret
    refine ⟨?_, rfl⟩
    first | (simp [letB, *]; done) | (simp [letB, *]; omega)
theorem c14 (c : Int) (w : World) : Calls Tryd.prog 14 #[.int .u8 c] w fun e w' => e = .returned (.bool (letB c)) ∧ w = w' := by
  by_cases h1 : 97 ≤ c
  all_goals by_cases h2 : c ≤ 122
  all_goals by_cases h3 : 65 ≤ c
  all_goals by_cases h4 : c ≤ 90
  all_goals first | (exfalso; omega) | skip
  all_goals
    go_enter Tryd.func14, Tryd.ntmps14
    go_wp2
    go_ret
    refine ⟨?_, rfl⟩
    first | (simp [letB, *]; done) | (simp [letB, *]; omega)
theorem c18 (c : Int) (w : World) : Calls Tryd.prog 18 #[.int .u8 c] w fun e w' => e = .returned (.bool (digB c)) ∧ w = w' := by
  by_cases h1 : 48 ≤ c
  all_goals
    go_enter Tryd.func18, Tryd.ntmps18
    go_wp2
    go_ret
    refine ⟨?_, rfl⟩
    first | (simp [digB, *]; done) | (simp [digB, *]; omega)
theorem c19 (c : Int) (w : World) : Calls Tryd.prog 19 #[.int .u8 c] w fun e w' => e = .returned (.bool (digB c)) ∧ w = w' := by
  by_cases h1 : 48 ≤ c
  all_goals
    go_enter Tryd.func19, Tryd.ntmps19
    go_wp2
    go_ret
    refine ⟨?_, rfl⟩
    first | (simp [digB, *]; done) | (simp [digB, *]; omega)
theorem c13 (c : Int) (w : World) : Calls Tryd.prog 13 #[.int .u8 c] w fun e w' => e = .returned (.bool (partB c)) ∧ w = w' := by
  cases h : letB c
  all_goals
    go_enter Tryd.func13, Tryd.ntmps13
    go_wp2_with first | (go_at_call 11; (with_reducible refine (c11 _ _).mono ?_); rintro e w' ⟨rfl, rfl⟩; rw [h]) | (go_at_call 18; (with_reducible refine (c18 _ _).mono ?_); rintro e w' ⟨rfl, rfl⟩)
    go_ret
    refine ⟨?_, rfl⟩
    simp [partB, h]
theorem c29 (c : Int) (w : World) : Calls Tryd.prog 29 #[.int .u8 c] w fun e w' => e = .returned (.bool (blankB c)) ∧ w = w' := by
  by_cases h1 : c = 9
  · subst h1
    go_enter Tryd.func29, Tryd.ntmps29
    go_wp2
    go_ret
    exact ⟨rfl, rfl⟩
  by_cases h2 : c = 10
  · subst h2
    go_enter Tryd.func29, Tryd.ntmps29
    go_wp2
    go_ret
    exact ⟨rfl, rfl⟩
  by_cases h3 : c = 13
  · subst h3
    go_enter Tryd.func29, Tryd.ntmps29
    go_wp2
    go_ret
    exact ⟨rfl, rfl⟩
  have e1 : (c == 9) = false := by simpa using h1
  have e2 : (c == 10) = false := by simpa using h2
  have e3 : (c == 13) = false := by simpa using h3
  clear h1 h2 h3
  go_enter Tryd.func29, Tryd.ntmps29
  go_wp2
  go_ret
  refine ⟨?_, rfl⟩
  simp only [blankB, e1, e2, e3, Bool.false_or]; rfl
theorem c38 (c : Int) (w : World) : Calls Tryd.prog 38 #[.int .u8 c] w fun e w' => e = .returned (.bool (hexB c)) ∧ w = w' := by
  cases h : digB c
  all_goals by_cases h1 : 97 ≤ c
  all_goals by_cases h2 : c ≤ 102
  all_goals by_cases h3 : 65 ≤ c
  all_goals by_cases h4 : c ≤ 70
  all_goals first | (exfalso; omega) | skip
  all_goals
    go_enter Tryd.func38, Tryd.ntmps38
    go_wp2_with (go_at_call 18; (with_reducible refine (c18 _ _).mono ?_); rintro e w' ⟨rfl, rfl⟩; rw [h])
    go_ret
    refine ⟨?_, rfl⟩
    first | (simp [hexB, *]; done) | (simp [hexB, *]; omega)
end Go.Proofs.YtnbejacnmkkjhaaDoor
