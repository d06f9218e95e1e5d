/-
  The contract of Few (layer 3).
-/
import Derived.Test.YtipfefkddnogjaaDevLl
namespace Go.Proofs.Ytipfefkddnogjaa
open Go.RowKit
set_option linter.unusedVariables false
set_option linter.unusedSimpArgs false
/-- Is a case not more than statements go through? -/
def fewB (n m i f : Nat) (N : Int) : Bool :=
  decide ((n ≤ 200 ∨ (32768 < n ∧ n ≤ 33000)) ∧ (m ≤ 400 ∨ (65536 < m ∧ m ≤ 66000)) ∧ i ≤ 40 ∧ f ≤ 100 ∧ N ≤ 400)
theorem few_yes {n m i f : Nat} {N : Int} (h : (n ≤ 200 ∨ (32768 < n ∧ n ≤ 33000)) ∧ (m ≤ 400 ∨ (65536 < m ∧ m ≤ 66000)) ∧ i ≤ 40 ∧ f ≤ 100 ∧ N ≤ 400) : Ending.returned (.bool true) = .returned (.bool (fewB n m i f N)) := by
  unfold fewB; rw [decide_eq_true h]
theorem few_no {n m i f : Nat} {N : Int} (h : ¬ ((n ≤ 200 ∨ (32768 < n ∧ n ≤ 33000)) ∧ (m ≤ 400 ∨ (65536 < m ∧ m ≤ 66000)) ∧ i ≤ 40 ∧ f ≤ 100 ∧ N ≤ 400)) : Ending.returned (.bool false) = .returned (.bool (fewB n m i f N)) := by
  unfold fewB; rw [decide_eq_false h]
theorem few_is {n m i f : Nat} {N : Int} {x : Bool} (h : x = fewB n m i f N) : Ending.returned (.bool x) = .returned (.bool (fewB n m i f N)) := by rw [h]
set_option maxRecDepth 100000 in
set_option maxHeartbeats 4000000 in
theorem c18 (a0 a1 a2 a3 : Option Addr) (n m i f c0 c1 c2 c3 : Nat) (N : Int) (w : World) :
    Calls Try.prog 18 #[.agg #[.slice a0 n c0, .slice a1 m c1, .slice a2 i c2, .slice a3 f c3, .int .i64 N]] w fun e w' => e = .returned (.bool (fewB n m i f N)) ∧ Fr (fun _ => False) w w' := by
  have HB : ∀ o, Hid (Fr (fun _ => False) w (w.alloc o)) := fun o => Lib.hid (Fr.of_by0 (World.grownBy_alloc _ _ _))
  by_cases h1 : (n : Int) ≤ 200
  · go_enter Try.func18, Try.ntmps18
    go_wp2
    all_goals
      go_ret
      exact ⟨(by first | exact few_yes (n := n) (m := m) (i := i) (f := f) (N := N) (by omega) | exact few_no (n := n) (m := m) (i := i) (f := f) (N := N) (by omega) | exact few_is (by rw [Bool.eq_iff_iff]; unfold fewB; simp only [Bool.and_eq_true, Bool.or_eq_true, decide_eq_true_eq]; omega)), (HB _).out⟩
  · have h1' : decide ((n : Int) ≤ 200) = false := decide_eq_false h1
    by_cases h2 : 32768 < (n : Int)
    · by_cases h3 : (n : Int) ≤ 33000
      · go_enter Try.func18, Try.ntmps18
        go_wp2
        all_goals
          go_ret
          exact ⟨(by first | exact few_yes (n := n) (m := m) (i := i) (f := f) (N := N) (by omega) | exact few_no (n := n) (m := m) (i := i) (f := f) (N := N) (by omega) | exact few_is (by rw [Bool.eq_iff_iff]; unfold fewB; simp only [Bool.and_eq_true, Bool.or_eq_true, decide_eq_true_eq]; omega)), (HB _).out⟩
      · have h3' : decide ((n : Int) ≤ 33000) = false := decide_eq_false h3
        go_enter Try.func18, Try.ntmps18
        go_wp2
        all_goals
          go_ret
          exact ⟨(by first | exact few_yes (n := n) (m := m) (i := i) (f := f) (N := N) (by omega) | exact few_no (n := n) (m := m) (i := i) (f := f) (N := N) (by omega) | exact few_is (by rw [Bool.eq_iff_iff]; unfold fewB; simp only [Bool.and_eq_true, Bool.or_eq_true, decide_eq_true_eq]; omega)), (HB _).out⟩
    · have h2' : decide (32768 < (n : Int)) = false := decide_eq_false h2
      go_enter Try.func18, Try.ntmps18
      go_wp2
      all_goals
        go_ret
        exact ⟨(by first | exact few_yes (n := n) (m := m) (i := i) (f := f) (N := N) (by omega) | exact few_no (n := n) (m := m) (i := i) (f := f) (N := N) (by omega) | exact few_is (by rw [Bool.eq_iff_iff]; unfold fewB; simp only [Bool.and_eq_true, Bool.or_eq_true, decide_eq_true_eq]; omega)), (HB _).out⟩
end Go.Proofs.Ytipfefkddnogjaa
