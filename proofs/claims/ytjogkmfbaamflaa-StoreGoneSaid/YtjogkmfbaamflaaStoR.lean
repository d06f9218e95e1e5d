/-
  Memories (layer 11): the walk of the law on what is gone.
-/
import Derived.Test.YtjogkmfbaamflaaStoQ
import Derived.Deep.RegionHeld3
import Derived.Outline
namespace Go.Proofs.Ytjogkmfbaamflaa
open Go.RowKit
set_option linter.unusedVariables false
set_option linter.unusedSimpArgs false
set_option maxRecDepth 100000 in
set_option maxHeartbeats 4000000 in
theorem gone_few (n a q : Int) (w : World) (hb : n < 1 ∨ (¬ n < 1 ∧ 300 < n) ∨ (¬ n < 1 ∧ ¬ 300 < n ∧ a < 0) ∨ (¬ n < 1 ∧ ¬ 300 < n ∧ ¬ a < 0 ∧ q < 1) ∨ (¬ n < 1 ∧ ¬ 300 < n ∧ ¬ a < 0 ∧ ¬ q < 1 ∧ n < a) ∨ (¬ n < 1 ∧ ¬ 300 < n ∧ ¬ a < 0 ∧ ¬ q < 1 ∧ ¬ n < a ∧ n - a < q)) :
    Calls Try.prog 4 #[.int .i64 n, .int .i64 a, .int .i64 q] w fun r w' => r = .returned (.bool true) ∧ Fr (fun _ => False) w w' := by
  rcases hb with h1 | ⟨h1, h2⟩ | ⟨h1, h2, h3⟩ | ⟨h1, h2, h3, h4⟩ | ⟨h1, h2, h3, h4, h5⟩ | ⟨h1, h2, h3, h4, h5, h6⟩
  · have d1 : decide (n < 1) = true := decide_eq_true h1
    go_enter Try.func4, Try.ntmps4
    go_wp2_with (go_at_call 6; (with_reducible refine (awake_of _).mono ?_); rintro r w3 ⟨rfl, hf⟩; have HV := Lib.hid hf; clear hf)
    go_ret
    exact ⟨rfl, HV.out⟩
  · have d1 : decide (n < 1) = false := decide_eq_false h1
    have d2 : decide (300 < n) = true := decide_eq_true h2
    go_enter Try.func4, Try.ntmps4
    go_wp2_with (go_at_call 6; (with_reducible refine (awake_of _).mono ?_); rintro r w3 ⟨rfl, hf⟩; have HV := Lib.hid hf; clear hf)
    go_ret
    exact ⟨rfl, HV.out⟩
  · have d1 : decide (n < 1) = false := decide_eq_false h1
    have d2 : decide (300 < n) = false := decide_eq_false h2
    have d3 : decide (a < 0) = true := decide_eq_true h3
    go_enter Try.func4, Try.ntmps4
    go_wp2_with (go_at_call 6; (with_reducible refine (awake_of _).mono ?_); rintro r w3 ⟨rfl, hf⟩; have HV := Lib.hid hf; clear hf)
    go_ret
    exact ⟨rfl, HV.out⟩
  · have d1 : decide (n < 1) = false := decide_eq_false h1
    have d2 : decide (300 < n) = false := decide_eq_false h2
    have d3 : decide (a < 0) = false := decide_eq_false h3
    have d4 : decide (q < 1) = true := decide_eq_true h4
    go_enter Try.func4, Try.ntmps4
    go_wp2_with (go_at_call 6; (with_reducible refine (awake_of _).mono ?_); rintro r w3 ⟨rfl, hf⟩; have HV := Lib.hid hf; clear hf)
    go_ret
    exact ⟨rfl, HV.out⟩
  · have d1 : decide (n < 1) = false := decide_eq_false h1
    have d2 : decide (300 < n) = false := decide_eq_false h2
    have d3 : decide (a < 0) = false := decide_eq_false h3
    have d4 : decide (q < 1) = false := decide_eq_false h4
    have d5 : decide (n < a) = true := decide_eq_true h5
    go_enter Try.func4, Try.ntmps4
    go_wp2_with (go_at_call 6; (with_reducible refine (awake_of _).mono ?_); rintro r w3 ⟨rfl, hf⟩; have HV := Lib.hid hf; clear hf)
    go_ret
    exact ⟨rfl, HV.out⟩
  · have d1 : decide (n < 1) = false := decide_eq_false h1
    have d2 : decide (300 < n) = false := decide_eq_false h2
    have d3 : decide (a < 0) = false := decide_eq_false h3
    have d4 : decide (q < 1) = false := decide_eq_false h4
    have d5 : decide (n < a) = false := decide_eq_false h5
    have d6 : decide (n - a < q) = true := decide_eq_true h6
    go_enter Try.func4, Try.ntmps4
    go_wp2_with (go_at_call 6; (with_reducible refine (awake_of _).mono ?_); rintro r w3 ⟨rfl, hf⟩; have HV := Lib.hid hf; clear hf)
    go_ret
    exact ⟨rfl, HV.out⟩
end Go.Proofs.Ytjogkmfbaamflaa
