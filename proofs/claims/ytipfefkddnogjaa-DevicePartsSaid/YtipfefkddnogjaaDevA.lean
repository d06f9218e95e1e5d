/-
  The contract of compute (layer 3): a switch of 27 cases with fallthrough; the way out of its blocks is walked by small lemmas of its own.
-/
import Derived.Test.YtipfefkddnogjaaDevA0
namespace Go.Proofs.Ytipfefkddnogjaa
open Go.RowKit
set_option linter.unusedVariables false
set_option linter.unusedSimpArgs false
theorem past_block {id k : Nat} {Q : Exit → Act → World → Prop} {a : Act} {w : World} (h : (k == id) = false) (hq : Q (.exit k) a w) : Exit.inBlock id Q (.exit k) a w := by
  have : ¬ k = id := by simpa using h
  simp only [Exit.inBlock, if_neg this]; exact hq
theorem past_then {k : Nat} {Q : Exit → Act → World → Prop} {K : Act → World → Prop} {a : Act} {w : World} (hq : Q (.exit k) a w) : Exit.then K Q (.exit k) a w := hq
theorem at_block {id : Nat} {Q : Exit → Act → World → Prop} {a : Act} {w : World} (hq : Q .normal a w) : Exit.inBlock id Q (.exit id) a w := by
  simp only [Exit.inBlock, if_true]; exact hq
/-- What an instruction without a place makes of two words, by the number of its long form. -/
def longF (op a b : Int) : Int :=
  if op = 28 then (a + b) % 4294967296 else if op = 29 then (a - b) % 4294967296 else if op = 30 then leftF a b else if op = 31 then lessF a b else if op = 32 then lessUF a b else if op = 33 then bits .xor .u32 a b
  else if op = 34 then rightF a b else if op = 35 then rightSF a b else if op = 36 then bits .or .u32 a b else if op = 37 then bits .and .u32 a b else multF op a b
/-- The long form of a short one. -/
def longOf (op : Int) : Int := if op = 19 then 28 else if op = 20 then 31 else if op = 21 then 32 else if op = 22 then 33 else if op = 23 then 36 else if op = 24 then 37 else if op = 25 then 30 else if op = 26 then 34 else if op = 27 then 35 else op
def compF (op a b imm : Int) : Int := longF (longOf op) a (if op ≤ 27 then imm else b)
set_option maxRecDepth 100000 in
set_option maxHeartbeats 4000000 in
theorem c87_m (op a b imm : Int) (ho : 38 ≤ op ∧ op ≤ 45) (a0 : 0 ≤ a) (a1 : a ≤ 4294967295) (b0 : 0 ≤ b) (b1 : b ≤ 4294967295) (i0 : 0 ≤ imm) (i1 : imm ≤ 4294967295) (w : World) :
    Calls Try.prog 87 #[.int .i64 op, .int .u32 a, .int .u32 b, .int .u32 imm] w fun e w' => e = .returned (.int .u32 (compF op a b imm)) ∧ w.grownBy w' none := by
  have HB := Lib.hid (byRefl w)
  have hc : op = 38 ∨ op = 39 ∨ op = 40 ∨ op = 41 ∨ op = 42 ∨ op = 43 ∨ op = 44 ∨ op = 45 := by omega
  rcases hc with rfl | rfl | rfl | rfl | rfl | rfl | rfl | rfl
  all_goals
    clear ho
    go_enter Try.func87, Try.ntmps87
    iterate 440 (first | (first | with_reducible refine wp_exit ?_ | with_reducible refine past_then ?_ | with_reducible refine past_block rfl ?_ | with_reducible refine at_block ?_) | ((fail_if_success go_at_call 98); (fail_if_success go_at_call 82); (fail_if_success go_at_call 96); (fail_if_success go_at_call 90); (fail_if_success go_at_call 91); (fail_if_success go_at_call 81); (fail_if_success go_at_call 97); (fail_if_success go_at_call 80); first | go_values | go_skip | go_guarded | go_step) | skip)
    go_wp2_with (first | (first | with_reducible refine wp_exit ?_ | with_reducible refine past_then ?_ | with_reducible refine past_block rfl ?_ | with_reducible refine at_block ?_) | (go_at_call 98; (with_reducible refine (c98 _ a b (by decide) a0 a1 b0 b1 _).mono ?_); rintro e w' ⟨rfl, hg⟩; have HG := Lib.hid hg; clear hg))
    go_tidy
    go_ret
    exact ⟨rfl, HG.out⟩
set_option maxRecDepth 100000 in
set_option maxHeartbeats 4000000 in
theorem c87_i (op a b imm : Int) (ho : 19 ≤ op ∧ op ≤ 27) (a0 : 0 ≤ a) (a1 : a ≤ 4294967295) (b0 : 0 ≤ b) (b1 : b ≤ 4294967295) (i0 : 0 ≤ imm) (i1 : imm ≤ 4294967295) (w : World) :
    Calls Try.prog 87 #[.int .i64 op, .int .u32 a, .int .u32 b, .int .u32 imm] w fun e w' => e = .returned (.int .u32 (compF op a b imm)) ∧ w.grownBy w' none := by
  have HB := Lib.hid (byRefl w)
  have hc : op = 19 ∨ op = 20 ∨ op = 21 ∨ op = 22 ∨ op = 23 ∨ op = 24 ∨ op = 25 ∨ op = 26 ∨ op = 27 := by omega
  rcases hc with rfl | rfl | rfl | rfl | rfl | rfl | rfl | rfl | rfl
  all_goals
    clear ho
    go_enter Try.func87, Try.ntmps87
    iterate 440 (first | (first | with_reducible refine wp_exit ?_ | with_reducible refine past_then ?_ | with_reducible refine past_block rfl ?_ | with_reducible refine at_block ?_) | ((fail_if_success go_at_call 98); (fail_if_success go_at_call 82); (fail_if_success go_at_call 96); (fail_if_success go_at_call 90); (fail_if_success go_at_call 91); (fail_if_success go_at_call 81); (fail_if_success go_at_call 97); (fail_if_success go_at_call 80); first | go_values | go_skip | go_guarded | go_step) | skip)
    go_wp2_with (first | (first | with_reducible refine wp_exit ?_ | with_reducible refine past_then ?_ | with_reducible refine past_block rfl ?_ | with_reducible refine at_block ?_) | (go_at_call 82; (with_reducible refine (c82 _ _ a0 a1 (by assumption) (by assumption) _).mono ?_); rintro e w' ⟨rfl, rfl⟩) | (go_at_call 96; (with_reducible refine (c96 _ _ a0 a1 (by assumption) (by assumption) _).mono ?_); rintro e w' ⟨rfl, rfl⟩) | (go_at_call 90; (with_reducible refine (c90 _ _ a0 a1 (by assumption) (by assumption) _).mono ?_); rintro e w' ⟨rfl, rfl⟩) | (go_at_call 91; (with_reducible refine (c91 _ _ a0 a1 (by assumption) (by assumption) _).mono ?_); rintro e w' ⟨rfl, rfl⟩) | (go_at_call 81; (with_reducible refine (c81 _ _ a0 a1 (by assumption) (by assumption) _).mono ?_); rintro e w' ⟨rfl, rfl⟩) | (go_at_call 97; (with_reducible refine (c97 _ _ a0 a1 (by assumption) (by assumption) _).mono ?_); rintro e w' ⟨rfl, rfl⟩) | (go_at_call 80; (with_reducible refine (c80 _ _ a0 a1 (by assumption) (by assumption) _).mono ?_); rintro e w' ⟨rfl, rfl⟩))
    go_tidy
    go_ret
    exact ⟨rfl, (by first | exact HB.out | exact byAlloc HB.out _)⟩
set_option maxRecDepth 100000 in
set_option maxHeartbeats 4000000 in
theorem c87_s (op a b imm : Int) (ho : 28 ≤ op ∧ op ≤ 37) (a0 : 0 ≤ a) (a1 : a ≤ 4294967295) (b0 : 0 ≤ b) (b1 : b ≤ 4294967295) (i0 : 0 ≤ imm) (i1 : imm ≤ 4294967295) (w : World) :
    Calls Try.prog 87 #[.int .i64 op, .int .u32 a, .int .u32 b, .int .u32 imm] w fun e w' => e = .returned (.int .u32 (compF op a b imm)) ∧ w.grownBy w' none := by
  have HB := Lib.hid (byRefl w)
  have hc : op = 28 ∨ op = 29 ∨ op = 30 ∨ op = 31 ∨ op = 32 ∨ op = 33 ∨ op = 34 ∨ op = 35 ∨ op = 36 ∨ op = 37 := by omega
  rcases hc with rfl | rfl | rfl | rfl | rfl | rfl | rfl | rfl | rfl | rfl
  all_goals
    clear ho
    go_enter Try.func87, Try.ntmps87
    iterate 440 (first | (first | with_reducible refine wp_exit ?_ | with_reducible refine past_then ?_ | with_reducible refine past_block rfl ?_ | with_reducible refine at_block ?_) | ((fail_if_success go_at_call 98); (fail_if_success go_at_call 82); (fail_if_success go_at_call 96); (fail_if_success go_at_call 90); (fail_if_success go_at_call 91); (fail_if_success go_at_call 81); (fail_if_success go_at_call 97); (fail_if_success go_at_call 80); first | go_values | go_skip | go_guarded | go_step) | skip)
    go_wp2_with (first | (first | with_reducible refine wp_exit ?_ | with_reducible refine past_then ?_ | with_reducible refine past_block rfl ?_ | with_reducible refine at_block ?_) | (go_at_call 82; (with_reducible refine (c82 _ _ a0 a1 (by assumption) (by assumption) _).mono ?_); rintro e w' ⟨rfl, rfl⟩) | (go_at_call 96; (with_reducible refine (c96 _ _ a0 a1 (by assumption) (by assumption) _).mono ?_); rintro e w' ⟨rfl, rfl⟩) | (go_at_call 90; (with_reducible refine (c90 _ _ a0 a1 (by assumption) (by assumption) _).mono ?_); rintro e w' ⟨rfl, rfl⟩) | (go_at_call 91; (with_reducible refine (c91 _ _ a0 a1 (by assumption) (by assumption) _).mono ?_); rintro e w' ⟨rfl, rfl⟩) | (go_at_call 81; (with_reducible refine (c81 _ _ a0 a1 (by assumption) (by assumption) _).mono ?_); rintro e w' ⟨rfl, rfl⟩) | (go_at_call 97; (with_reducible refine (c97 _ _ a0 a1 (by assumption) (by assumption) _).mono ?_); rintro e w' ⟨rfl, rfl⟩) | (go_at_call 80; (with_reducible refine (c80 _ _ a0 a1 (by assumption) (by assumption) _).mono ?_); rintro e w' ⟨rfl, rfl⟩))
    go_tidy
    go_ret
    exact ⟨rfl, (by first | exact HB.out | exact byAlloc HB.out _)⟩
theorem c87 (op a b imm : Int) (ho : 19 ≤ op ∧ op ≤ 45) (a0 : 0 ≤ a) (a1 : a ≤ 4294967295) (b0 : 0 ≤ b) (b1 : b ≤ 4294967295) (i0 : 0 ≤ imm) (i1 : imm ≤ 4294967295) (w : World) :
    Calls Try.prog 87 #[.int .i64 op, .int .u32 a, .int .u32 b, .int .u32 imm] w fun e w' => e = .returned (.int .u32 (compF op a b imm)) ∧ w.grownBy w' none := by
  by_cases h : op ≤ 27
  · exact c87_i op a b imm ⟨ho.1, h⟩ a0 a1 b0 b1 i0 i1 w
  · by_cases h' : op ≤ 37
    · exact c87_s op a b imm ⟨by omega, h'⟩ a0 a1 b0 b1 i0 i1 w
    · exact c87_m op a b imm ⟨by omega, ho.2⟩ a0 a1 b0 b1 i0 i1 w
end Go.Proofs.Ytipfefkddnogjaa
