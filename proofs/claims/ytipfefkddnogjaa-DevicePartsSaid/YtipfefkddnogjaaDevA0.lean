/-
  The contracts of holds, multiply and compute (layer 3): what branches and arithmetic instructions make of two words.
-/
import Derived.Test.YtipfefkddnogjaaShift
import Derived.Maps.AppendAt
import Derived.BigQuiet
import Derived.Deep.QuietTactic
namespace Go.Proofs.Ytipfefkddnogjaa
open Go.RowKit
set_option linter.unusedVariables false
set_option linter.unusedSimpArgs false

theorem byRefl (w : World) : w.grownBy w none := ⟨rfl, rfl, rfl, Nat.le_refl _, fun _ _ _ => rfl⟩
theorem byAlloc {w w1 : World} (h : w.grownBy w1 none) (o : Obj) : w.grownBy (w1.alloc o) none := h.trans (World.grownBy_alloc _ _ _)
theorem byDrewN {w w1 : World} (h : w.grownBy w1 none) (n : Nat) : w.grownBy (w1.drewN n) none := ⟨h.os, h.tape, h.output, h.size, h.block⟩
/-- Does the condition of a branch hold? -/
def holdsF (op a b : Int) : Bool :=
  if op = 5 then a == b else if op = 6 then a != b else if op = 7 then lessF a b != 0 else if op = 8 then lessF a b == 0 else if op = 9 then lessUF a b != 0 else lessUF a b == 0
theorem c84 (op a b : Int) (ho : 5 ≤ op ∧ op ≤ 10) (a0 : 0 ≤ a) (a1 : a ≤ 4294967295) (b0 : 0 ≤ b) (b1 : b ≤ 4294967295) (w : World) :
    Calls Try.prog 84 #[.int .i64 op, .int .u32 a, .int .u32 b] w fun e w' => e = .returned (.bool (holdsF op a b)) ∧ w = w' := by
  have hc : op = 5 ∨ op = 6 ∨ op = 7 ∨ op = 8 ∨ op = 9 ∨ op = 10 := by omega
  rcases hc with rfl | rfl | rfl | rfl | rfl | rfl
  all_goals
    clear ho
    go_enter Try.func84, Try.ntmps84
    go_wp2_with (first
      | (go_at_call 90; (with_reducible refine (c90 a b a0 a1 b0 b1 _).mono ?_); rintro e w' ⟨rfl, rfl⟩)
      | (go_at_call 91; (with_reducible refine (c91 a b a0 a1 b0 b1 _).mono ?_); rintro e w' ⟨rfl, rfl⟩))
    go_ret
    exact ⟨rfl, rfl⟩
def multF (op a b : Int) : Int :=
  if op = 38 then mulF a b else if op = 39 then highF a b else if op = 40 then highSUF a b else if op = 41 then highUF a b else if op = 42 then divF a b else if op = 43 then divUF a b else if op = 44 then remF a b else remUF a b
theorem c98 (op a b : Int) (ho : 38 ≤ op ∧ op ≤ 45) (a0 : 0 ≤ a) (a1 : a ≤ 4294967295) (b0 : 0 ≤ b) (b1 : b ≤ 4294967295) (w : World) :
    Calls Try.prog 98 #[.int .i64 op, .int .u32 a, .int .u32 b] w fun e w' => e = .returned (.int .u32 (multF op a b)) ∧ w.grownBy w' none := by
  have hc : op = 38 ∨ op = 39 ∨ op = 40 ∨ op = 41 ∨ op = 42 ∨ op = 43 ∨ op = 44 ∨ op = 45 := by omega
  have HB := Lib.hid (byRefl w)
  rcases hc with rfl | rfl | rfl | rfl | rfl | rfl | rfl | rfl
  all_goals
    clear ho
    go_enter Try.func98, Try.ntmps98
    go_wp2_with (first
      | (go_at_call 101; (with_reducible refine (c101 a b a0 a1 b0 b1 _).mono ?_); rintro e w' ⟨rfl, rfl⟩)
      | (go_at_call 102; (with_reducible refine (c102 a b a0 a1 b0 b1 _).mono ?_); rintro e w' ⟨rfl, rfl⟩)
      | (go_at_call 103; (with_reducible refine (c103 a b a0 a1 b0 b1 _).mono ?_); rintro e w' ⟨rfl, rfl⟩)
      | (go_at_call 104; (with_reducible refine (c104 a b a0 a1 b0 b1 _).mono ?_); rintro e w' ⟨rfl, rfl⟩)
      | (go_at_call 105; (with_reducible refine (c105 a b a0 a1 b0 b1 _).mono ?_); rintro e w' ⟨rfl, rfl⟩)
      | (go_at_call 106; (with_reducible refine (c106 a b a0 a1 b0 b1 _).mono ?_); rintro e w' ⟨rfl, rfl⟩)
      | (go_at_call 107; (with_reducible refine (c107 a b a0 a1 b0 b1 _).mono ?_); rintro e w' ⟨rfl, rfl⟩)
      | (go_at_call 108; (with_reducible refine (c108 a b a0 a1 b0 b1 _).mono ?_); rintro e w' ⟨rfl, rfl⟩))
    go_ret
    exact ⟨rfl, (by first | exact HB.out | exact byAlloc HB.out _)⟩
end Go.Proofs.Ytipfefkddnogjaa
