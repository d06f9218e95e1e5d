/-
  What the document makes of two words (layer 3).
-/
import Derived.Test.YthhahfggbjegmaaGreatQRmA
import Derived.Test.YthhahfggbjegmaaGreatQRefM
namespace Go.Proofs.YthhahfggbjegmaaGreat
open Go.RowKit
set_option linter.unusedVariables false
set_option linter.unusedSimpArgs false
theorem fr_alloc (w : World) (o : Obj) : Fr (fun _ => False) w (w.alloc o) := Fr.of_by0 (byAlloc (byRefl w) o)
set_option maxHeartbeats 4000000 in
theorem rm_reckonA (op a b : Int) (ho : 19 ≤ op ∧ op ≤ 37) (a0 : 0 ≤ a) (a1 : a ≤ 4294967295) (b0 : 0 ≤ b) (b1 : b ≤ 4294967295) (w : World) :
    Calls Tryz.prog 48 #[.int .i64 op, .int .u32 a, .int .u32 b] w fun e w' => e = .returned (.int .u32 (longF (longOf op) a b)) ∧ Fr (fun _ => False) w w' := by
  have hc : op = 19 ∨ op = 20 ∨ op = 21 ∨ op = 22 ∨ op = 23 ∨ op = 24 ∨ op = 25 ∨ op = 26 ∨ op = 27 ∨ op = 28 ∨ op = 29 ∨ op = 30 ∨ op = 31 ∨ op = 32 ∨ op = 33 ∨ op = 34 ∨ op = 35 ∨ op = 36 ∨ op = 37 := by omega
  rcases hc with rfl | rfl | rfl | rfl | rfl | rfl | rfl | rfl | rfl | rfl | rfl | rfl | rfl | rfl | rfl | rfl | rfl | rfl | rfl
  all_goals
    clear ho
    go_enter Tryz.func48, Tryz.ntmps48
    go_wp2_with (first
      | (go_at_call 71; (with_reducible refine (c71 a b a0 a1 b0 b1 _).mono ?_); rintro e w' ⟨rfl, rfl⟩)
      | (go_at_call 72; (with_reducible refine (c72 a b a0 a1 b0 b1 _).mono ?_); rintro e w' ⟨rfl, rfl⟩)
      | (go_at_call 74; (with_reducible refine (c74 a b a0 a1 b0 b1 _).mono ?_); rintro e w' ⟨rfl, rfl⟩)
      | (go_at_call 75; (with_reducible refine (c75 a b a0 a1 b0 b1 _).mono ?_); rintro e w' ⟨rfl, rfl⟩)
      | (go_at_call 76; (with_reducible refine (c76 a b a0 a1 b0 b1 _).mono ?_); rintro e w' ⟨rfl, rfl⟩)
      | (go_at_call 77; (with_reducible refine (c77 a b a0 a1 b0 b1 _).mono ?_); rintro e w' ⟨rfl, rfl⟩)
      | (go_at_call 73; (with_reducible refine (c73 a b a0 a1 b0 b1 _).mono ?_); rintro e w' ⟨rfl, n, rfl⟩))
    go_ret
    first | exact ⟨rfl, fr_alloc _ _⟩ | exact ⟨rfl, (fr_alloc _ _).drewN _⟩
set_option maxHeartbeats 4000000 in
theorem rm_reckon (op a b : Int) (ho : 19 ≤ op ∧ op ≤ 45) (a0 : 0 ≤ a) (a1 : a ≤ 4294967295) (b0 : 0 ≤ b) (b1 : b ≤ 4294967295) (w : World) :
    Calls Tryz.prog 48 #[.int .i64 op, .int .u32 a, .int .u32 b] w fun e w' => e = .returned (.int .u32 (longF (longOf op) a b)) ∧ Fr (fun _ => False) w w' := by
  by_cases h : op ≤ 37
  · exact rm_reckonA op a b ⟨ho.1, h⟩ a0 a1 b0 b1 w
  have hc : op = 38 ∨ op = 39 ∨ op = 40 ∨ op = 41 ∨ op = 42 ∨ op = 43 ∨ op = 44 ∨ op = 45 := by omega
  rcases hc with rfl | rfl | rfl | rfl | rfl | rfl | rfl | rfl
  all_goals
    clear ho h
    go_enter Tryz.func48, Tryz.ntmps48
    go_wp2_with (go_at_call 78; (with_reducible refine (rm_part _ a b (by decide) a0 a1 b0 b1 _).mono ?_); rintro e w' ⟨rfl, rfl⟩)
    go_ret
    exact ⟨rfl, fr_alloc _ _⟩
end Go.Proofs.YthhahfggbjegmaaGreat
