/-
  The contract of load (layer 3).
-/
import Derived.Test.YtipfefkddnogjaaDevD
import Derived.Outline
namespace Go.Proofs.Ytipfefkddnogjaa
open Go.RowKit
set_option linter.unusedVariables false
set_option linter.unusedSimpArgs false
theorem grown_of_drewN (w : World) (n : Nat) : Grown w (w.drewN n) := grown_drewN (Grown.refl _) _
/-- How many bytes a load or a store reaches. -/
def sizeF (op : Int) : Int := if op = 11 then 1 else if op = 14 then 1 else if op = 16 then 1 else if op = 12 then 2 else if op = 15 then 2 else if op = 17 then 2 else 4
theorem c85 (op a v s : Int) (hs : s = sizeF op) (ok : Bool) (b : Nat) (ho : 11 ≤ op ∧ op ≤ 15) (a0 : 0 ≤ a) (a1 : a ≤ 4294967295) (v0 : 0 ≤ v) (v1 : v ≤ 4294967295) (w : World) (hq : op = 13 → (a == 536870924) = false)
    (H : Hid (Calls Try.prog 92 #[.pointer (some ⟨b, 0, none⟩), .int .u32 a, .int .i64 s] w fun e w' => e = .returned (.tuple #[.int .u32 v, .bool ok]) ∧ ∃ k, w' = w.drewN k)) :
    Calls Try.prog 85 #[.pointer (some ⟨b, 0, none⟩), .int .i64 op, .int .u32 a] w fun e w' => e = .returned (.tuple #[.int .u32 (loadF op v), .bool ok]) ∧ Grown w w' := by
  have hc : op = 11 ∨ op = 12 ∨ op = 13 ∨ op = 14 ∨ op = 15 := by omega
  rcases hc with rfl | rfl | rfl | rfl | rfl
  · obtain rfl : s = 1 := hs
    go_enter Try.func85, Try.ntmps85
    go_wp2_with (first | (go_at_call 92; (with_reducible refine H.out.mono ?_); rintro e w' ⟨rfl, k, rfl⟩) | (go_at_call 75; (with_reducible refine (c75 v _ v0 v1 _).mono ?_); rintro e w' ⟨rfl, hg⟩; have HG := Lib.hid hg; clear hg))
    go_ret2
    exact ⟨rfl, grown_trans (grown_of_drewN _ _) HG.out⟩
  · obtain rfl : s = 2 := hs
    go_enter Try.func85, Try.ntmps85
    go_wp2_with (first | (go_at_call 92; (with_reducible refine H.out.mono ?_); rintro e w' ⟨rfl, k, rfl⟩) | (go_at_call 75; (with_reducible refine (c75 v _ v0 v1 _).mono ?_); rintro e w' ⟨rfl, hg⟩; have HG := Lib.hid hg; clear hg))
    go_ret2
    exact ⟨rfl, grown_trans (grown_of_drewN _ _) HG.out⟩
  · obtain rfl : s = 4 := hs
    have hq' := hq rfl
    clear hq
    go_enter Try.func85, Try.ntmps85
    go_wp2_with (first | (go_at_call 92; (with_reducible refine H.out.mono ?_); rintro e w' ⟨rfl, k, rfl⟩))
    go_ret2
    exact ⟨rfl, grown_of_drewN _ _⟩
  · obtain rfl : s = 1 := hs
    go_enter Try.func85, Try.ntmps85
    go_wp2_with (first | (go_at_call 92; (with_reducible refine H.out.mono ?_); rintro e w' ⟨rfl, k, rfl⟩))
    go_ret2
    exact ⟨rfl, grown_of_drewN _ _⟩
  · obtain rfl : s = 2 := hs
    go_enter Try.func85, Try.ntmps85
    go_wp2_with (first | (go_at_call 92; (with_reducible refine H.out.mono ?_); rintro e w' ⟨rfl, k, rfl⟩))
    go_ret2
    exact ⟨rfl, grown_of_drewN _ _⟩
end Go.Proofs.Ytipfefkddnogjaa
