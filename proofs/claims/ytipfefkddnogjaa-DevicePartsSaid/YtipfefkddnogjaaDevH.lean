/-
  The contracts of State, Steps, Pc, Exit, skip, awake and fetch (layer 3).
-/
import Derived.Test.YtipfefkddnogjaaDevG
import Derived.Outline
import Derived.BigRegion
namespace Go.Proofs.Ytipfefkddnogjaa
open Go.RowKit
set_option linter.unusedVariables false
set_option linter.unusedSimpArgs false
theorem c22 (b : Nat) (x : Int) (w : World) (hx : w.cell? ⟨b, 40, none⟩ = some (.int .i64 x)) :
    Calls Try.prog 22 #[.pointer (some ⟨b, 0, none⟩)] w fun e w' => e = .returned (.int .i64 x) ∧ w' = w := by
  go_enter Try.func22, Try.ntmps22
  go_wp2
  go_ret
  exact ⟨rfl, rfl⟩
theorem c23 (b : Nat) (x : Int) (w : World) (hx : w.cell? ⟨b, 39, none⟩ = some (.int .i64 x)) :
    Calls Try.prog 23 #[.pointer (some ⟨b, 0, none⟩)] w fun e w' => e = .returned (.int .i64 x) ∧ w' = w := by
  go_enter Try.func23, Try.ntmps23
  go_wp2
  go_ret
  exact ⟨rfl, rfl⟩
theorem c24 (b : Nat) (x : Int) (w : World) (hx : w.cell? ⟨b, 32, none⟩ = some (.int .u32 x)) :
    Calls Try.prog 24 #[.pointer (some ⟨b, 0, none⟩)] w fun e w' => e = .returned (.int .u32 x) ∧ w' = w := by
  go_enter Try.func24, Try.ntmps24
  go_wp2
  go_ret
  exact ⟨rfl, rfl⟩
theorem c27 (b : Nat) (x : Int) (w : World) (hx : w.cell? ⟨b, 41, none⟩ = some (.int .u32 x)) :
    Calls Try.prog 27 #[.pointer (some ⟨b, 0, none⟩)] w fun e w' => e = .returned (.int .u32 x) ∧ w' = w := by
  go_enter Try.func27, Try.ntmps27
  go_wp2
  go_ret
  exact ⟨rfl, rfl⟩
theorem c26 (b : Nat) (r : Nat) (hr : r < 32) (x : Int) (w : World) (hx : w.cell? ⟨b, r, none⟩ = some (.int .u32 x)) :
    Calls Try.prog 26 #[.pointer (some ⟨b, 0, none⟩), .int .i64 r] w fun e w' => e = .returned (.int .u32 x) ∧ w' = w := by
  go_enter Try.func26, Try.ntmps26
  go_wp2
  go_ret
  exact ⟨rfl, rfl⟩
end Go.Proofs.Ytipfefkddnogjaa
