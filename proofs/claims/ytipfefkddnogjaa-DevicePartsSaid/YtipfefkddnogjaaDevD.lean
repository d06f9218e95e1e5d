/-
  The contracts of set and input (layer 3).
-/
import Derived.Test.YtipfefkddnogjaaDevC
import Derived.Outline
namespace Go.Proofs.Ytipfefkddnogjaa
open Go.RowKit
set_option linter.unusedVariables false
set_option linter.unusedSimpArgs false
def setW (w : World) (b r : Nat) (v : Int) : World := if r = 0 then w else w.setCell ⟨b, r, none⟩ (.int .u32 v)
theorem c83 (b r : Nat) (v v0 : Int) (hr : r < 32) (w : World) (hc : w.cell? ⟨b, r, none⟩ = some (.int .u32 v0)) (hf : w.frozen? ⟨b, r, none⟩ = false) :
    Calls Try.prog 83 #[.pointer (some ⟨b, 0, none⟩), .int .i64 r, .int .u32 v] w fun e w' => e = .returned (.tuple #[]) ∧ w' = setW w b r v := by
  by_cases h : r = 0
  · subst h
    go_enter Try.func83, Try.ntmps83
    go_wp2
    go_end0
    exact ⟨rfl, rfl⟩
  · have e : setW w b r v = w.setCell ⟨b, r, none⟩ (.int .u32 v) := by unfold setW; rw [if_neg h]
    rw [e]
    go_enter Try.func83, Try.ntmps83
    go_wp2
    go_end0
    exact ⟨rfl, rfl⟩
theorem drew2 (w : World) (n m : Nat) : (w.drewN n).drewN m = w.drewN (n + m) := by simp only [World.drewN, Nat.add_assoc]
theorem c93_out (b : Nat) (d : Option Addr) (n c : Nat) (i : Int) (i0 : 0 ≤ i) (i1 : i ≤ 4294967295) (hn : n ≤ 4611686018427387904) (hi : (n : Int) ≤ i) (w : World)
    (hd : w.cell? ⟨b, 37, none⟩ = some (.slice d n c)) (hx : w.cell? ⟨b, 34, none⟩ = some (.int .u32 i)) :
    Calls Try.prog 93 #[.pointer (some ⟨b, 0, none⟩)] w fun e w' => e = .returned (.int .u32 0) ∧ ∃ k, w' = w.drewN k := by
  have hB : decide (i < (n : Int)) = false := decide_eq_false (by omega)
  go_enter Try.func93, Try.ntmps93
  go_wp2
  go_quiet (fail)
  go_wp2
  go_ret
  exact ⟨rfl, _, rfl⟩
theorem c93_in (b db off : Nat) (n c : Nat) (i : Nat) (x : Int) (i1 : i ≤ 4294967295) (hn : n ≤ 4611686018427387904) (hi : i < n) (w : World)
    (hd : w.cell? ⟨b, 37, none⟩ = some (.slice (some ⟨db, off, none⟩) n c)) (hx : w.cell? ⟨b, 34, none⟩ = some (.int .u32 i)) (hv : w.cell? ⟨db, off + i, none⟩ = some (.int .u32 x)) :
    Calls Try.prog 93 #[.pointer (some ⟨b, 0, none⟩)] w fun e w' => e = .returned (.int .u32 x) ∧ ∃ k, w' = w.drewN k := by
  go_enter Try.func93, Try.ntmps93
  go_wp2
  go_quiet (fail)
  go_wp2
  go_quiet (fail)
  go_wp2
  go_ret
  exact ⟨rfl, _, drew2 _ _ _⟩
def loadF (op : Int) (v : Int) : Int := if op = 11 then signF v 8 else if op = 12 then signF v 16 else v
end Go.Proofs.Ytipfefkddnogjaa
