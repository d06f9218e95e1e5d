/-
  The contracts of the shifts, the comparisons, Sign, Parts and Whole of layer 1 (word), and of the document's own answers to them.
-/
import Derived.Test.YtbldglnfadnkeaaWord
import Derived.Deep.QuietTactic
import Derived.BigQuiet
namespace Go.Proofs.Ytbldglnfadnkeaa
open Go.RowKit
set_option linter.unusedVariables false

theorem quiet_sym {P : Program} {f : FuncId} {args : Array Value} {w : World} {v : Value}
    (h : Calls P f args w fun e w' => e = .returned v ∧ w = w') : Calls P f args w fun e w' => e = .returned v ∧ w' = w :=
  h.mono fun _ _ ⟨he, hm⟩ => ⟨he, hm.symm⟩
theorem left_val {a b : Int} (g0 : 0 ≤ b) : a % (4294967296 / pw b) * pw b % 4294967296 = leftF a b := by
  unfold leftF pw
  rw [left_ref a (b % 32).toNat (by omega), Int.emod_emod_of_dvd _ (Int.dvd_refl _)]
theorem grown_trans {w w1 w2 : World} (h : Grown w w1) (h' : Grown w1 w2) : Grown w w2 :=
  ⟨World.keptBut_trans h.1 h'.1, fun a => (h'.2.1 a).trans (h.2.1 a), Nat.le_trans h.2.2 h'.2.2⟩
theorem sign_val {a n : Int} (h0 : 0 ≤ a) (h1 : a ≤ 4294967295) (hn : 1 ≤ n) (hn' : n ≤ 31) : rightSF (leftF a (32 - n)) (32 - n) = signF a n := by
  have e : ((32 - n) % 32).toNat = 32 - n.toNat := by omega
  unfold rightSF leftF signF pw
  rw [e, if_neg (by omega), sign_parts a n.toNat (by omega) (by omega)]
theorem sign12_in (a : Int) : 0 ≤ signF a 12 ∧ signF a 12 ≤ 4294967295 := by
  unfold signF; rw [if_neg (by omega)]; exact mod_in _
theorem grown_drewN {w w1 : World} (h : Grown w w1) (n : Nat) : Grown w (w1.drewN n) := h
end Go.Proofs.Ytbldglnfadnkeaa
