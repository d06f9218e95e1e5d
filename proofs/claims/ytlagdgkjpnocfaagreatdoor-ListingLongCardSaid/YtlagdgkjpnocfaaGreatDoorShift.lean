/-
  The contracts of the shifts, the comparisons, Sign, Parts and Whole of layer 1 (word), and of the document's own answers to them.
-/
import Derived.Test.YtlagdgkjpnocfaaGreatDoorWord
import Derived.Deep.QuietTactic
import Derived.BigQuiet
namespace Go.Proofs.YtlagdgkjpnocfaaGreatDoor
open Go.RowKit
set_option linter.unusedVariables false

theorem c92 (a b : Int) (h0 : 0 ≤ a) (h1 : a ≤ 4294967295) (g0 : 0 ≤ b) (g1 : b ≤ 4294967295) (w : World) :
    Calls Tryz.prog 92 #[.int .u32 a, .int .u32 b] w fun e w' => e = .returned (.int .u32 (leftF a b)) ∧ w = w' := by
  have hb := and31 g0 g1
  go_enter Tryz.func92, Tryz.ntmps92
  go_wp2
  go_ret
  exact ⟨rfl, rfl⟩
theorem c91 (a b : Int) (h0 : 0 ≤ a) (h1 : a ≤ 4294967295) (g0 : 0 ≤ b) (g1 : b ≤ 4294967295) (w : World) :
    Calls Tryz.prog 91 #[.int .u32 a, .int .u32 b] w fun e w' => e = .returned (.int .u32 (rightSF a b)) ∧ w.alloc (.cells #[.int .u32 b] 40) = w' := by
  have hb := and31 g0 g1
  have hs := sg_wrap h0 h1
  have hmf : ∀ (fn : Fn) (first cap : Array Value) (w : World), (Instr.makeFunc fn first cap).run Tryz.prog w = .ok (.func fn first cap) w := fun _ _ _ _ => rfl
  go_enter Tryz.func91, Tryz.ntmps91
  go_wp2
  go_ret
  exact ⟨rfl, rfl⟩
theorem quiet_sym {P : Program} {f : FuncId} {args : Array Value} {w : World} {v : Value}
    (h : Calls P f args w fun e w' => e = .returned v ∧ w = w') : Calls P f args w fun e w' => e = .returned v ∧ w' = w :=
  h.mono fun _ _ ⟨he, hm⟩ => ⟨he, hm.symm⟩
theorem left_val {a b : Int} (g0 : 0 ≤ b) : a % (4294967296 / pw b) * pw b % 4294967296 = leftF a b := by
  unfold leftF pw
  rw [left_ref a (b % 32).toNat (by omega), Int.emod_emod_of_dvd _ (Int.dvd_refl _)]
theorem grown_trans {w w1 w2 : World} (h : Grown w w1) (h' : Grown w1 w2) : Grown w w2 :=
  ⟨World.keptBut_trans h.1 h'.1, fun a => (h'.2.1 a).trans (h.2.1 a), Nat.le_trans h.2.2 h'.2.2⟩
theorem sign_val {a n : Int} (h0 : 0 ≤ a) (h1 : a ≤ 4294967295) (hn : 1 ≤ n) (hn' : n ≤ 31) : rightSF (leftF a (32 - n)) (32 - n) = signF a n := by
  have e : ((32 - n) % 32).toNat = 32 - n.toNat := by omega
  unfold rightSF leftF signF pw
  rw [e, if_neg (by omega), sign_parts a n.toNat (by omega) (by omega)]
theorem c66 (a n : Int) (h0 : 0 ≤ a) (h1 : a ≤ 4294967295) (w : World) :
    Calls Tryz.prog 66 #[.int .u32 a, .int .i64 n] w fun e w' => e = .returned (.int .u32 (signF a n)) ∧ Grown w w' := by
  by_cases hn : n < 1
  · go_enter Tryz.func66, Tryz.ntmps66
    go_wp2
    go_ret
    exact ⟨ret_int (by unfold signF; rw [if_pos (by omega)]), Grown.refl _⟩
  by_cases hn' : 31 < n
  · go_enter Tryz.func66, Tryz.ntmps66
    go_wp2
    go_ret
    exact ⟨ret_int (by unfold signF; rw [if_pos (by omega)]), Grown.refl _⟩
  obtain ⟨l0, l1⟩ : 0 ≤ leftF a (32 - n) ∧ leftF a (32 - n) ≤ 4294967295 := mod_in _
  have H := Lib.hid (sign_val (n := n) h0 h1 (by omega) (by omega))
  go_enter Tryz.func66, Tryz.ntmps66
  go_wp2_with (first
    | (go_at_call 92; (with_reducible refine (c92 _ _ h0 h1 (by omega) (by omega) _).mono ?_); rintro e w' ⟨rfl, rfl⟩)
    | (go_at_call 91; (with_reducible refine (c91 _ _ l0 l1 (by omega) (by omega) _).mono ?_); rintro e w' ⟨rfl, rfl⟩))
  go_ret
  exact ⟨ret_int H.out, (Grown.refl _).alloc _ _⟩
theorem sign12_in (a : Int) : 0 ≤ signF a 12 ∧ signF a 12 ≤ 4294967295 := by
  unfold signF; rw [if_neg (by omega)]; exact mod_in _
theorem grown_drewN {w w1 : World} (h : Grown w w1) (n : Nat) : Grown w (w1.drewN n) := h
theorem g40 (a b : Int) (h0 : 0 ≤ a) (h1 : a ≤ 4294967295) (g0 : 0 ≤ b) (g1 : b ≤ 4294967295) (w : World) :
    Calls Tryz.prog 91 #[.int .u32 a, .int .u32 b] w fun e w' => e = .returned (.int .u32 (rightSF a b)) ∧ Grown w w' :=
  (c91 a b h0 h1 g0 g1 w).mono fun _ _ ⟨he, hw⟩ => ⟨he, hw ▸ (Grown.refl _).alloc _ _⟩
end Go.Proofs.YtlagdgkjpnocfaaGreatDoor
