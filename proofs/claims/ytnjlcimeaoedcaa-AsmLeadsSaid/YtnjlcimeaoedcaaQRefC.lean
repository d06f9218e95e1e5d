/-
  The contracts of the document's own functions of layer 2: codes; registers; room; which instructions are right.
-/
import Derived.Test.YtnjlcimeaoedcaaQRefB
namespace Go.Proofs.Ytnjlcimeaoedcaa
open Go.RowKit
set_option linter.unusedVariables false
set_option linter.unusedSimpArgs false

def ocF (x : Int) : Int := if x = 1 then 55 else if x = 2 then 23 else if x = 3 then 111 else if x = 4 then 103 else if x ≤ 10 then 99 else if x ≤ 15 then 3 else if x ≤ 18 then 35 else if x ≤ 27 then 19 else 51
theorem oc_is : ∀ k : Nat, k < 46 → k ≠ 0 → oc k = ocF k := by decide
set_option maxHeartbeats 2000000 in
theorem rv69 (k : Nat) (hk : k < 46) (k0 : k ≠ 0) (w : World) :
    Calls Try.prog 51 #[.int .i64 k] w fun e w' => e = .returned (.int .i64 (oc k)) ∧ w = w' := by
  have F := Lib.hid (oc_is k hk k0)
  have hc : k = 1 ∨ k = 2 ∨ k = 3 ∨ k = 4 ∨ (5 ≤ (k : Int) ∧ (k : Int) ≤ 10) ∨ (11 ≤ (k : Int) ∧ (k : Int) ≤ 15) ∨ (16 ≤ (k : Int) ∧ (k : Int) ≤ 18) ∨ (19 ≤ (k : Int) ∧ (k : Int) ≤ 27) ∨ (28 ≤ (k : Int) ∧ (k : Int) ≤ 45) := by omega
  clear hk k0
  rcases hc with rfl | rfl | rfl | rfl | ⟨hc, hd⟩ | ⟨hc, hd⟩ | ⟨hc, hd⟩ | ⟨hc, hd⟩ | ⟨hc, hd⟩
  all_goals
    go_enter Try.func51, Try.ntmps51
    go_wp2
    all_goals go_ret
    all_goals
      refine ⟨ret_int ?_, rfl⟩
      rw [F.out]; unfold ocF
      repeat' split
      all_goals first | rfl | (exfalso; omega)
def f7F (x : Int) : Int := if x = 27 ∨ x = 29 ∨ x = 35 then 32 else if 38 ≤ x then 1 else 0
theorem f7_is : ∀ k : Nat, k < 46 → k ≠ 0 → f7 k = f7F k := by decide
set_option maxHeartbeats 2000000 in
theorem rv72 (k : Nat) (hk : k < 46) (k0 : k ≠ 0) (w : World) :
    Calls Try.prog 54 #[.int .i64 k] w fun e w' => e = .returned (.int .i64 (f7 k)) ∧ w = w' := by
  have F := Lib.hid (f7_is k hk k0)
  clear k0
  go_enter Try.func54, Try.ntmps54
  go_wp2
  all_goals go_ret
  all_goals
    refine ⟨ret_int ?_, rfl⟩
    rw [F.out]; unfold f7F
    repeat' split
    all_goals first | rfl | (exfalso; simp at *; omega)
def f3Cells : Array Value := (f3L.map (Value.int .i64)).toArray
theorem info3 : (Try.prog.info? 3).map (fun i => (i.zero, i.size)) = some (some (.int .i64 0), 1) := by kernel_rfl
theorem f3_cell (w : World) (k : Nat) (h : k < 46) : (w.alloc (.cells f3Cells 3)).cell? ⟨w.heap.size, k, none⟩ = some (.int .i64 (f3 k)) := by
  refine row_cell w f3Cells 3 k _ ?_
  have hl : k < f3L.length := h
  unfold f3Cells f3
  simp [hl]
set_option maxRecDepth 1000000 in
set_option maxHeartbeats 8000000 in
theorem rv71 (k : Nat) (hk : k < 46) (w : World) :
    Calls Try.prog 53 #[.int .i64 k] w fun e w' => e = .returned (.int .i64 (f3 k)) ∧ Grown w w' := by
  have hi := info3
  cases hie : Try.prog.info? 3 with
  | none => rw [hie] at hi; simp at hi
  | some ie =>
    rw [hie] at hi
    simp at hi
    obtain ⟨hz, hsz⟩ := hi
    have HIE := Lib.hid hie
    have HZ := Lib.hid hz
    have HSZ := Lib.hid hsz
    clear hie hz hsz
    have hc := f3_cell w k hk
    go_enter Try.func53, Try.ntmps53
    go_wp2_with (refine wpList_buildSlice rfl 26 3 46 _ rfl f3Cells ie (.int .i64 0) Try.underlying26 HIE.out HZ.out (by rw [HSZ.out]; decide) (by rw [HSZ.out]; decide) (by rw [HSZ.out]; as_aux_lemma => kernel_rfl) ?_)
    go_ret
    exact ⟨rfl, (Grown.refl _).alloc _ _⟩
theorem rv46 (n : Int) (u : Bool) (w : World) :
    Calls Try.prog 80 #[.int .i64 n, .bool u] w fun e w' => e = .returned (.bool (regB n u)) ∧ w = w' := by
  cases u
  · go_enter Try.func80, Try.ntmps80
    go_wp2
    go_ret
    exact ⟨ret_bool (by simp [regB, beq_iff_eq]; try rfl), rfl⟩
  · go_enter Try.func80, Try.ntmps80
    go_wp2
    all_goals go_ret
    all_goals exact ⟨ret_bool (by rw [Bool.eq_iff_iff]; simp [regB]; omega), rfl⟩
theorem rv47a (f : Int) (hf : isForm f) (hn : f ≠ 0) (w : World) :
    Calls Try.prog 81 #[.int .u8 f, .int .i64 1] w fun e w' => e = .returned (.bool (uRd f)) ∧ w = w' := by
  rcases hf with rfl | rfl | rfl | rfl | rfl | rfl | rfl | rfl
  all_goals first | (exact absurd rfl hn) | skip
  all_goals
    clear hn
    go_enter Try.func81, Try.ntmps81
    go_wp2
    go_ret
    exact ⟨rfl, rfl⟩
theorem rv47b (f : Int) (hf : isForm f) (hn : f ≠ 0) (w : World) :
    Calls Try.prog 81 #[.int .u8 f, .int .i64 2] w fun e w' => e = .returned (.bool (uRs1 f)) ∧ w = w' := by
  rcases hf with rfl | rfl | rfl | rfl | rfl | rfl | rfl | rfl
  all_goals first | (exact absurd rfl hn) | skip
  all_goals
    clear hn
    go_enter Try.func81, Try.ntmps81
    go_wp2
    go_ret
    exact ⟨rfl, rfl⟩
theorem rv47c (f : Int) (hf : isForm f) (hn : f ≠ 0) (w : World) :
    Calls Try.prog 81 #[.int .u8 f, .int .i64 3] w fun e w' => e = .returned (.bool (uRs2 f)) ∧ w = w' := by
  rcases hf with rfl | rfl | rfl | rfl | rfl | rfl | rfl | rfl
  all_goals first | (exact absurd rfl hn) | skip
  all_goals
    clear hn
    go_enter Try.func81, Try.ntmps81
    go_wp2
    go_ret
    exact ⟨rfl, rfl⟩
theorem tmod_beq (n m : Int) (h : 0 < m) : (n.tmod m == 0) = decide (n % m = 0) := by
  refine beq_dec ?_
  rw [← Int.dvd_iff_tmod_eq_zero, Int.dvd_iff_emod_eq_zero]
set_option maxHeartbeats 4000000 in
theorem rv48 (f n : Int) (hf : isForm f) (hn : f ≠ 0) (w : World) :
    Calls Try.prog 82 #[.int .u8 f, .int .i64 n] w fun e w' => e = .returned (.bool (roomB f n)) ∧ w = w' := by
  have t1 := tmod_beq n 4096 (by decide)
  have t2 := tmod_beq n 2 (by decide)
  rcases hf with rfl | rfl | rfl | rfl | rfl | rfl | rfl | rfl
  all_goals first | (exact absurd rfl hn) | skip
  all_goals
    clear hn
    go_enter Try.func82, Try.ntmps82
    go_wp2
    all_goals go_ret
    all_goals refine ⟨ret_bool ?_, rfl⟩
    all_goals (rw [Bool.eq_iff_iff]; simp [roomB])
    all_goals first | omega | (constructor <;> intro h <;> omega) | (show n = 0 ↔ n = 0; exact Iff.rfl)
end Go.Proofs.Ytnjlcimeaoedcaa
