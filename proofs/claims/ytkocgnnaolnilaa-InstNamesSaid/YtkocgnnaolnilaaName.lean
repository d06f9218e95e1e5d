/-
  The contract of the document's own Name.
-/
import Derived.Test.YtkocgnnaolnilaaAwake
namespace Go.Proofs.Ytkocgnnaolnilaa
open Go.RowKit
set_option linter.unusedVariables false

def nmCells : Array Value := (nmL.map Value.string).toArray
theorem info9 : (Try.prog.info? 9).map (fun i => (i.zero, i.size)) = some (some (.string ⟨#[]⟩), 1) := by kernel_rfl
theorem nm_cell (w : World) (k : Nat) (h : k < 46) : (w.alloc (.cells nmCells 9)).cell? ⟨w.heap.size, k, none⟩ = some (.string (nm k)) := by
  refine row_cell w nmCells 9 k _ ?_
  have hl : k < nmL.length := h
  unfold nmCells nm
  simp [hl]
set_option maxRecDepth 1000000 in
set_option maxHeartbeats 8000000 in
theorem c59 (op : Int) (w : World) :
    Calls Try.prog 59 #[.int .i64 op] w fun e w' => e = .returned (.string (nm (ix op))) ∧ Grown w w' := by
  have hi := info9
  cases hie : Try.prog.info? 9 with
  | none => rw [hie] at hi; simp at hi
  | some ie =>
    rw [hie] at hi
    simp at hi
    obtain ⟨hz, hsz⟩ := hi
    have HIE := Lib.hid hie
    have HZ := Lib.hid hz
    have HSZ := Lib.hid hsz
    clear hie hz hsz
    have hcase : op < 0 ∨ 45 < op ∨ ∃ k : Nat, k < 46 ∧ op = k := by
      by_cases h : 0 ≤ op ∧ op ≤ 45
      · exact .inr (.inr ⟨op.toNat, by omega, by omega⟩)
      · omega
    rcases hcase with h | h | ⟨k, hk, rfl⟩
    · have e : ix op = 0 := ix_out (by omega)
      rw [e]
      go_enter Try.func59, Try.ntmps59
      go_wp2_with (refine wpList_buildSlice rfl 72 9 46 _ rfl nmCells ie (.string ⟨#[]⟩) Try.underlying72 HIE.out HZ.out (by rw [HSZ.out]; decide) (by rw [HSZ.out]; decide) (by rw [HSZ.out]; as_aux_lemma => kernel_rfl) ?_)
      go_ret
      exact ⟨rfl, (Grown.refl _).alloc _ _⟩
    · have e : ix op = 0 := ix_out (by omega)
      rw [e]
      go_enter Try.func59, Try.ntmps59
      go_wp2_with (refine wpList_buildSlice rfl 72 9 46 _ rfl nmCells ie (.string ⟨#[]⟩) Try.underlying72 HIE.out HZ.out (by rw [HSZ.out]; decide) (by rw [HSZ.out]; decide) (by rw [HSZ.out]; as_aux_lemma => kernel_rfl) ?_)
      go_ret
      exact ⟨rfl, (Grown.refl _).alloc _ _⟩
    · rw [ix_nat hk]
      have hc := nm_cell w k hk
      go_enter Try.func59, Try.ntmps59
      go_wp2_with (refine wpList_buildSlice rfl 72 9 46 _ rfl nmCells ie (.string ⟨#[]⟩) Try.underlying72 HIE.out HZ.out (by rw [HSZ.out]; decide) (by rw [HSZ.out]; decide) (by rw [HSZ.out]; as_aux_lemma => kernel_rfl) ?_)
      go_ret
      exact ⟨rfl, (Grown.refl _).alloc _ _⟩
end Go.Proofs.Ytkocgnnaolnilaa
