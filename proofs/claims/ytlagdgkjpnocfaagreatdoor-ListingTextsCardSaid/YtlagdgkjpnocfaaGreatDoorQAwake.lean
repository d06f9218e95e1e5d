/-
  The page's examples of layer 2 hold; the document's own names of the instructions. The contract of the document's own Name.
-/
import Derived.Test.YtlagdgkjpnocfaaGreatDoorQFits
namespace Go.Proofs.YtlagdgkjpnocfaaGreatDoor
open Go.RowKit
set_option linter.unusedVariables false
set_option linter.unusedSimpArgs false

theorem c52_yes (op rd r1 r2 imm : Int) (w : World) (h : fitsB rd r1 r2 imm (fm (ix op)) = true) :
    Calls Tryz.prog 52 #[.agg #[.int .i64 op, .int .i64 rd, .int .i64 r1, .int .i64 r2, .int .i64 imm]] w fun e w' => e = .returned (.tuple #[.int .u32 (encW op rd r1 r2 imm), .int .i64 0]) ∧ Grown w w' :=
  c52 op rd r1 r2 imm w true h
theorem c52_no (op rd r1 r2 imm : Int) (w : World) (h : fitsB rd r1 r2 imm (fm (ix op)) = false) :
    Calls Tryz.prog 52 #[.agg #[.int .i64 op, .int .i64 rd, .int .i64 r1, .int .i64 r2, .int .i64 imm]] w fun e w' => e = .returned (.tuple #[.int .u32 0, .int .i64 1]) ∧ Grown w w' :=
  c52 op rd r1 r2 imm w false h
theorem k1 (w : World) : Calls Tryz.prog 52 #[.agg #[.int .i64 19, .int .i64 1, .int .i64 0, .int .i64 0, .int .i64 5]] w fun e w' => e = .returned (.tuple #[.int .u32 5243027, .int .i64 0]) ∧ Grown w w' := by
  have h := c52_yes 19 1 0 0 5 w (by decide +kernel)
  rwa [show encW 19 1 0 0 5 = 5243027 by decide +kernel] at h
theorem k2 (w : World) : Calls Tryz.prog 52 #[.agg #[.int .i64 18, .int .i64 0, .int .i64 1, .int .i64 2, .int .i64 8]] w fun e w' => e = .returned (.tuple #[.int .u32 2139171, .int .i64 0]) ∧ Grown w w' := by
  have h := c52_yes 18 0 1 2 8 w (by decide +kernel)
  rwa [show encW 18 0 1 2 8 = 2139171 by decide +kernel] at h
theorem k3 (w : World) : Calls Tryz.prog 72 #[.int .u32 5243027] w fun e w' => e = .returned (.tuple #[.agg #[.int .i64 19, .int .i64 1, .int .i64 0, .int .i64 0, .int .i64 5], .int .i64 0]) ∧ Grown w w' := by
  have h := c72_some 5243027 (by omega) (by omega) 19 (by decide +kernel) (by omega) w
  rwa [show regV 5243027 7 (uRd (fm 19)) = 1 by decide +kernel, show regV 5243027 15 (uRs1 (fm 19)) = 0 by decide +kernel, show regV 5243027 20 (uRs2 (fm 19)) = 0 by decide +kernel, show gathS (fm 19) 5243027 = 5 by decide +kernel] at h

def nmCells : Array Value := (nmL.map Value.string).toArray
theorem info9 : (Tryz.prog.info? 9).map (fun i => (i.zero, i.size)) = some (some (.string ⟨#[]⟩), 1) := by kernel_rfl
theorem nm_cell (w : World) (k : Nat) (h : k < 46) : (w.alloc (.cells nmCells 9)).cell? ⟨w.heap.size, k, none⟩ = some (.string (nm k)) := by
  refine row_cell w nmCells 9 k _ ?_
  have hl : k < nmL.length := h
  unfold nmCells nm
  simp [hl]
set_option maxRecDepth 1000000 in
set_option maxHeartbeats 8000000 in
theorem c23 (op : Int) (w : World) :
    Calls Tryz.prog 23 #[.int .i64 op] w fun e w' => e = .returned (.string (nm (ix op))) ∧ Grown w w' := by
  have hi := info9
  cases hie : Tryz.prog.info? 9 with
  | none => rw [hie] at hi; simp at hi
  | some ie =>
    rw [hie] at hi
    simp at hi
    obtain ⟨hz, hsz⟩ := hi
    have HIE := Lib.hid hie
    have HZ := Lib.hid hz
    have HSZ := Lib.hid hsz
    clear hie hz hsz
    have hcase : op < 0 ∨ 45 < op ∨ ∃ k : Nat, k < 46 ∧ op = k := by
      by_cases h : 0 ≤ op ∧ op ≤ 45
      · exact .inr (.inr ⟨op.toNat, by omega, by omega⟩)
      · omega
    rcases hcase with h | h | ⟨k, hk, rfl⟩
    · have e : ix op = 0 := ix_out (by omega)
      rw [e]
      go_enter Tryz.func23, Tryz.ntmps23
      go_wp2_with (refine wpList_buildSlice rfl 68 9 46 _ rfl nmCells ie (.string ⟨#[]⟩) Tryz.underlying68 HIE.out HZ.out (by rw [HSZ.out]; decide) (by rw [HSZ.out]; decide) (by rw [HSZ.out]; as_aux_lemma => kernel_rfl) ?_)
      go_ret
      exact ⟨rfl, (Grown.refl _).alloc _ _⟩
    · have e : ix op = 0 := ix_out (by omega)
      rw [e]
      go_enter Tryz.func23, Tryz.ntmps23
      go_wp2_with (refine wpList_buildSlice rfl 68 9 46 _ rfl nmCells ie (.string ⟨#[]⟩) Tryz.underlying68 HIE.out HZ.out (by rw [HSZ.out]; decide) (by rw [HSZ.out]; decide) (by rw [HSZ.out]; as_aux_lemma => kernel_rfl) ?_)
      go_ret
      exact ⟨rfl, (Grown.refl _).alloc _ _⟩
    · rw [ix_nat hk]
      have hc := nm_cell w k hk
      go_enter Tryz.func23, Tryz.ntmps23
      go_wp2_with (refine wpList_buildSlice rfl 68 9 46 _ rfl nmCells ie (.string ⟨#[]⟩) Tryz.underlying68 HIE.out HZ.out (by rw [HSZ.out]; decide) (by rw [HSZ.out]; decide) (by rw [HSZ.out]; as_aux_lemma => kernel_rfl) ?_)
      go_ret
      exact ⟨rfl, (Grown.refl _).alloc _ _⟩
end Go.Proofs.YtlagdgkjpnocfaaGreatDoor
