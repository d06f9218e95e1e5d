/-
  The contracts of the document's own Right, Word and Encode.
-/
import Derived.Test.YtnjlcimeaoedcaaQRefC
namespace Go.Proofs.Ytnjlcimeaoedcaa
open Go.RowKit
set_option linter.unusedVariables false
set_option linter.unusedSimpArgs false

set_option maxRecDepth 100000 in
set_option maxHeartbeats 8000000 in
theorem rv15_f (op rd r1 r2 imm f : Int) (hf : isForm f) (w : World)
    (K45 : Hid (∀ w, Calls Try.prog 50 #[.int .i64 op] w fun e w' => e = .returned (.int .u8 f) ∧ w = w')) (R : Bool)
    (hcase : ((f != 0) = false ∧ R = false) ∨ ((f != 0) = true ∧ regB rd (uRd f) = false ∧ R = false) ∨ ((f != 0) = true ∧ regB rd (uRd f) = true ∧ regB r1 (uRs1 f) = false ∧ R = false) ∨ ((f != 0) = true ∧ regB rd (uRd f) = true ∧ regB r1 (uRs1 f) = true ∧ regB r2 (uRs2 f) = false ∧ R = false) ∨
      ((f != 0) = true ∧ regB rd (uRd f) = true ∧ regB r1 (uRs1 f) = true ∧ regB r2 (uRs2 f) = true ∧ roomB f imm = R)) :
    Calls Try.prog 71 #[.agg #[.int .i64 op, .int .i64 rd, .int .i64 r1, .int .i64 r2, .int .i64 imm]] w fun e w' => e = .returned (.bool R) ∧ Grown w w' := by
  have Z : Hid (Grown w (w.alloc (.cells #[.int .i64 op, .int .i64 rd, .int .i64 r1, .int .i64 r2, .int .i64 imm] 68)) ∧ _) := Lib.hid (And.intro ((Grown.refl _).alloc _ _) (And.intro (row_cell w #[.int .i64 op, .int .i64 rd, .int .i64 r1, .int .i64 r2, .int .i64 imm] 68 0 (.int .i64 op) rfl) (And.intro (row_cell w #[.int .i64 op, .int .i64 rd, .int .i64 r1, .int .i64 r2, .int .i64 imm] 68 1 (.int .i64 rd) rfl) (And.intro (row_cell w #[.int .i64 op, .int .i64 rd, .int .i64 r1, .int .i64 r2, .int .i64 imm] 68 2 (.int .i64 r1) rfl) (And.intro (row_cell w #[.int .i64 op, .int .i64 rd, .int .i64 r1, .int .i64 r2, .int .i64 imm] 68 3 (.int .i64 r2) rfl) (row_cell w #[.int .i64 op, .int .i64 rd, .int .i64 r1, .int .i64 r2, .int .i64 imm] 68 4 (.int .i64 imm) rfl))))))
  rcases hcase with ⟨h0, rfl⟩ | ⟨h0, hA, rfl⟩ | ⟨h0, hA, hB, rfl⟩ | ⟨h0, hA, hB, hC, rfl⟩ | ⟨h0, hA, hB, hC, rfl⟩
  · go_enter Try.func71, Try.ntmps71
    go_wp2_with (go_at_call 50; (with_reducible refine (K45.out _).mono ?_); rintro e w' ⟨rfl, rfl⟩)
    generalize w.alloc (.cells #[.int .i64 op, .int .i64 rd, .int .i64 r1, .int .i64 r2, .int .i64 imm] 68) = w2 at *
    generalize w.heap.size = b at *
    obtain ⟨G0, z0, z1, z2, z3, z4⟩ := Z.out
    clear Z
    go_quiet (fail)
    go_wp2
    go_ret
    exact ⟨rfl, grown_drewN G0 _⟩
  all_goals
    have hn : f ≠ 0 := by simpa using h0
    have HN := Lib.hid hn
    clear hn
    go_enter Try.func71, Try.ntmps71
    go_wp2_with (go_at_call 50; (with_reducible refine (K45.out _).mono ?_); rintro e w' ⟨rfl, rfl⟩)
    generalize w.alloc (.cells #[.int .i64 op, .int .i64 rd, .int .i64 r1, .int .i64 r2, .int .i64 imm] 68) = w2 at *
    generalize w.heap.size = b at *
    obtain ⟨G0, z0, z1, z2, z3, z4⟩ := Z.out
    clear Z
    go_quiet ((first
      | (go_at_call 81; (with_reducible exact Calls.quiet_of_same (quiet_sym (rv47a _ hf HN.out _))))
      | (go_at_call 81; (with_reducible exact Calls.quiet_of_same (quiet_sym (rv47b _ hf HN.out _))))
      | (go_at_call 81; (with_reducible exact Calls.quiet_of_same (quiet_sym (rv47c _ hf HN.out _))))
      | (go_at_call 80; (with_reducible exact Calls.quiet_of_same (quiet_sym (rv46 _ _ _))))
      | (go_at_call 82; (with_reducible exact Calls.quiet_of_same (quiet_sym (rv48 _ _ hf HN.out _))))))
    go_wp2
    go_ret
    exact ⟨rfl, grown_drewN G0 _⟩
theorem rv15 (op rd r1 r2 imm : Int) (w : World) :
    Calls Try.prog 71 #[.agg #[.int .i64 op, .int .i64 rd, .int .i64 r1, .int .i64 r2, .int .i64 imm]] w fun e w' => e = .returned (.bool (fitsB rd r1 r2 imm (fm (ix op)))) ∧ Grown w w' := by
  have hf := fm_form op
  have K := c50 op
  refine rv15_f op rd r1 r2 imm _ hf w (Lib.hid K) _ ?_
  generalize fm (ix op) = f at *
  unfold fitsB
  cases h0 : (f != 0)
  · simp
  · have hn : f ≠ 0 := by simpa using h0
    rw [room_all hf hn imm]
    cases regB rd (uRd f) <;> cases regB r1 (uRs1 f) <;> cases regB r2 (uRs2 f) <;> simp
theorem sumW_in {k : Nat} (hk : k < 46) {rd r1 r2 imm : Int} (h : fitsB rd r1 r2 imm (fm k) = true) : 0 ≤ sumW k rd r1 r2 imm ∧ sumW k rd r1 r2 imm ≤ 4294967295 := by
  rw [← enc_sum hk h]
  unfold encW
  exact or_in _ _
end Go.Proofs.Ytnjlcimeaoedcaa
