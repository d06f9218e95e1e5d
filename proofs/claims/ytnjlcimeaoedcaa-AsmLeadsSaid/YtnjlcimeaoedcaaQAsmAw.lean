/-
  Items (layer 5): the page's examples hold, walked.
-/
import Derived.Test.YtnjlcimeaoedcaaQAsmZ
namespace Go.Proofs.Ytnjlcimeaoedcaa
open Go.RowKit
set_option linter.unusedVariables false
set_option linter.unusedSimpArgs false
/-- The two words of the page's constant. -/
theorem asm_ex2 (w : World) : Calls Try.prog 7 #[.slice (some ⟨w.heap.size, 0, none⟩) 1 1] (w.alloc (.cells #[.int .i64 5, .int .i64 0, .int .i64 5, .int .i64 0, .int .i64 0, .int .i64 305419896, .int .i64 0] 40)) fun e w' =>
    ∃ g c b d, e = .returned (.tuple #[.slice (some ⟨g, 0, none⟩) 2 c, .slice b 0 d, .int .i64 0]) ∧ Fr (fun _ => False) w w' ∧ w'.cell? ⟨g, 0, none⟩ = some (.int .u32 305418935) ∧ w'.cell? ⟨g, 1, none⟩ = some (.int .u32 1736606355) := by
  refine (asm_num 5 305419896 (by omega) (by omega) w).mono (fun e w' h => ?_)
  obtain ⟨a, c, b, d, rfl, hf, hw⟩ := h
  have hl : (numI 5 305419896).length = 2 := by decide +kernel
  have e0 : encI ((numI 5 305419896).getD 0 in0) = 305418935 := by decide +kernel
  have e1 : encI ((numI 5 305419896).getD 1 in0) = 1736606355 := by decide +kernel
  rw [hl] at hw ⊢
  obtain ⟨g, rfl, c0⟩ := hw 0 (by omega)
  obtain ⟨g', eg, c1⟩ := hw 1 (by omega)
  cases eg
  rw [e0] at c0
  rw [e1] at c1
  exact ⟨_, c, b, d, rfl, hf, c0, c1⟩
set_option maxRecDepth 100000 in
set_option maxHeartbeats 8000000 in
theorem c5 (w : World) : Calls Try.prog 5 #[] w fun e w' => e = .returned (.bool true) ∧ Fr (fun _ => False) w w' := by
  obtain ⟨x, hx1⟩ := asm_ex1
  have H1 := Lib.hid hx1
  have H2 := Lib.hid asm_ex2
  clear hx1
  have G0 := Lib.hid (Fr.refl (fun _ => False) w)
  go_enter Try.func5, Try.ntmps5
  go_wp2_with (first
    | (go_at_call 14; (with_reducible refine (c14 _ _).mono ?_); rintro e w1 ⟨rfl, hg⟩; have G1 := Lib.hid (G0.out.trans (Fr.of_grown hg)); clear hg)
    | (go_at_call 15; (with_reducible refine (c15 _ _ _ _ _ _).mono ?_); rintro e w2 ⟨rfl, hg⟩; have G2 := Lib.hid (G1.out.trans (Fr.of_grown hg)); clear hg)
    | (go_at_call 16; (with_reducible refine (c16 _ _ _ _ _).mono ?_); rintro e w3 ⟨rfl, hg⟩; have G3 := Lib.hid (G2.out.trans (Fr.of_grown hg)); clear hg)
    | (go_at_call 7; (with_reducible refine (H1.out w3).mono ?_); rintro e w4 ⟨g1, c1, g2, d2, rfl, hf, q1, q2⟩; have G4 := Lib.hid (G3.out.trans hf); clear hf)
    | (go_at_call 17; (with_reducible refine (c17 _ _ (by omega) (by omega) _).mono ?_); rintro e w5 ⟨rfl, hg⟩; have G5 := Lib.hid (G4.out.trans (Fr.of_grown hg)); have q3 := (Fr.of_grown (F := fun _ => False) hg).cell q1 id; have q4 := (Fr.of_grown (F := fun _ => False) hg).cell q2 id; clear hg)
    | (go_at_call 7; (with_reducible refine (H2.out w5).mono ?_); rintro e w6 ⟨g3, c3, b3, d3, rfl, hf, q5, q6⟩; have G6 := Lib.hid (G5.out.trans hf); have q7 := hf.cell q3 id; have q8 := hf.cell q4 id; clear hf))
  go_ret
  exact ⟨rfl, G6.out⟩
end Go.Proofs.Ytnjlcimeaoedcaa
