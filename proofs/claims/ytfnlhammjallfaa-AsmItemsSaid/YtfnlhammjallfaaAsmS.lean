/-
  Items (layer 5): the contract of instructions: a far branch.
-/
import Derived.Test.YtfnlhammjallfaaAsmR
namespace Go.Proofs.Ytfnlhammjallfaa
open Go.RowKit
set_option linter.unusedVariables false
set_option linter.unusedSimpArgs false
set_option maxRecDepth 100000 in
set_option maxHeartbeats 8000000 in
theorem ins3f (g o n c k : Nat) (sg ss sa : Value) (x : It) (w : World) (hk : k < n) (hfew : n ≤ 32768) (e : x.k = 3) (gs gg ga : Nat) (D : Int) (hs : ss = .slice (some ⟨gs, 0, none⟩) n n) (s0 : w.cell? ⟨gs, k, none⟩ = some (.int .i64 2)) (d0 : -1000000 ≤ D) (d1 : D ≤ 1000000) (HOFF : Hid (∀ w3, Fr (fun _ => False) w w3 → Calls Try.prog 79 #[.agg #[.slice (some ⟨g, o, none⟩) n c, sg, ss, sa], .int .i64 k] w3 fun e w4 => e = .returned (.int .i64 D) ∧ Fr (fun _ => False) w3 w4)) (c0 : w.cell? ⟨g, o + k * 7, none⟩ = some (.int .i64 x.k)) (c1 : w.cell? ⟨g, o + k * 7 + 1, none⟩ = some (.int .i64 x.op)) (c2 : w.cell? ⟨g, o + k * 7 + 2, none⟩ = some (.int .i64 x.rd)) (c3 : w.cell? ⟨g, o + k * 7 + 3, none⟩ = some (.int .i64 x.r1)) (c4 : w.cell? ⟨g, o + k * 7 + 4, none⟩ = some (.int .i64 x.r2)) (c5 : w.cell? ⟨g, o + k * 7 + 5, none⟩ = some (.int .i64 x.imm)) (c6 : w.cell? ⟨g, o + k * 7 + 6, none⟩ = some (.int .i64 x.lab)) :
    Calls Try.prog 59 #[.agg #[.slice (some ⟨g, o, none⟩) n c, sg, ss, sa], .int .i64 k] w (InsE (farI x.op x.r1 x.r2 D) w) := by
  have i1 : (0 : Int) ≤ (k : Int) := by omega
  have i2 : (k : Int) < (n : Int) := by omega
  have FP := Lib.hid (fr_al (Fr.refl (fun _ => False) w) (.cells #[.slice (some ⟨g, o, none⟩) n c, sg, ss, sa] 71))
  have F1 := Lib.hid (fr_al FP.out (.cells #[.int .i64 x.k, .int .i64 x.op, .int .i64 x.rd, .int .i64 x.r1, .int .i64 x.r2, .int .i64 x.imm, .int .i64 x.lab] 25))
  replace c0 := FP.out.cell c0 id
  replace c1 := FP.out.cell c1 id
  replace c2 := FP.out.cell c2 id
  replace c3 := FP.out.cell c3 id
  replace c4 := FP.out.cell c4 id
  replace c5 := FP.out.cell c5 id
  replace c6 := FP.out.cell c6 id
  rw [e] at c0 F1
  clear e
  subst hs
  replace s0 := F1.out.cell s0 id
  have HFAR := Lib.hid (fun w' => c80 x.op x.rd x.r1 x.r2 x.imm D d0 d1 w')
  generalize farI x.op x.r1 x.r2 D = R at *
  have BP : Hid (∀ j y, (#[.slice (some ⟨g, o, none⟩) n c, sg, .slice (some ⟨gs, 0, none⟩) n n, sa] : Array Value)[j]? = some y → ((w.alloc (.cells #[.slice (some ⟨g, o, none⟩) n c, sg, .slice (some ⟨gs, 0, none⟩) n n, sa] 71)).alloc (.cells #[.int .i64 3, .int .i64 x.op, .int .i64 x.rd, .int .i64 x.r1, .int .i64 x.r2, .int .i64 x.imm, .int .i64 x.lab] 25)).cell? ⟨w.heap.size, j, none⟩ = some y) := Lib.hid (fun j y h => (fr_al (Fr.refl (fun _ => False) _) (.cells #[.int .i64 3, .int .i64 x.op, .int .i64 x.rd, .int .i64 x.r1, .int .i64 x.r2, .int .i64 x.imm, .int .i64 x.lab] 25)).cell (fcell w _ 71 j y h) id)
  have BC : Hid (∀ j y, (#[.int .i64 3, .int .i64 x.op, .int .i64 x.rd, .int .i64 x.r1, .int .i64 x.r2, .int .i64 x.imm, .int .i64 x.lab] : Array Value)[j]? = some y → ((w.alloc (.cells #[.slice (some ⟨g, o, none⟩) n c, sg, .slice (some ⟨gs, 0, none⟩) n n, sa] 71)).alloc (.cells #[.int .i64 3, .int .i64 x.op, .int .i64 x.rd, .int .i64 x.r1, .int .i64 x.r2, .int .i64 x.imm, .int .i64 x.lab] 25)).cell? ⟨w.heap.size + 1, j, none⟩ = some y) := Lib.hid (fun j y h => by have := fcell (w.alloc (.cells #[.slice (some ⟨g, o, none⟩) n c, sg, .slice (some ⟨gs, 0, none⟩) n n, sa] 71)) _ 25 j y h; simpa using this)
  have hsz : w.heap.size + 1 < ((w.alloc (.cells #[.slice (some ⟨g, o, none⟩) n c, sg, .slice (some ⟨gs, 0, none⟩) n n, sa] 71)).alloc (.cells #[.int .i64 3, .int .i64 x.op, .int .i64 x.rd, .int .i64 x.r1, .int .i64 x.r2, .int .i64 x.imm, .int .i64 x.lab] 25)).heap.size := (by simp)
  go_enter Try.func59, Try.ntmps59
  go_wp2_with fail
  generalize (w.alloc (.cells #[.slice (some ⟨g, o, none⟩) n c, sg, .slice (some ⟨gs, 0, none⟩) n n, sa] 71)).alloc (.cells #[.int .i64 3, .int .i64 x.op, .int .i64 x.rd, .int .i64 x.r1, .int .i64 x.r2, .int .i64 x.imm, .int .i64 x.lab] 25) = W at *
  have HKW : Hid (∀ w', Fr (fun _ => False) W w' → Fr (fun _ => False) W w' ∧ w'.cell? ⟨w.heap.size, 0, none⟩ = some (.slice (some ⟨g, o, none⟩) n c) ∧ w'.cell? ⟨w.heap.size, 1, none⟩ = some (sg) ∧ w'.cell? ⟨w.heap.size, 2, none⟩ = some (.slice (some ⟨gs, 0, none⟩) n n) ∧ w'.cell? ⟨w.heap.size, 3, none⟩ = some (sa) ∧ w'.cell? ⟨w.heap.size + 1, 1, none⟩ = some (.int .i64 x.op) ∧ w'.cell? ⟨w.heap.size + 1, 2, none⟩ = some (.int .i64 x.rd) ∧ w'.cell? ⟨w.heap.size + 1, 3, none⟩ = some (.int .i64 x.r1) ∧ w'.cell? ⟨w.heap.size + 1, 4, none⟩ = some (.int .i64 x.r2) ∧ w'.cell? ⟨w.heap.size + 1, 5, none⟩ = some (.int .i64 x.imm)) := Lib.hid (fun w' hf => ⟨hf, hf.cell (BP.out 0 _ rfl) id, hf.cell (BP.out 1 _ rfl) id, hf.cell (BP.out 2 _ rfl) id, hf.cell (BP.out 3 _ rfl) id, hf.cell (BC.out 1 _ rfl) id, hf.cell (BC.out 2 _ rfl) id, hf.cell (BC.out 3 _ rfl) id, hf.cell (BC.out 4 _ rfl) id, hf.cell (BC.out 5 _ rfl) id⟩)
  cases R with
  | none =>
    go_region_held3 (fun w' => Fr (fun _ => False) W w' ∧ w'.cell? ⟨w.heap.size, 0, none⟩ = some (.slice (some ⟨g, o, none⟩) n c) ∧ w'.cell? ⟨w.heap.size, 1, none⟩ = some (sg) ∧ w'.cell? ⟨w.heap.size, 2, none⟩ = some (.slice (some ⟨gs, 0, none⟩) n n) ∧ w'.cell? ⟨w.heap.size, 3, none⟩ = some (sa) ∧ w'.cell? ⟨w.heap.size + 1, 1, none⟩ = some (.int .i64 x.op) ∧ w'.cell? ⟨w.heap.size + 1, 2, none⟩ = some (.int .i64 x.rd) ∧ w'.cell? ⟨w.heap.size + 1, 3, none⟩ = some (.int .i64 x.r1) ∧ w'.cell? ⟨w.heap.size + 1, 4, none⟩ = some (.int .i64 x.r2) ∧ w'.cell? ⟨w.heap.size + 1, 5, none⟩ = some (.int .i64 x.imm))
      (first | assumption | exact HKW.out _ (Fr.refl _ _) | exact HKW.out _ ((Fr.refl _ _).drewN 1) | exact HKW.out _ (by assumption) | exact HKW.out _ (Fr.drewN (by assumption) 1))
      (first | (go_at_call 79; (with_reducible refine (HOFF.out _ (Fr.trans F1.out (And.left (by assumption)))).mono ?_); rintro e w3 ⟨rfl, hf⟩; have hff : Fr (fun _ => False) W w3 := Fr.trans (And.left (by assumption)) hf) | (go_at_call 80; (with_reducible refine (HFAR.out _).mono ?_); rintro e w4 ⟨hf, v, rfl⟩; have hff : Fr (fun _ => False) W w4 := Fr.trans (And.left (by assumption)) hf))
    all_goals go_wp2
    all_goals go_ret2
    all_goals exact insE_none _ (Fr.trans F1.out (And.left (by assumption)))
  | some L =>
    go_region_held3 (fun w' => Fr (fun _ => False) W w' ∧ w'.cell? ⟨w.heap.size, 0, none⟩ = some (.slice (some ⟨g, o, none⟩) n c) ∧ w'.cell? ⟨w.heap.size, 1, none⟩ = some (sg) ∧ w'.cell? ⟨w.heap.size, 2, none⟩ = some (.slice (some ⟨gs, 0, none⟩) n n) ∧ w'.cell? ⟨w.heap.size, 3, none⟩ = some (sa) ∧ w'.cell? ⟨w.heap.size + 1, 1, none⟩ = some (.int .i64 x.op) ∧ w'.cell? ⟨w.heap.size + 1, 2, none⟩ = some (.int .i64 x.rd) ∧ w'.cell? ⟨w.heap.size + 1, 3, none⟩ = some (.int .i64 x.r1) ∧ w'.cell? ⟨w.heap.size + 1, 4, none⟩ = some (.int .i64 x.r2) ∧ w'.cell? ⟨w.heap.size + 1, 5, none⟩ = some (.int .i64 x.imm))
      (first | assumption | exact HKW.out _ (Fr.refl _ _) | exact HKW.out _ ((Fr.refl _ _).drewN 1) | exact HKW.out _ (by assumption) | exact HKW.out _ (Fr.drewN (by assumption) 1))
      (first | (go_at_call 79; (with_reducible refine (HOFF.out _ (Fr.trans F1.out (And.left (by assumption)))).mono ?_); rintro e w3 ⟨rfl, hf⟩; have hff : Fr (fun _ => False) W w3 := Fr.trans (And.left (by assumption)) hf) | (go_at_call 80; (with_reducible refine (HFAR.out _).mono ?_); rintro e w4 ⟨hf, a2, c2', rfl, hin⟩; have hbd : ∀ g o, a2 = some ⟨g, o, none⟩ → w.heap.size ≤ g := fun g o e => Nat.le_trans (Fr.size (Fr.trans F1.out (And.left (by assumption)))) (hin.2 g o e); have hff : Fr (fun _ => False) W w4 := Fr.trans (And.left (by assumption)) hf))
    all_goals go_wp2
    all_goals go_ret2
    all_goals exact ⟨Fr.trans F1.out (And.left (by assumption)), _, _, rfl, hin.1, hbd⟩
end Go.Proofs.Ytfnlhammjallfaa
