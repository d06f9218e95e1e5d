/-
  Items (layer 5): the contract of instructions: an instruction, a constant, a label.
-/
import Derived.Test.YtfnlhammjallfaaAsmO
namespace Go.Proofs.Ytfnlhammjallfaa
open Go.RowKit
set_option linter.unusedVariables false
set_option linter.unusedSimpArgs false
set_option maxRecDepth 100000 in
set_option maxHeartbeats 8000000 in
theorem ins1 (g o n c k : Nat) (sg ss sa : Value) (x : It) (w : World) (hk : k < n) (hfew : n ≤ 32768) (e : x.k = 1) (c0 : w.cell? ⟨g, o + k * 7, none⟩ = some (.int .i64 x.k)) (c1 : w.cell? ⟨g, o + k * 7 + 1, none⟩ = some (.int .i64 x.op)) (c2 : w.cell? ⟨g, o + k * 7 + 2, none⟩ = some (.int .i64 x.rd)) (c3 : w.cell? ⟨g, o + k * 7 + 3, none⟩ = some (.int .i64 x.r1)) (c4 : w.cell? ⟨g, o + k * 7 + 4, none⟩ = some (.int .i64 x.r2)) (c5 : w.cell? ⟨g, o + k * 7 + 5, none⟩ = some (.int .i64 x.imm)) (c6 : w.cell? ⟨g, o + k * 7 + 6, none⟩ = some (.int .i64 x.lab)) :
    Calls Try.prog 59 #[.agg #[.slice (some ⟨g, o, none⟩) n c, sg, ss, sa], .int .i64 k] w (InsE (some [⟨x.op, x.rd, x.r1, x.r2, x.imm⟩]) w) := by
  have i1 : (0 : Int) ≤ (k : Int) := by omega
  have i2 : (k : Int) < (n : Int) := by omega
  have FP := Lib.hid (fr_al (Fr.refl (fun _ => False) w) (.cells #[.slice (some ⟨g, o, none⟩) n c, sg, ss, sa] 71))
  have F1 := Lib.hid (fr_al FP.out (.cells #[.int .i64 x.k, .int .i64 x.op, .int .i64 x.rd, .int .i64 x.r1, .int .i64 x.r2, .int .i64 x.imm, .int .i64 x.lab] 25))
  replace c0 := FP.out.cell c0 id
  replace c1 := FP.out.cell c1 id
  replace c2 := FP.out.cell c2 id
  replace c3 := FP.out.cell c3 id
  replace c4 := FP.out.cell c4 id
  replace c5 := FP.out.cell c5 id
  replace c6 := FP.out.cell c6 id
  rw [e] at c0 F1
  clear e
  go_enter Try.func59, Try.ntmps59
  go_wp2
  go_ret2
  exact insE_1 (i := ⟨x.op, x.rd, x.r1, x.r2, x.imm⟩) (by simp) rfl F1.out
set_option maxRecDepth 100000 in
set_option maxHeartbeats 8000000 in
theorem ins5 (g o n c k : Nat) (sg ss sa : Value) (x : It) (w : World) (hk : k < n) (hfew : n ≤ 32768) (e : x.k = 5) (f0 : -9223372036854775808 ≤ x.imm) (f1 : x.imm ≤ 9223372036854775807) (c0 : w.cell? ⟨g, o + k * 7, none⟩ = some (.int .i64 x.k)) (c1 : w.cell? ⟨g, o + k * 7 + 1, none⟩ = some (.int .i64 x.op)) (c2 : w.cell? ⟨g, o + k * 7 + 2, none⟩ = some (.int .i64 x.rd)) (c3 : w.cell? ⟨g, o + k * 7 + 3, none⟩ = some (.int .i64 x.r1)) (c4 : w.cell? ⟨g, o + k * 7 + 4, none⟩ = some (.int .i64 x.r2)) (c5 : w.cell? ⟨g, o + k * 7 + 5, none⟩ = some (.int .i64 x.imm)) (c6 : w.cell? ⟨g, o + k * 7 + 6, none⟩ = some (.int .i64 x.lab)) :
    Calls Try.prog 59 #[.agg #[.slice (some ⟨g, o, none⟩) n c, sg, ss, sa], .int .i64 k] w (InsE (some (numI x.rd x.imm)) w) := by
  have i1 : (0 : Int) ≤ (k : Int) := by omega
  have i2 : (k : Int) < (n : Int) := by omega
  have FP := Lib.hid (fr_al (Fr.refl (fun _ => False) w) (.cells #[.slice (some ⟨g, o, none⟩) n c, sg, ss, sa] 71))
  have F1 := Lib.hid (fr_al FP.out (.cells #[.int .i64 x.k, .int .i64 x.op, .int .i64 x.rd, .int .i64 x.r1, .int .i64 x.r2, .int .i64 x.imm, .int .i64 x.lab] 25))
  replace c0 := FP.out.cell c0 id
  replace c1 := FP.out.cell c1 id
  replace c2 := FP.out.cell c2 id
  replace c3 := FP.out.cell c3 id
  replace c4 := FP.out.cell c4 id
  replace c5 := FP.out.cell c5 id
  replace c6 := FP.out.cell c6 id
  rw [e] at c0 F1
  clear e
  go_enter Try.func59, Try.ntmps59
  go_wp2_with (go_at_call 78; (with_reducible refine (c78 _ _ _ _ _ f0 f1 _).mono ?_); rintro e w2 ⟨a2, c2', rfl, hin, hgr, hbd⟩; have HBD := Lib.hid hbd; have F2 := Lib.hid (F1.out.trans (Fr.of_grown hgr)); have HIN := Lib.hid hin; clear hin hgr hbd)
  go_ret2
  exact ⟨F2.out, _, _, rfl, HIN.out, fun g o e => Nat.le_trans F1.out.size (HBD.out g o e)⟩
set_option maxRecDepth 100000 in
set_option maxHeartbeats 8000000 in
theorem ins0 (g o n c k : Nat) (sg ss sa : Value) (x : It) (w : World) (hk : k < n) (hfew : n ≤ 32768) (h1 : (x.k == 1) = false) (h2 : (x.k == 5) = false) (h3 : (x.k == 3) = false) (h4 : (x.k == 4) = false) (c0 : w.cell? ⟨g, o + k * 7, none⟩ = some (.int .i64 x.k)) (c1 : w.cell? ⟨g, o + k * 7 + 1, none⟩ = some (.int .i64 x.op)) (c2 : w.cell? ⟨g, o + k * 7 + 2, none⟩ = some (.int .i64 x.rd)) (c3 : w.cell? ⟨g, o + k * 7 + 3, none⟩ = some (.int .i64 x.r1)) (c4 : w.cell? ⟨g, o + k * 7 + 4, none⟩ = some (.int .i64 x.r2)) (c5 : w.cell? ⟨g, o + k * 7 + 5, none⟩ = some (.int .i64 x.imm)) (c6 : w.cell? ⟨g, o + k * 7 + 6, none⟩ = some (.int .i64 x.lab)) :
    Calls Try.prog 59 #[.agg #[.slice (some ⟨g, o, none⟩) n c, sg, ss, sa], .int .i64 k] w (InsE (some []) w) := by
  have i1 : (0 : Int) ≤ (k : Int) := by omega
  have i2 : (k : Int) < (n : Int) := by omega
  have FP := Lib.hid (fr_al (Fr.refl (fun _ => False) w) (.cells #[.slice (some ⟨g, o, none⟩) n c, sg, ss, sa] 71))
  have F1 := Lib.hid (fr_al FP.out (.cells #[.int .i64 x.k, .int .i64 x.op, .int .i64 x.rd, .int .i64 x.r1, .int .i64 x.r2, .int .i64 x.imm, .int .i64 x.lab] 25))
  replace c0 := FP.out.cell c0 id
  replace c1 := FP.out.cell c1 id
  replace c2 := FP.out.cell c2 id
  replace c3 := FP.out.cell c3 id
  replace c4 := FP.out.cell c4 id
  replace c5 := FP.out.cell c5 id
  replace c6 := FP.out.cell c6 id
  go_enter Try.func59, Try.ntmps59
  go_wp2
  go_ret2
  exact insE_nil F1.out
set_option maxRecDepth 100000 in
set_option maxHeartbeats 8000000 in
theorem ins3 (g o n c k : Nat) (sg ss sa : Value) (x : It) (w : World) (hk : k < n) (hfew : n ≤ 32768) (e : x.k = 3) (gs gg ga : Nat) (D : Int) (hs : ss = .slice (some ⟨gs, 0, none⟩) n n) (s0 : w.cell? ⟨gs, k, none⟩ = some (.int .i64 1)) (HOFF : Hid (∀ w3, Fr (fun _ => False) w w3 → Calls Try.prog 79 #[.agg #[.slice (some ⟨g, o, none⟩) n c, sg, ss, sa], .int .i64 k] w3 fun e w4 => e = .returned (.int .i64 D) ∧ Fr (fun _ => False) w3 w4)) (c0 : w.cell? ⟨g, o + k * 7, none⟩ = some (.int .i64 x.k)) (c1 : w.cell? ⟨g, o + k * 7 + 1, none⟩ = some (.int .i64 x.op)) (c2 : w.cell? ⟨g, o + k * 7 + 2, none⟩ = some (.int .i64 x.rd)) (c3 : w.cell? ⟨g, o + k * 7 + 3, none⟩ = some (.int .i64 x.r1)) (c4 : w.cell? ⟨g, o + k * 7 + 4, none⟩ = some (.int .i64 x.r2)) (c5 : w.cell? ⟨g, o + k * 7 + 5, none⟩ = some (.int .i64 x.imm)) (c6 : w.cell? ⟨g, o + k * 7 + 6, none⟩ = some (.int .i64 x.lab)) :
    Calls Try.prog 59 #[.agg #[.slice (some ⟨g, o, none⟩) n c, sg, ss, sa], .int .i64 k] w (InsE (some [⟨x.op, x.rd, x.r1, x.r2, D⟩]) w) := by
  have i1 : (0 : Int) ≤ (k : Int) := by omega
  have i2 : (k : Int) < (n : Int) := by omega
  have FP := Lib.hid (fr_al (Fr.refl (fun _ => False) w) (.cells #[.slice (some ⟨g, o, none⟩) n c, sg, ss, sa] 71))
  have F1 := Lib.hid (fr_al FP.out (.cells #[.int .i64 x.k, .int .i64 x.op, .int .i64 x.rd, .int .i64 x.r1, .int .i64 x.r2, .int .i64 x.imm, .int .i64 x.lab] 25))
  replace c0 := FP.out.cell c0 id
  replace c1 := FP.out.cell c1 id
  replace c2 := FP.out.cell c2 id
  replace c3 := FP.out.cell c3 id
  replace c4 := FP.out.cell c4 id
  replace c5 := FP.out.cell c5 id
  replace c6 := FP.out.cell c6 id
  rw [e] at c0 F1
  clear e
  subst hs
  replace s0 := F1.out.cell s0 id
  have FZ : Hid (∀ j, ((w.alloc (.cells #[.slice (some ⟨g, o, none⟩) n c, sg, .slice (some ⟨gs, 0, none⟩) n n, sa] 71)).alloc (.cells #[.int .i64 3, .int .i64 x.op, .int .i64 x.rd, .int .i64 x.r1, .int .i64 x.r2, .int .i64 x.imm, .int .i64 x.lab] 25)).frozen? ⟨w.heap.size + 1, j, none⟩ = false) := Lib.hid (fun j => by simp)
  have BC : Hid (∀ j y, (#[.int .i64 3, .int .i64 x.op, .int .i64 x.rd, .int .i64 x.r1, .int .i64 x.r2, .int .i64 x.imm, .int .i64 x.lab] : Array Value)[j]? = some y → ((w.alloc (.cells #[.slice (some ⟨g, o, none⟩) n c, sg, .slice (some ⟨gs, 0, none⟩) n n, sa] 71)).alloc (.cells #[.int .i64 3, .int .i64 x.op, .int .i64 x.rd, .int .i64 x.r1, .int .i64 x.r2, .int .i64 x.imm, .int .i64 x.lab] 25)).cell? ⟨w.heap.size + 1, j, none⟩ = some y) := Lib.hid (fun j y h => by have := fcell (w.alloc (.cells #[.slice (some ⟨g, o, none⟩) n c, sg, .slice (some ⟨gs, 0, none⟩) n n, sa] 71)) _ 25 j y h; simpa using this)
  go_enter Try.func59, Try.ntmps59
  go_wp2_with (go_at_call 79; (with_reducible refine (HOFF.out _ F1.out).mono ?_); rintro e w4 ⟨rfl, hf⟩; have F4 := Lib.hid (F1.out.trans hf); have b1 := hf.cell (BC.out 1 _ rfl) id; have b2 := hf.cell (BC.out 2 _ rfl) id; have b3 := hf.cell (BC.out 3 _ rfl) id; have b4 := hf.cell (BC.out 4 _ rfl) id; have b5 := hf.cell (BC.out 5 _ rfl) id; have z5 : w4.frozen? ⟨w.heap.size + 1, 5, none⟩ = false := ((hf.frozen (BC.out 5 _ rfl) id).trans (FZ.out 5)); clear hf)
  go_ret2
  exact insE_1 (i := ⟨x.op, x.rd, x.r1, x.r2, D⟩) (by simp [World.setCell]) rfl (fr_set F4.out (by omega) _ _)
end Go.Proofs.Ytfnlhammjallfaa
