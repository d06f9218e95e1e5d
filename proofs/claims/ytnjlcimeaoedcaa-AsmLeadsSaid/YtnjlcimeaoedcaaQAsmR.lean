/-
  Items (layer 5): the contract of instructions: an instruction, a constant, a label. Items (layer 5): the contract of instructions: a far branch. Items (layer 5): the contract of leastSizes.
-/
import Derived.Test.YtnjlcimeaoedcaaQAsmN
import Derived.Test.YtnjlcimeaoedcaaQAsmC
namespace Go.Proofs.Ytnjlcimeaoedcaa
open Go.RowKit
set_option linter.unusedVariables false
set_option linter.unusedSimpArgs false
set_option maxRecDepth 100000 in
set_option maxHeartbeats 8000000 in
theorem ins1 (g o n c k : Nat) (sg ss sa : Value) (x : It) (w : World) (hk : k < n) (hfew : n ≤ 32768) (e : x.k = 1) (c0 : w.cell? ⟨g, o + k * 7, none⟩ = some (.int .i64 x.k)) (c1 : w.cell? ⟨g, o + k * 7 + 1, none⟩ = some (.int .i64 x.op)) (c2 : w.cell? ⟨g, o + k * 7 + 2, none⟩ = some (.int .i64 x.rd)) (c3 : w.cell? ⟨g, o + k * 7 + 3, none⟩ = some (.int .i64 x.r1)) (c4 : w.cell? ⟨g, o + k * 7 + 4, none⟩ = some (.int .i64 x.r2)) (c5 : w.cell? ⟨g, o + k * 7 + 5, none⟩ = some (.int .i64 x.imm)) (c6 : w.cell? ⟨g, o + k * 7 + 6, none⟩ = some (.int .i64 x.lab)) :
    Calls Try.prog 44 #[.agg #[.slice (some ⟨g, o, none⟩) n c, sg, ss, sa], .int .i64 k] w (InsE (some [⟨x.op, x.rd, x.r1, x.r2, x.imm⟩]) w) := by
  have i1 : (0 : Int) ≤ (k : Int) := by omega
  have i2 : (k : Int) < (n : Int) := by omega
  have FP := Lib.hid (fr_al (Fr.refl (fun _ => False) w) (.cells #[.slice (some ⟨g, o, none⟩) n c, sg, ss, sa] 58))
  have F1 := Lib.hid (fr_al FP.out (.cells #[.int .i64 x.k, .int .i64 x.op, .int .i64 x.rd, .int .i64 x.r1, .int .i64 x.r2, .int .i64 x.imm, .int .i64 x.lab] 40))
  replace c0 := FP.out.cell c0 id
  replace c1 := FP.out.cell c1 id
  replace c2 := FP.out.cell c2 id
  replace c3 := FP.out.cell c3 id
  replace c4 := FP.out.cell c4 id
  replace c5 := FP.out.cell c5 id
  replace c6 := FP.out.cell c6 id
  rw [e] at c0 F1
  clear e
  go_enter Try.func44, Try.ntmps44
  go_wp2
  go_ret2
  exact insE_1 (i := ⟨x.op, x.rd, x.r1, x.r2, x.imm⟩) (by simp) rfl F1.out
set_option maxRecDepth 100000 in
set_option maxHeartbeats 8000000 in
theorem ins5 (g o n c k : Nat) (sg ss sa : Value) (x : It) (w : World) (hk : k < n) (hfew : n ≤ 32768) (e : x.k = 5) (f0 : -9223372036854775808 ≤ x.imm) (f1 : x.imm ≤ 9223372036854775807) (c0 : w.cell? ⟨g, o + k * 7, none⟩ = some (.int .i64 x.k)) (c1 : w.cell? ⟨g, o + k * 7 + 1, none⟩ = some (.int .i64 x.op)) (c2 : w.cell? ⟨g, o + k * 7 + 2, none⟩ = some (.int .i64 x.rd)) (c3 : w.cell? ⟨g, o + k * 7 + 3, none⟩ = some (.int .i64 x.r1)) (c4 : w.cell? ⟨g, o + k * 7 + 4, none⟩ = some (.int .i64 x.r2)) (c5 : w.cell? ⟨g, o + k * 7 + 5, none⟩ = some (.int .i64 x.imm)) (c6 : w.cell? ⟨g, o + k * 7 + 6, none⟩ = some (.int .i64 x.lab)) :
    Calls Try.prog 44 #[.agg #[.slice (some ⟨g, o, none⟩) n c, sg, ss, sa], .int .i64 k] w (InsE (some (numI x.rd x.imm)) w) := by
  have i1 : (0 : Int) ≤ (k : Int) := by omega
  have i2 : (k : Int) < (n : Int) := by omega
  have FP := Lib.hid (fr_al (Fr.refl (fun _ => False) w) (.cells #[.slice (some ⟨g, o, none⟩) n c, sg, ss, sa] 58))
  have F1 := Lib.hid (fr_al FP.out (.cells #[.int .i64 x.k, .int .i64 x.op, .int .i64 x.rd, .int .i64 x.r1, .int .i64 x.r2, .int .i64 x.imm, .int .i64 x.lab] 40))
  replace c0 := FP.out.cell c0 id
  replace c1 := FP.out.cell c1 id
  replace c2 := FP.out.cell c2 id
  replace c3 := FP.out.cell c3 id
  replace c4 := FP.out.cell c4 id
  replace c5 := FP.out.cell c5 id
  replace c6 := FP.out.cell c6 id
  rw [e] at c0 F1
  clear e
  go_enter Try.func44, Try.ntmps44
  go_wp2_with (go_at_call 66; (with_reducible refine (c66 _ _ _ _ _ f0 f1 _).mono ?_); rintro e w2 ⟨a2, c2', rfl, hin, hgr, hbd⟩; have HBD := Lib.hid hbd; have F2 := Lib.hid (F1.out.trans (Fr.of_grown hgr)); have HIN := Lib.hid hin; clear hin hgr hbd)
  go_ret2
  exact ⟨F2.out, _, _, rfl, HIN.out, fun g o e => Nat.le_trans F1.out.size (HBD.out g o e)⟩
set_option maxRecDepth 100000 in
set_option maxHeartbeats 8000000 in
theorem ins0 (g o n c k : Nat) (sg ss sa : Value) (x : It) (w : World) (hk : k < n) (hfew : n ≤ 32768) (h1 : (x.k == 1) = false) (h2 : (x.k == 5) = false) (h3 : (x.k == 3) = false) (h4 : (x.k == 4) = false) (c0 : w.cell? ⟨g, o + k * 7, none⟩ = some (.int .i64 x.k)) (c1 : w.cell? ⟨g, o + k * 7 + 1, none⟩ = some (.int .i64 x.op)) (c2 : w.cell? ⟨g, o + k * 7 + 2, none⟩ = some (.int .i64 x.rd)) (c3 : w.cell? ⟨g, o + k * 7 + 3, none⟩ = some (.int .i64 x.r1)) (c4 : w.cell? ⟨g, o + k * 7 + 4, none⟩ = some (.int .i64 x.r2)) (c5 : w.cell? ⟨g, o + k * 7 + 5, none⟩ = some (.int .i64 x.imm)) (c6 : w.cell? ⟨g, o + k * 7 + 6, none⟩ = some (.int .i64 x.lab)) :
    Calls Try.prog 44 #[.agg #[.slice (some ⟨g, o, none⟩) n c, sg, ss, sa], .int .i64 k] w (InsE (some []) w) := by
  have i1 : (0 : Int) ≤ (k : Int) := by omega
  have i2 : (k : Int) < (n : Int) := by omega
  have FP := Lib.hid (fr_al (Fr.refl (fun _ => False) w) (.cells #[.slice (some ⟨g, o, none⟩) n c, sg, ss, sa] 58))
  have F1 := Lib.hid (fr_al FP.out (.cells #[.int .i64 x.k, .int .i64 x.op, .int .i64 x.rd, .int .i64 x.r1, .int .i64 x.r2, .int .i64 x.imm, .int .i64 x.lab] 40))
  replace c0 := FP.out.cell c0 id
  replace c1 := FP.out.cell c1 id
  replace c2 := FP.out.cell c2 id
  replace c3 := FP.out.cell c3 id
  replace c4 := FP.out.cell c4 id
  replace c5 := FP.out.cell c5 id
  replace c6 := FP.out.cell c6 id
  go_enter Try.func44, Try.ntmps44
  go_wp2
  go_ret2
  exact insE_nil F1.out
set_option maxRecDepth 100000 in
set_option maxHeartbeats 8000000 in
theorem ins3 (g o n c k : Nat) (sg ss sa : Value) (x : It) (w : World) (hk : k < n) (hfew : n ≤ 32768) (e : x.k = 3) (gs gg ga : Nat) (D : Int) (hs : ss = .slice (some ⟨gs, 0, none⟩) n n) (s0 : w.cell? ⟨gs, k, none⟩ = some (.int .i64 1)) (HOFF : Hid (∀ w3, Fr (fun _ => False) w w3 → Calls Try.prog 67 #[.agg #[.slice (some ⟨g, o, none⟩) n c, sg, ss, sa], .int .i64 k] w3 fun e w4 => e = .returned (.int .i64 D) ∧ Fr (fun _ => False) w3 w4)) (c0 : w.cell? ⟨g, o + k * 7, none⟩ = some (.int .i64 x.k)) (c1 : w.cell? ⟨g, o + k * 7 + 1, none⟩ = some (.int .i64 x.op)) (c2 : w.cell? ⟨g, o + k * 7 + 2, none⟩ = some (.int .i64 x.rd)) (c3 : w.cell? ⟨g, o + k * 7 + 3, none⟩ = some (.int .i64 x.r1)) (c4 : w.cell? ⟨g, o + k * 7 + 4, none⟩ = some (.int .i64 x.r2)) (c5 : w.cell? ⟨g, o + k * 7 + 5, none⟩ = some (.int .i64 x.imm)) (c6 : w.cell? ⟨g, o + k * 7 + 6, none⟩ = some (.int .i64 x.lab)) :
    Calls Try.prog 44 #[.agg #[.slice (some ⟨g, o, none⟩) n c, sg, ss, sa], .int .i64 k] w (InsE (some [⟨x.op, x.rd, x.r1, x.r2, D⟩]) w) := by
  have i1 : (0 : Int) ≤ (k : Int) := by omega
  have i2 : (k : Int) < (n : Int) := by omega
  have FP := Lib.hid (fr_al (Fr.refl (fun _ => False) w) (.cells #[.slice (some ⟨g, o, none⟩) n c, sg, ss, sa] 58))
  have F1 := Lib.hid (fr_al FP.out (.cells #[.int .i64 x.k, .int .i64 x.op, .int .i64 x.rd, .int .i64 x.r1, .int .i64 x.r2, .int .i64 x.imm, .int .i64 x.lab] 40))
  replace c0 := FP.out.cell c0 id
  replace c1 := FP.out.cell c1 id
  replace c2 := FP.out.cell c2 id
  replace c3 := FP.out.cell c3 id
  replace c4 := FP.out.cell c4 id
  replace c5 := FP.out.cell c5 id
  replace c6 := FP.out.cell c6 id
  rw [e] at c0 F1
  clear e
  subst hs
  replace s0 := F1.out.cell s0 id
  have FZ : Hid (∀ j, ((w.alloc (.cells #[.slice (some ⟨g, o, none⟩) n c, sg, .slice (some ⟨gs, 0, none⟩) n n, sa] 58)).alloc (.cells #[.int .i64 3, .int .i64 x.op, .int .i64 x.rd, .int .i64 x.r1, .int .i64 x.r2, .int .i64 x.imm, .int .i64 x.lab] 40)).frozen? ⟨w.heap.size + 1, j, none⟩ = false) := Lib.hid (fun j => by simp)
  have BC : Hid (∀ j y, (#[.int .i64 3, .int .i64 x.op, .int .i64 x.rd, .int .i64 x.r1, .int .i64 x.r2, .int .i64 x.imm, .int .i64 x.lab] : Array Value)[j]? = some y → ((w.alloc (.cells #[.slice (some ⟨g, o, none⟩) n c, sg, .slice (some ⟨gs, 0, none⟩) n n, sa] 58)).alloc (.cells #[.int .i64 3, .int .i64 x.op, .int .i64 x.rd, .int .i64 x.r1, .int .i64 x.r2, .int .i64 x.imm, .int .i64 x.lab] 40)).cell? ⟨w.heap.size + 1, j, none⟩ = some y) := Lib.hid (fun j y h => by have := fcell (w.alloc (.cells #[.slice (some ⟨g, o, none⟩) n c, sg, .slice (some ⟨gs, 0, none⟩) n n, sa] 58)) _ 40 j y h; simpa using this)
  go_enter Try.func44, Try.ntmps44
  go_wp2_with (go_at_call 67; (with_reducible refine (HOFF.out _ F1.out).mono ?_); rintro e w4 ⟨rfl, hf⟩; have F4 := Lib.hid (F1.out.trans hf); have b1 := hf.cell (BC.out 1 _ rfl) id; have b2 := hf.cell (BC.out 2 _ rfl) id; have b3 := hf.cell (BC.out 3 _ rfl) id; have b4 := hf.cell (BC.out 4 _ rfl) id; have b5 := hf.cell (BC.out 5 _ rfl) id; have z5 : w4.frozen? ⟨w.heap.size + 1, 5, none⟩ = false := ((hf.frozen (BC.out 5 _ rfl) id).trans (FZ.out 5)); clear hf)
  go_ret2
  exact insE_1 (i := ⟨x.op, x.rd, x.r1, x.r2, D⟩) (by simp [World.setCell]) rfl (fr_set F4.out (by omega) _ _)
set_option maxRecDepth 100000 in
set_option maxHeartbeats 8000000 in
theorem ins3f (g o n c k : Nat) (sg ss sa : Value) (x : It) (w : World) (hk : k < n) (hfew : n ≤ 32768) (e : x.k = 3) (gs gg ga : Nat) (D : Int) (hs : ss = .slice (some ⟨gs, 0, none⟩) n n) (s0 : w.cell? ⟨gs, k, none⟩ = some (.int .i64 2)) (d0 : -1000000 ≤ D) (d1 : D ≤ 1000000) (HOFF : Hid (∀ w3, Fr (fun _ => False) w w3 → Calls Try.prog 67 #[.agg #[.slice (some ⟨g, o, none⟩) n c, sg, ss, sa], .int .i64 k] w3 fun e w4 => e = .returned (.int .i64 D) ∧ Fr (fun _ => False) w3 w4)) (c0 : w.cell? ⟨g, o + k * 7, none⟩ = some (.int .i64 x.k)) (c1 : w.cell? ⟨g, o + k * 7 + 1, none⟩ = some (.int .i64 x.op)) (c2 : w.cell? ⟨g, o + k * 7 + 2, none⟩ = some (.int .i64 x.rd)) (c3 : w.cell? ⟨g, o + k * 7 + 3, none⟩ = some (.int .i64 x.r1)) (c4 : w.cell? ⟨g, o + k * 7 + 4, none⟩ = some (.int .i64 x.r2)) (c5 : w.cell? ⟨g, o + k * 7 + 5, none⟩ = some (.int .i64 x.imm)) (c6 : w.cell? ⟨g, o + k * 7 + 6, none⟩ = some (.int .i64 x.lab)) :
    Calls Try.prog 44 #[.agg #[.slice (some ⟨g, o, none⟩) n c, sg, ss, sa], .int .i64 k] w (InsE (farI x.op x.r1 x.r2 D) w) := by
  have i1 : (0 : Int) ≤ (k : Int) := by omega
  have i2 : (k : Int) < (n : Int) := by omega
  have FP := Lib.hid (fr_al (Fr.refl (fun _ => False) w) (.cells #[.slice (some ⟨g, o, none⟩) n c, sg, ss, sa] 58))
  have F1 := Lib.hid (fr_al FP.out (.cells #[.int .i64 x.k, .int .i64 x.op, .int .i64 x.rd, .int .i64 x.r1, .int .i64 x.r2, .int .i64 x.imm, .int .i64 x.lab] 40))
  replace c0 := FP.out.cell c0 id
  replace c1 := FP.out.cell c1 id
  replace c2 := FP.out.cell c2 id
  replace c3 := FP.out.cell c3 id
  replace c4 := FP.out.cell c4 id
  replace c5 := FP.out.cell c5 id
  replace c6 := FP.out.cell c6 id
  rw [e] at c0 F1
  clear e
  subst hs
  replace s0 := F1.out.cell s0 id
  have HFAR := Lib.hid (fun w' => c68 x.op x.rd x.r1 x.r2 x.imm D d0 d1 w')
  generalize farI x.op x.r1 x.r2 D = R at *
  have BP : Hid (∀ j y, (#[.slice (some ⟨g, o, none⟩) n c, sg, .slice (some ⟨gs, 0, none⟩) n n, sa] : Array Value)[j]? = some y → ((w.alloc (.cells #[.slice (some ⟨g, o, none⟩) n c, sg, .slice (some ⟨gs, 0, none⟩) n n, sa] 58)).alloc (.cells #[.int .i64 3, .int .i64 x.op, .int .i64 x.rd, .int .i64 x.r1, .int .i64 x.r2, .int .i64 x.imm, .int .i64 x.lab] 40)).cell? ⟨w.heap.size, j, none⟩ = some y) := Lib.hid (fun j y h => (fr_al (Fr.refl (fun _ => False) _) (.cells #[.int .i64 3, .int .i64 x.op, .int .i64 x.rd, .int .i64 x.r1, .int .i64 x.r2, .int .i64 x.imm, .int .i64 x.lab] 40)).cell (fcell w _ 58 j y h) id)
  have BC : Hid (∀ j y, (#[.int .i64 3, .int .i64 x.op, .int .i64 x.rd, .int .i64 x.r1, .int .i64 x.r2, .int .i64 x.imm, .int .i64 x.lab] : Array Value)[j]? = some y → ((w.alloc (.cells #[.slice (some ⟨g, o, none⟩) n c, sg, .slice (some ⟨gs, 0, none⟩) n n, sa] 58)).alloc (.cells #[.int .i64 3, .int .i64 x.op, .int .i64 x.rd, .int .i64 x.r1, .int .i64 x.r2, .int .i64 x.imm, .int .i64 x.lab] 40)).cell? ⟨w.heap.size + 1, j, none⟩ = some y) := Lib.hid (fun j y h => by have := fcell (w.alloc (.cells #[.slice (some ⟨g, o, none⟩) n c, sg, .slice (some ⟨gs, 0, none⟩) n n, sa] 58)) _ 40 j y h; simpa using this)
  have hsz : w.heap.size + 1 < ((w.alloc (.cells #[.slice (some ⟨g, o, none⟩) n c, sg, .slice (some ⟨gs, 0, none⟩) n n, sa] 58)).alloc (.cells #[.int .i64 3, .int .i64 x.op, .int .i64 x.rd, .int .i64 x.r1, .int .i64 x.r2, .int .i64 x.imm, .int .i64 x.lab] 40)).heap.size := (by simp)
  go_enter Try.func44, Try.ntmps44
  go_wp2_with fail
  generalize (w.alloc (.cells #[.slice (some ⟨g, o, none⟩) n c, sg, .slice (some ⟨gs, 0, none⟩) n n, sa] 58)).alloc (.cells #[.int .i64 3, .int .i64 x.op, .int .i64 x.rd, .int .i64 x.r1, .int .i64 x.r2, .int .i64 x.imm, .int .i64 x.lab] 40) = W at *
  have HKW : Hid (∀ w', Fr (fun _ => False) W w' → Fr (fun _ => False) W w' ∧ w'.cell? ⟨w.heap.size, 0, none⟩ = some (.slice (some ⟨g, o, none⟩) n c) ∧ w'.cell? ⟨w.heap.size, 1, none⟩ = some (sg) ∧ w'.cell? ⟨w.heap.size, 2, none⟩ = some (.slice (some ⟨gs, 0, none⟩) n n) ∧ w'.cell? ⟨w.heap.size, 3, none⟩ = some (sa) ∧ w'.cell? ⟨w.heap.size + 1, 1, none⟩ = some (.int .i64 x.op) ∧ w'.cell? ⟨w.heap.size + 1, 2, none⟩ = some (.int .i64 x.rd) ∧ w'.cell? ⟨w.heap.size + 1, 3, none⟩ = some (.int .i64 x.r1) ∧ w'.cell? ⟨w.heap.size + 1, 4, none⟩ = some (.int .i64 x.r2) ∧ w'.cell? ⟨w.heap.size + 1, 5, none⟩ = some (.int .i64 x.imm)) := Lib.hid (fun w' hf => ⟨hf, hf.cell (BP.out 0 _ rfl) id, hf.cell (BP.out 1 _ rfl) id, hf.cell (BP.out 2 _ rfl) id, hf.cell (BP.out 3 _ rfl) id, hf.cell (BC.out 1 _ rfl) id, hf.cell (BC.out 2 _ rfl) id, hf.cell (BC.out 3 _ rfl) id, hf.cell (BC.out 4 _ rfl) id, hf.cell (BC.out 5 _ rfl) id⟩)
  cases R with
  | none =>
    go_region_held3 (fun w' => Fr (fun _ => False) W w' ∧ w'.cell? ⟨w.heap.size, 0, none⟩ = some (.slice (some ⟨g, o, none⟩) n c) ∧ w'.cell? ⟨w.heap.size, 1, none⟩ = some (sg) ∧ w'.cell? ⟨w.heap.size, 2, none⟩ = some (.slice (some ⟨gs, 0, none⟩) n n) ∧ w'.cell? ⟨w.heap.size, 3, none⟩ = some (sa) ∧ w'.cell? ⟨w.heap.size + 1, 1, none⟩ = some (.int .i64 x.op) ∧ w'.cell? ⟨w.heap.size + 1, 2, none⟩ = some (.int .i64 x.rd) ∧ w'.cell? ⟨w.heap.size + 1, 3, none⟩ = some (.int .i64 x.r1) ∧ w'.cell? ⟨w.heap.size + 1, 4, none⟩ = some (.int .i64 x.r2) ∧ w'.cell? ⟨w.heap.size + 1, 5, none⟩ = some (.int .i64 x.imm))
      (first | assumption | exact HKW.out _ (Fr.refl _ _) | exact HKW.out _ ((Fr.refl _ _).drewN 1) | exact HKW.out _ (by assumption) | exact HKW.out _ (Fr.drewN (by assumption) 1))
      (first | (go_at_call 67; (with_reducible refine (HOFF.out _ (Fr.trans F1.out (And.left (by assumption)))).mono ?_); rintro e w3 ⟨rfl, hf⟩; have hff : Fr (fun _ => False) W w3 := Fr.trans (And.left (by assumption)) hf) | (go_at_call 68; (with_reducible refine (HFAR.out _).mono ?_); rintro e w4 ⟨hf, v, rfl⟩; have hff : Fr (fun _ => False) W w4 := Fr.trans (And.left (by assumption)) hf))
    all_goals go_wp2
    all_goals go_ret2
    all_goals exact insE_none _ (Fr.trans F1.out (And.left (by assumption)))
  | some L =>
    go_region_held3 (fun w' => Fr (fun _ => False) W w' ∧ w'.cell? ⟨w.heap.size, 0, none⟩ = some (.slice (some ⟨g, o, none⟩) n c) ∧ w'.cell? ⟨w.heap.size, 1, none⟩ = some (sg) ∧ w'.cell? ⟨w.heap.size, 2, none⟩ = some (.slice (some ⟨gs, 0, none⟩) n n) ∧ w'.cell? ⟨w.heap.size, 3, none⟩ = some (sa) ∧ w'.cell? ⟨w.heap.size + 1, 1, none⟩ = some (.int .i64 x.op) ∧ w'.cell? ⟨w.heap.size + 1, 2, none⟩ = some (.int .i64 x.rd) ∧ w'.cell? ⟨w.heap.size + 1, 3, none⟩ = some (.int .i64 x.r1) ∧ w'.cell? ⟨w.heap.size + 1, 4, none⟩ = some (.int .i64 x.r2) ∧ w'.cell? ⟨w.heap.size + 1, 5, none⟩ = some (.int .i64 x.imm))
      (first | assumption | exact HKW.out _ (Fr.refl _ _) | exact HKW.out _ ((Fr.refl _ _).drewN 1) | exact HKW.out _ (by assumption) | exact HKW.out _ (Fr.drewN (by assumption) 1))
      (first | (go_at_call 67; (with_reducible refine (HOFF.out _ (Fr.trans F1.out (And.left (by assumption)))).mono ?_); rintro e w3 ⟨rfl, hf⟩; have hff : Fr (fun _ => False) W w3 := Fr.trans (And.left (by assumption)) hf) | (go_at_call 68; (with_reducible refine (HFAR.out _).mono ?_); rintro e w4 ⟨hf, a2, c2', rfl, hin⟩; have hbd : ∀ g o, a2 = some ⟨g, o, none⟩ → w.heap.size ≤ g := fun g o e => Nat.le_trans (Fr.size (Fr.trans F1.out (And.left (by assumption)))) (hin.2 g o e); have hff : Fr (fun _ => False) W w4 := Fr.trans (And.left (by assumption)) hf))
    all_goals go_wp2
    all_goals go_ret2
    all_goals exact ⟨Fr.trans F1.out (And.left (by assumption)), _, _, rfl, hin.1, hbd⟩
/-- Numbers that fit. -/
def Fit (l : List It) : Prop := ∀ k, k < l.length → -9223372036854775808 ≤ (l.getD k it0).imm ∧ (l.getD k it0).imm ≤ 9223372036854775807
set_option maxRecDepth 100000 in
set_option maxHeartbeats 8000000 in
theorem c40 (a : Option Addr) (n c : Nat) (l : List It) (hn : n = l.length) (hfew : n ≤ 32768) (hfit : Fit l) (w : World) (hat : ItAt w.heap.size w a l) :
    Calls Try.prog 40 #[.slice a n c] w (RowP (szF l (fun _ => false)) w) := by
  obtain ⟨i0, hi, hz0, hz1, hz2⟩ := info_parts infoI
  have HI := Lib.hid hi
  have HZ0 := Lib.hid hz0
  have HZ1 := Lib.hid hz1
  have b2 : i0.bytes * n ≤ 281474976710656 := by rw [hz2]; omega
  have b3 : n ≤ maxLen := by unfold maxLen; omega
  clear hi hz0 hz1 hz2
  have HA := Lib.hid hat
  have HN := Lib.hid hn
  have HFIT := Lib.hid hfit
  clear hat hn hfit
  go_enter Try.func40, Try.ntmps40
  go_wp2_with (at_make; refine wpList_make_full _ rfl _ _ 26 rfl w.heap.size 3 i0 _ 1 Try.underlying26 HI.out HZ0.out HZ1.out .i64 .i64 (n : Int) (n : Int) n (by rfl) (by rfl) rfl rfl b2 b3 (Nat.le_refl _) ?_; intro w1 hown hg; have H0 : Hid (Fil w w1 w.heap.size (szk l) (zeros n) 0) := Lib.hid (Fil.init hown (Fr.of_by0 hg)); clear hown hg)
  go_loopw [11] (fun i wr => ∃ k : Nat, i = .int .i64 k ∧ k ≤ n ∧ Hid (Fil w wr w.heap.size (szk l) (zeros n) k)) (fun i _ => n - (intOf i).toNat)
  case atStart => exact ⟨0, rfl, Nat.zero_le _, H0⟩
  case round =>
    obtain ⟨k, rfl, hk, HW⟩ := hrel
    clear H0
    by_cases hlt : k < n
    · obtain ⟨x, hx⟩ : ∃ x, l.getD k it0 = x := ⟨_, rfl⟩
      obtain ⟨g, o, rfl, hg, c0, c1, c2, c3, c4, c5, c6⟩ := HA.out.get HW.out.fr (fun _ h => h.elim) k (by rw [← HN.out]; exact hlt) x hx
      have HX := Lib.hid hx
      have F1 : Hid (Fr (fun _ => False) wr (wr.alloc (.cells #[.int .i64 x.k, .int .i64 x.op, .int .i64 x.rd, .int .i64 x.r1, .int .i64 x.r2, .int .i64 x.imm, .int .i64 x.lab] 40))) := Lib.hid (fr_al (Fr.refl _ _) _)
      obtain ⟨⟨y, d0⟩, d1, d2⟩ := HW.out.cell (Fr.refl _ _) (by rw [zeros_len]; exact hlt)
      have hzk : Hid (szk l k = sz0 x) := Lib.hid (by unfold szk; rw [hx])
      have hfx := HFIT.out k (by rw [← HN.out]; exact hlt)
      rw [hx] at hfx
      obtain ⟨f0, f1⟩ := hfx
      have gne : w.heap.size ≠ wr.heap.size := by omega
      clear hx
      have hkind : x.k = 1 ∨ x.k = 4 ∨ x.k = 3 ∨ x.k = 5 ∨ (x.k ≠ 1 ∧ x.k ≠ 4 ∧ x.k ≠ 3 ∧ x.k ≠ 5) := by omega
      have i1 : (0 : Int) ≤ (k : Int) := by omega
      have i2 : (k : Int) < (n : Int) := by omega
      rcases hkind with e | e | e | e | ⟨e1, e2, e3, e4⟩
      · have hv : Hid ((1 : Int) = szk l k) := Lib.hid (by rw [hzk.out]; unfold sz0; rw [if_neg (by omega), if_pos (by omega)])
        rw [e] at c0 F1
        clear e hzk
        go_wp2
        go_roundw
        case rel => exact ⟨k + 1, by go_num, by omega, Lib.hid ((HW.out.set (Fr.refl _ _) (by rw [zeros_len]; exact hlt) hv.out).keep (fr_al (Fr.refl _ _) _))⟩
        case measure => simp [intOf]; omega
      · have hv : Hid ((1 : Int) = szk l k) := Lib.hid (by rw [hzk.out]; unfold sz0; rw [if_neg (by omega), if_pos (by omega)])
        rw [e] at c0 F1
        clear e hzk
        go_wp2
        go_roundw
        case rel => exact ⟨k + 1, by go_num, by omega, Lib.hid ((HW.out.set (Fr.refl _ _) (by rw [zeros_len]; exact hlt) hv.out).keep (fr_al (Fr.refl _ _) _))⟩
        case measure => simp [intOf]; omega
      · have hv : Hid ((1 : Int) = szk l k) := Lib.hid (by rw [hzk.out]; unfold sz0; rw [if_neg (by omega), if_pos (by omega)])
        rw [e] at c0 F1
        clear e hzk
        go_wp2
        go_roundw
        case rel => exact ⟨k + 1, by go_num, by omega, Lib.hid ((HW.out.set (Fr.refl _ _) (by rw [zeros_len]; exact hlt) hv.out).keep (fr_al (Fr.refl _ _) _))⟩
        case measure => simp [intOf]; omega
      · have hv : Hid (((numI x.rd x.imm).length : Int) = szk l k) := Lib.hid (by rw [hzk.out]; unfold sz0; rw [if_pos e])
        rw [e] at c0 F1
        clear e hzk
        go_wp2_with (go_at_call 66; (with_reducible refine (c66 _ _ _ _ _ f0 f1 _).mono ?_); rintro e w2 ⟨a2, c2', rfl, hin, hgr, hbd⟩; have F2 := Lib.hid (F1.out.trans (Fr.of_grown hgr)); obtain ⟨⟨y2, d0'⟩, d1', d2'⟩ := HW.out.cell F2.out (by rw [zeros_len]; exact hlt); clear hin hgr hbd)
        go_roundw
        case rel => exact ⟨k + 1, by go_num, by omega, Lib.hid (HW.out.set F2.out (by rw [zeros_len]; exact hlt) hv.out)⟩
        case measure => simp [intOf]; omega
      · have hv : Hid (szk l k = (zeros n).getD k 0) := Lib.hid (by rw [hzk.out, zeros_get]; unfold sz0; rw [if_neg e4, if_neg (by omega)])
        have t1 : (x.k == 1) = false := by simpa using e1
        have t2 : (x.k == 4) = false := by simpa using e2
        have t3 : (x.k == 3) = false := by simpa using e3
        have t4 : (x.k == 5) = false := by simpa using e4
        clear e1 e2 e3 e4 hzk
        go_wp2
        go_roundw
        case rel => exact ⟨k + 1, by go_num, by omega, Lib.hid (HW.out.skip F1.out hv.out)⟩
        case measure => simp [intOf]; omega
    · obtain rfl : n = k := by omega
      go_wp2
      go_ret
      exact rowP_of HW.out.row HW.out.fr (by have h := mixK_end (szk l) (zeros n); rw [zeros_len] at h; rw [h]; have h2 := szF_none l; rw [zeros_len, ← HN.out] at h2; exact h2) (by rw [szF_len]; exact HN.out)
end Go.Proofs.Ytnjlcimeaoedcaa
