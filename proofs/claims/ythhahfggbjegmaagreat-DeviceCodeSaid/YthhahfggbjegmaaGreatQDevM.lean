/-
  The contract of execute (layer 3) where it computes.
-/
import Derived.Test.YthhahfggbjegmaaGreatQDevCc
import Derived.Deep.RegionWith
namespace Go.Proofs.YthhahfggbjegmaaGreat
open Go.RowKit
set_option linter.unusedVariables false
set_option linter.unusedSimpArgs false
set_option maxRecDepth 100000 in
set_option maxHeartbeats 2000000 in
theorem dv78_comp (b : Nat) (rd r1 r2 : Nat) (op imm p x1 x2 : Int) (ho : 19 ≤ op ∧ op ≤ 45) (y0 : 0 ≤ x1) (y1 : x1 ≤ 4294967295) (u0 : 0 ≤ x2) (u1 : x2 ≤ 4294967295) (hr : rd < 32 ∧ r1 < 32 ∧ r2 < 32) (p0 : 0 ≤ p) (p1 : p ≤ 4294967295) (w : World) (hx : w.cell? ⟨b, 32, none⟩ = some (.int .u32 p))
    (h1 : w.cell? ⟨b, r1, none⟩ = some (.int .u32 x1)) (h2 : w.cell? ⟨b, r2, none⟩ = some (.int .u32 x2)) (xd : Int) (hd : w.cell? ⟨b, rd, none⟩ = some (.int .u32 xd)) (hf : w.frozen? ⟨b, rd, none⟩ = false) (hfp : w.frozen? ⟨b, 32, none⟩ = false) :
    Calls Tryz.prog 34 #[.pointer (some ⟨b, 0, none⟩), .agg #[.int .i64 op, .int .i64 rd, .int .i64 r1, .int .i64 r2, .int .i64 imm]] w fun e w' => e = .returned (.bool true) ∧ ∃ w2, w.grownBy w2 none ∧ w' = (setW w2 b rd (compF op x1 x2 (imm % 4294967296))).setCell ⟨b, 32, none⟩ (.int .u32 ((p + 4) % 4294967296)) := by
  obtain ⟨wI, hwI⟩ : ∃ wI : World, wI = w.alloc (.cells #[.int .i64 op, .int .i64 rd, .int .i64 r1, .int .i64 r2, .int .i64 imm] 70) := ⟨_, rfl⟩
  obtain ⟨bI, hbI⟩ : ∃ bI : Nat, bI = w.heap.size := ⟨_, rfl⟩
  have hgI : w.grownBy wI none := by rw [hwI]; exact byAlloc (byRefl w) _
  have HG := Lib.hid hgI
  have hfI : wI.frozen? ⟨b, rd, none⟩ = false := (frozen_kept hd hgI (by simp)).trans hf
  have hfpI : wI.frozen? ⟨b, 32, none⟩ = false := (frozen_kept hx hgI (by simp)).trans hfp
  have hA : wI.cell? ⟨b, 32, none⟩ = some (.int .u32 p) := hgI.cell hx (by simp)
  have hA1 : wI.cell? ⟨b, r1, none⟩ = some (.int .u32 x1) := hgI.cell h1 (by simp)
  have hA2 : wI.cell? ⟨b, r2, none⟩ = some (.int .u32 x2) := hgI.cell h2 (by simp)
  have z0 : wI.cell? ⟨bI, 0, none⟩ = some (.int .i64 op) := by rw [hwI, hbI]; exact row_cell w #[.int .i64 op, .int .i64 rd, .int .i64 r1, .int .i64 r2, .int .i64 imm] 70 0 (.int .i64 op) rfl
  have z1 : wI.cell? ⟨bI, 1, none⟩ = some (.int .i64 rd) := by rw [hwI, hbI]; exact row_cell w #[.int .i64 op, .int .i64 rd, .int .i64 r1, .int .i64 r2, .int .i64 imm] 70 1 (.int .i64 rd) rfl
  have z2 : wI.cell? ⟨bI, 2, none⟩ = some (.int .i64 r1) := by rw [hwI, hbI]; exact row_cell w #[.int .i64 op, .int .i64 rd, .int .i64 r1, .int .i64 r2, .int .i64 imm] 70 2 (.int .i64 r1) rfl
  have z3 : wI.cell? ⟨bI, 3, none⟩ = some (.int .i64 r2) := by rw [hwI, hbI]; exact row_cell w #[.int .i64 op, .int .i64 rd, .int .i64 r1, .int .i64 r2, .int .i64 imm] 70 3 (.int .i64 r2) rfl
  have z4 : wI.cell? ⟨bI, 4, none⟩ = some (.int .i64 imm) := by rw [hwI, hbI]; exact row_cell w #[.int .i64 op, .int .i64 rd, .int .i64 r1, .int .i64 r2, .int .i64 imm] 70 4 (.int .i64 imm) rfl
  have ha := ho.1
  have hb := ho.2
  have e0 : (op == 0) = false := by rw [beq_eq_false_iff_ne]; omega
  have e1 : (op == 1) = false := by rw [beq_eq_false_iff_ne]; omega
  have e2 : (op == 2) = false := by rw [beq_eq_false_iff_ne]; omega
  have e3 : (op == 3) = false := by rw [beq_eq_false_iff_ne]; omega
  have e4 : (op == 4) = false := by rw [beq_eq_false_iff_ne]; omega
  have e5 : (op == 5) = false := by rw [beq_eq_false_iff_ne]; omega
  have e6 : (op == 6) = false := by rw [beq_eq_false_iff_ne]; omega
  have e7 : (op == 7) = false := by rw [beq_eq_false_iff_ne]; omega
  have e8 : (op == 8) = false := by rw [beq_eq_false_iff_ne]; omega
  have e9 : (op == 9) = false := by rw [beq_eq_false_iff_ne]; omega
  have e10 : (op == 10) = false := by rw [beq_eq_false_iff_ne]; omega
  have e11 : (op == 11) = false := by rw [beq_eq_false_iff_ne]; omega
  have e12 : (op == 12) = false := by rw [beq_eq_false_iff_ne]; omega
  have e13 : (op == 13) = false := by rw [beq_eq_false_iff_ne]; omega
  have e14 : (op == 14) = false := by rw [beq_eq_false_iff_ne]; omega
  have e15 : (op == 15) = false := by rw [beq_eq_false_iff_ne]; omega
  have e16 : (op == 16) = false := by rw [beq_eq_false_iff_ne]; omega
  have e17 : (op == 17) = false := by rw [beq_eq_false_iff_ne]; omega
  have e18 : (op == 18) = false := by rw [beq_eq_false_iff_ne]; omega
  have HN0 : Hid (∀ w2, w.grownBy w2 none → w2.cell? ⟨b, rd, none⟩ = some (.int .u32 xd) ∧ w2.frozen? ⟨b, rd, none⟩ = false ∧ (setW w2 b rd (compF op x1 x2 (imm % 4294967296))).cell? ⟨b, 32, none⟩ = some (.int .u32 p) ∧ (setW w2 b rd (compF op x1 x2 (imm % 4294967296))).frozen? ⟨b, 32, none⟩ = false) :=
    Lib.hid (fun w2 hg => ⟨hg.cell hd (by simp), (frozen_kept hd hg (by simp)).trans hf, set_cell (n := 0) hr.1 (hg.cell hx (by simp)), set_frozen (n := 0) ((frozen_kept hx hg (by simp)).trans hfp)⟩)
  obtain ⟨hr0, hr1, hr2⟩ := hr
  clear hd hf hfp hx h1 h2 hgI
  go_enter Tryz.func34, Tryz.ntmps34
  iterate 40 (first | (first | with_reducible refine wp_exit ?_ | with_reducible refine past_then ?_ | with_reducible refine past_block rfl ?_ | with_reducible refine at_block ?_) | ((fail_if_success go_at_call 54); first | go_values | go_skip | go_guarded | go_step) | skip)
  rw [← hwI, ← hbI]
  clear hwI hbI
  have i0 : 0 ≤ imm % 4294967296 := by omega
  have i1 : imm % 4294967296 ≤ 4294967295 := by omega
  have HC : ∀ w1, Hid (Calls Tryz.prog 59 #[.int .i64 op, .int .u32 x1, .int .u32 x2, .int .u32 (imm % 4294967296)] w1 fun e w' => e = .returned (.int .u32 (compF op x1 x2 (imm % 4294967296))) ∧ w1.grownBy w' none) := fun w1 => Lib.hid (dv87 op x1 x2 _ ho y0 y1 u0 u1 i0 i1 w1)
  obtain ⟨v, hv⟩ : ∃ v, compF op x1 x2 (imm % 4294967296) = v := ⟨_, rfl⟩
  rw [hv] at HN0
  simp only [hv] at HC
  have hV := Lib.hid hv
  clear hv
  have HN : Hid (∀ w2, w.grownBy w2 none → w2.cell? ⟨b, rd, none⟩ = some (.int .u32 xd) ∧ w2.frozen? ⟨b, rd, none⟩ = false ∧ (setW w2 b rd v).cell? ⟨b, 32, none⟩ = some (.int .u32 p) ∧ (setW w2 b rd v).frozen? ⟨b, 32, none⟩ = false) := HN0
  clear HN0 ha hb
  go_quiet (fail)
  obtain ⟨w3, hw3⟩ : ∃ w3 : World, w3 = wI.drewN nq := ⟨_, rfl⟩
  have HQ : Hid (w.grownBy w3 none) := by rw [hw3]; exact Lib.hid (byDrewN HG.out nq)
  have t0 : w3.cell? ⟨bI, 0, none⟩ = some (.int .i64 op) := by rw [hw3]; exact z0
  have t1 : w3.cell? ⟨bI, 1, none⟩ = some (.int .i64 rd) := by rw [hw3]; exact z1
  have t2 : w3.cell? ⟨b, 32, none⟩ = some (.int .u32 p) := by rw [hw3]; exact hA
  have HQd : Hid (w.grownBy w3.drew none) := Lib.hid (byDrewN HQ.out 1)
  have d0 : w3.drew.cell? ⟨bI, 0, none⟩ = some (.int .i64 op) := t0
  have d1 : w3.drew.cell? ⟨bI, 1, none⟩ = some (.int .i64 rd) := t1
  rw [← hw3]
  clear hw3
  go_wp2_with (first | (first | with_reducible refine wp_exit ?_ | with_reducible refine past_then ?_ | with_reducible refine past_block rfl ?_ | with_reducible refine at_block ?_) | (go_at_call 54; (with_reducible refine (c54 p 4 p0 p1 (by decide) (by decide) _).mono ?_); rintro e w' ⟨rfl, rfl⟩) | (go_at_call 59; (with_reducible refine (HC _).out.mono ?_); rintro e w2 ⟨rfl, hg⟩; have HW := Lib.hid (HQ.out.trans hg); clear hg; obtain ⟨s1, s2, s3, s4⟩ := HN.out _ HW.out) | (go_at_call 55; (with_reducible refine (dv83 b rd _ xd hr0 _ (by assumption) (by assumption)).mono ?_); rintro e w' ⟨rfl, rfl⟩))
  go_region_with (first | (go_at_call 59; (with_reducible refine (HC _).out.mono ?_); rintro e w2 ⟨rfl, hg⟩; have HW := Lib.hid (HQd.out.trans hg); have q0 := hg.cell d0 (by simp); have q1 := hg.cell d1 (by simp); clear hg; obtain ⟨s1, s2, s3, s4⟩ := HN.out _ HW.out) | (go_at_call 55; (with_reducible refine (dv83 b rd _ xd hr0 _ (by assumption) (by assumption)).mono ?_); rintro e w' ⟨rfl, rfl⟩))
  all_goals
    go_wp2
    go_ret
    exact ⟨rfl, _, HW.out, by rw [hV.out]⟩
end Go.Proofs.YthhahfggbjegmaaGreat
