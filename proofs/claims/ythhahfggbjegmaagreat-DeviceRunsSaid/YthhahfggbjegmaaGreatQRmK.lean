/-
  What an instruction does to the document's own machine (layer 3).
-/
import Derived.Test.YthhahfggbjegmaaGreatQRmE
import Derived.Test.YthhahfggbjegmaaGreatQRmI
import Derived.Test.YthhahfggbjegmaaGreatQDevM
import Derived.Deep.RegionWith
import Derived.Outline
import Derived.BigRegion
namespace Go.Proofs.YthhahfggbjegmaaGreat
open Go.RowKit
set_option linter.unusedVariables false
set_option linter.unusedSimpArgs false
set_option maxRecDepth 100000 in
set_option maxHeartbeats 2000000 in
theorem rm_do_bt (rb gb rd r1 r2 : Nat) (imm p x1 x2 : Int) (i0 : -4294967296 ≤ imm) (i1 : imm ≤ 4294967296) (y0 : 0 ≤ x1) (y1 : x1 ≤ 4294967295) (u0 : 0 ≤ x2) (u1 : x2 ≤ 4294967295) (p0 : 0 ≤ p) (p1 : p ≤ 4294967295) (hr : rd < 32) (hr1 : r1 < 32) (hr2 : r2 < 32) (hne : gb ≠ rb) (w : World)
    (hx : w.cell? ⟨rb, 4, none⟩ = some (.int .i64 p)) (hs : w.cell? ⟨rb, 3, none⟩ = some (.slice (some ⟨gb, 0, none⟩) 32 32)) (h1 : w.cell? ⟨gb, r1, none⟩ = some (.int .u32 x1)) (h2 : w.cell? ⟨gb, r2, none⟩ = some (.int .u32 x2))
    (xd : Int) (hd : w.cell? ⟨gb, rd, none⟩ = some (.int .u32 xd)) (hf : w.frozen? ⟨gb, rd, none⟩ = false) (hfp : w.frozen? ⟨rb, 4, none⟩ = false) (op : Int) (ho : 5 ≤ op ∧ op ≤ 10) (hb : holdsF op x1 x2 = true) :
    Calls Tryz.prog 32 #[.pointer (some ⟨rb, 0, none⟩), .agg #[.int .i64 op, .int .i64 rd, .int .i64 r1, .int .i64 r2, .int .i64 imm]] w fun e w' => e = .returned (.bool true) ∧ ∃ w2, Fr (fun _ => False) w w2 ∧ w' = w2.setCell ⟨rb, 4, none⟩ (.int .i64 ((p + imm) % 4294967296)) := by
  obtain ⟨wI, hwI⟩ : ∃ wI : World, wI = w.alloc (.cells #[.int .i64 op, .int .i64 rd, .int .i64 r1, .int .i64 r2, .int .i64 imm] 66) := ⟨_, rfl⟩
  obtain ⟨bI, hbI⟩ : ∃ bI : Nat, bI = w.heap.size := ⟨_, rfl⟩
  have hgI : w.grownBy wI none := by rw [hwI]; exact byAlloc (byRefl w) _
  have HG := Lib.hid hgI
  have lg : gb < w.heap.size := World.block_lt_of_cell? w _ hd
  have lr : rb < w.heap.size := World.block_lt_of_cell? w _ hx
  have ng : bI ≠ gb := by omega
  have nr : bI ≠ rb := by omega
  have hfI : wI.frozen? ⟨gb, rd, none⟩ = false := (frozen_kept hd hgI (by simp)).trans hf
  have hfpI : wI.frozen? ⟨rb, 4, none⟩ = false := (frozen_kept hx hgI (by simp)).trans hfp
  have hA : wI.cell? ⟨rb, 4, none⟩ = some (.int .i64 p) := hgI.cell hx (by simp)
  have hS : wI.cell? ⟨rb, 3, none⟩ = some (.slice (some ⟨gb, 0, none⟩) 32 32) := hgI.cell hs (by simp)
  have hA1 : wI.cell? ⟨gb, r1, none⟩ = some (.int .u32 x1) := hgI.cell h1 (by simp)
  have hA2 : wI.cell? ⟨gb, r2, none⟩ = some (.int .u32 x2) := hgI.cell h2 (by simp)
  have hD : wI.cell? ⟨gb, rd, none⟩ = some (.int .u32 xd) := hgI.cell hd (by simp)
  have z0 : wI.cell? ⟨bI, 0, none⟩ = some (.int .i64 op) := by rw [hwI, hbI]; exact row_cell w #[.int .i64 op, .int .i64 rd, .int .i64 r1, .int .i64 r2, .int .i64 imm] 66 0 (.int .i64 op) rfl
  have z1 : wI.cell? ⟨bI, 1, none⟩ = some (.int .i64 rd) := by rw [hwI, hbI]; exact row_cell w #[.int .i64 op, .int .i64 rd, .int .i64 r1, .int .i64 r2, .int .i64 imm] 66 1 (.int .i64 rd) rfl
  have z2 : wI.cell? ⟨bI, 2, none⟩ = some (.int .i64 r1) := by rw [hwI, hbI]; exact row_cell w #[.int .i64 op, .int .i64 rd, .int .i64 r1, .int .i64 r2, .int .i64 imm] 66 2 (.int .i64 r1) rfl
  have z3 : wI.cell? ⟨bI, 3, none⟩ = some (.int .i64 r2) := by rw [hwI, hbI]; exact row_cell w #[.int .i64 op, .int .i64 rd, .int .i64 r1, .int .i64 r2, .int .i64 imm] 66 3 (.int .i64 r2) rfl
  have z4 : wI.cell? ⟨bI, 4, none⟩ = some (.int .i64 imm) := by rw [hwI, hbI]; exact row_cell w #[.int .i64 op, .int .i64 rd, .int .i64 r1, .int .i64 r2, .int .i64 imm] 66 4 (.int .i64 imm) rfl
  have t1 : (r1 : Int) < 32 := by omega
  have t2 : (r2 : Int) < 32 := by omega
  have s1 : (0 : Int) ≤ r1 := by omega
  have s2 : (0 : Int) ≤ r2 := by omega
  have HW := Lib.hid rm_wrap
  have HC := Lib.hid (fun n h0 h1 w => c44 n h0 h1 w)
  have m1 := mod_in (p + 4)
  have HWW : Hid (∀ w, Calls Tryz.prog 42 #[.int .i64 (IntKind.i64.wrap (p + imm))] w fun e w' => e = .returned (.int .i64 ((p + imm) % 4294967296)) ∧ w = w') := Lib.hid (fun w => by rw [show IntKind.i64.wrap (p + imm) = p + imm by rw [IntKind.wrap_i64]; omega]; exact rm_wrap _ (by omega) (by omega) w)
  have hwr : IntKind.i64.wrap (p + imm) = p + imm := by rw [IntKind.wrap_i64]; omega
  clear hx hs h1 h2 hd hf hfp hgI lg lr
  have HT := Lib.hid (rm_taken op x1 x2 ho y0 y1 u0 u1)
  have HB := Lib.hid hb
  have q1 : (op == 1) = false := by rw [beq_eq_false_iff_ne]; omega
  have q2 : (op == 2) = false := by rw [beq_eq_false_iff_ne]; omega
  have q3 : (op == 3) = false := by rw [beq_eq_false_iff_ne]; omega
  have q4 : (op == 4) = false := by rw [beq_eq_false_iff_ne]; omega
  have q5 : op ≤ 10 := ho.2
  clear hb ho
  go_enter Tryz.func32, Tryz.ntmps32
  iterate 40 (first | ((fail_if_success go_at_call 42); first | go_values | go_skip | go_guarded | go_step) | skip)
  rw [← hwI, ← hbI]
  clear hwI hbI
  go_quiet (fail)
  go_wp2_with (first
      | (go_at_call 42; (with_reducible refine (HW.out _ (by omega) (by omega) _).mono ?_); rintro e w' ⟨rfl, rfl⟩)
      | (go_at_call 44; (with_reducible refine (HC.out _ (by omega) (by omega) _).mono ?_); rintro e w' ⟨rfl, rfl⟩)
      | (go_at_call 45; (with_reducible refine (HT.out _).mono ?_); rintro e w' ⟨rfl, rfl⟩; rw [HB.out]))
  obtain ⟨w3, hw3⟩ : ∃ w3 : World, w3 = wI.drewN nq := ⟨_, rfl⟩
  have HQ : Hid (Fr (fun _ => False) w w3.drew) := by rw [hw3]; exact Lib.hid (((Fr.of_by0 HG.out).drewN nq).drewN 1)
  have d4 : w3.drew.cell? ⟨bI, 4, none⟩ = some (.int .i64 imm) := by rw [hw3]; exact z4
  have dA : w3.drew.cell? ⟨rb, 4, none⟩ = some (.int .i64 p) := by rw [hw3]; exact hA
  have dP : w3.drew.frozen? ⟨rb, 4, none⟩ = false := by rw [hw3]; exact hfpI
  rw [← hw3]
  clear hw3 z0 z1 z2 z3 z4 hA hS hD hfI hfpI hA1 hA2
  go_region_with (go_at_call 42; (with_reducible refine (HW.out _ (by omega) (by omega) _).mono ?_); rintro e w' ⟨rfl, rfl⟩)
  all_goals
    go_wp2
    go_ret
    exact ⟨rfl, _, HQ.out, rfl⟩
set_option maxRecDepth 100000 in
set_option maxHeartbeats 2000000 in
theorem rm_do_bf (rb gb rd r1 r2 : Nat) (imm p x1 x2 : Int) (i0 : -4294967296 ≤ imm) (i1 : imm ≤ 4294967296) (y0 : 0 ≤ x1) (y1 : x1 ≤ 4294967295) (u0 : 0 ≤ x2) (u1 : x2 ≤ 4294967295) (p0 : 0 ≤ p) (p1 : p ≤ 4294967295) (hr : rd < 32) (hr1 : r1 < 32) (hr2 : r2 < 32) (hne : gb ≠ rb) (w : World)
    (hx : w.cell? ⟨rb, 4, none⟩ = some (.int .i64 p)) (hs : w.cell? ⟨rb, 3, none⟩ = some (.slice (some ⟨gb, 0, none⟩) 32 32)) (h1 : w.cell? ⟨gb, r1, none⟩ = some (.int .u32 x1)) (h2 : w.cell? ⟨gb, r2, none⟩ = some (.int .u32 x2))
    (xd : Int) (hd : w.cell? ⟨gb, rd, none⟩ = some (.int .u32 xd)) (hf : w.frozen? ⟨gb, rd, none⟩ = false) (hfp : w.frozen? ⟨rb, 4, none⟩ = false) (op : Int) (ho : 5 ≤ op ∧ op ≤ 10) (hb : holdsF op x1 x2 = false) :
    Calls Tryz.prog 32 #[.pointer (some ⟨rb, 0, none⟩), .agg #[.int .i64 op, .int .i64 rd, .int .i64 r1, .int .i64 r2, .int .i64 imm]] w fun e w' => e = .returned (.bool true) ∧ ∃ w2, Fr (fun _ => False) w w2 ∧ w' = w2.setCell ⟨rb, 4, none⟩ (.int .i64 ((p + 4) % 4294967296)) := by
  obtain ⟨wI, hwI⟩ : ∃ wI : World, wI = w.alloc (.cells #[.int .i64 op, .int .i64 rd, .int .i64 r1, .int .i64 r2, .int .i64 imm] 66) := ⟨_, rfl⟩
  obtain ⟨bI, hbI⟩ : ∃ bI : Nat, bI = w.heap.size := ⟨_, rfl⟩
  have hgI : w.grownBy wI none := by rw [hwI]; exact byAlloc (byRefl w) _
  have HG := Lib.hid hgI
  have lg : gb < w.heap.size := World.block_lt_of_cell? w _ hd
  have lr : rb < w.heap.size := World.block_lt_of_cell? w _ hx
  have ng : bI ≠ gb := by omega
  have nr : bI ≠ rb := by omega
  have hfI : wI.frozen? ⟨gb, rd, none⟩ = false := (frozen_kept hd hgI (by simp)).trans hf
  have hfpI : wI.frozen? ⟨rb, 4, none⟩ = false := (frozen_kept hx hgI (by simp)).trans hfp
  have hA : wI.cell? ⟨rb, 4, none⟩ = some (.int .i64 p) := hgI.cell hx (by simp)
  have hS : wI.cell? ⟨rb, 3, none⟩ = some (.slice (some ⟨gb, 0, none⟩) 32 32) := hgI.cell hs (by simp)
  have hA1 : wI.cell? ⟨gb, r1, none⟩ = some (.int .u32 x1) := hgI.cell h1 (by simp)
  have hA2 : wI.cell? ⟨gb, r2, none⟩ = some (.int .u32 x2) := hgI.cell h2 (by simp)
  have hD : wI.cell? ⟨gb, rd, none⟩ = some (.int .u32 xd) := hgI.cell hd (by simp)
  have z0 : wI.cell? ⟨bI, 0, none⟩ = some (.int .i64 op) := by rw [hwI, hbI]; exact row_cell w #[.int .i64 op, .int .i64 rd, .int .i64 r1, .int .i64 r2, .int .i64 imm] 66 0 (.int .i64 op) rfl
  have z1 : wI.cell? ⟨bI, 1, none⟩ = some (.int .i64 rd) := by rw [hwI, hbI]; exact row_cell w #[.int .i64 op, .int .i64 rd, .int .i64 r1, .int .i64 r2, .int .i64 imm] 66 1 (.int .i64 rd) rfl
  have z2 : wI.cell? ⟨bI, 2, none⟩ = some (.int .i64 r1) := by rw [hwI, hbI]; exact row_cell w #[.int .i64 op, .int .i64 rd, .int .i64 r1, .int .i64 r2, .int .i64 imm] 66 2 (.int .i64 r1) rfl
  have z3 : wI.cell? ⟨bI, 3, none⟩ = some (.int .i64 r2) := by rw [hwI, hbI]; exact row_cell w #[.int .i64 op, .int .i64 rd, .int .i64 r1, .int .i64 r2, .int .i64 imm] 66 3 (.int .i64 r2) rfl
  have z4 : wI.cell? ⟨bI, 4, none⟩ = some (.int .i64 imm) := by rw [hwI, hbI]; exact row_cell w #[.int .i64 op, .int .i64 rd, .int .i64 r1, .int .i64 r2, .int .i64 imm] 66 4 (.int .i64 imm) rfl
  have t1 : (r1 : Int) < 32 := by omega
  have t2 : (r2 : Int) < 32 := by omega
  have s1 : (0 : Int) ≤ r1 := by omega
  have s2 : (0 : Int) ≤ r2 := by omega
  have HW := Lib.hid rm_wrap
  have HC := Lib.hid (fun n h0 h1 w => c44 n h0 h1 w)
  have m1 := mod_in (p + 4)
  have HWW : Hid (∀ w, Calls Tryz.prog 42 #[.int .i64 (IntKind.i64.wrap (p + imm))] w fun e w' => e = .returned (.int .i64 ((p + imm) % 4294967296)) ∧ w = w') := Lib.hid (fun w => by rw [show IntKind.i64.wrap (p + imm) = p + imm by rw [IntKind.wrap_i64]; omega]; exact rm_wrap _ (by omega) (by omega) w)
  have hwr : IntKind.i64.wrap (p + imm) = p + imm := by rw [IntKind.wrap_i64]; omega
  clear hx hs h1 h2 hd hf hfp hgI lg lr
  have HT := Lib.hid (rm_taken op x1 x2 ho y0 y1 u0 u1)
  have HB := Lib.hid hb
  have q1 : (op == 1) = false := by rw [beq_eq_false_iff_ne]; omega
  have q2 : (op == 2) = false := by rw [beq_eq_false_iff_ne]; omega
  have q3 : (op == 3) = false := by rw [beq_eq_false_iff_ne]; omega
  have q4 : (op == 4) = false := by rw [beq_eq_false_iff_ne]; omega
  have q5 : op ≤ 10 := ho.2
  clear hb ho
  go_enter Tryz.func32, Tryz.ntmps32
  iterate 40 (first | ((fail_if_success go_at_call 42); first | go_values | go_skip | go_guarded | go_step) | skip)
  rw [← hwI, ← hbI]
  clear hwI hbI
  go_quiet (fail)
  go_wp2_with (first
      | (go_at_call 42; (with_reducible refine (HW.out _ (by omega) (by omega) _).mono ?_); rintro e w' ⟨rfl, rfl⟩)
      | (go_at_call 44; (with_reducible refine (HC.out _ (by omega) (by omega) _).mono ?_); rintro e w' ⟨rfl, rfl⟩)
      | (go_at_call 45; (with_reducible refine (HT.out _).mono ?_); rintro e w' ⟨rfl, rfl⟩; rw [HB.out]))
  go_ret
  first | exact ⟨rfl, _, (Fr.of_by0 HG.out).drewN _, rfl⟩ | exact ⟨rfl, _, ((Fr.of_by0 HG.out).drewN _).drewN _, rfl⟩ | exact ⟨rfl, _, (((Fr.of_by0 HG.out).drewN _).drewN _).drewN _, rfl⟩
end Go.Proofs.YthhahfggbjegmaaGreat
