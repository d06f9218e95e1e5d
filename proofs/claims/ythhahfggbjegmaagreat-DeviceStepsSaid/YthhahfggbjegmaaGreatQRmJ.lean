/-
  What an instruction does to the document's own machine (layer 3).
-/
import Derived.Test.YthhahfggbjegmaaGreatQRmE
import Derived.Test.YthhahfggbjegmaaGreatQRmI
import Derived.Test.YthhahfggbjegmaaGreatQDevM
import Derived.Deep.RegionWith
import Derived.Outline
import Derived.BigRegion
namespace Go.Proofs.YthhahfggbjegmaaGreat
open Go.RowKit
set_option linter.unusedVariables false
set_option linter.unusedSimpArgs false
set_option maxRecDepth 100000 in
set_option maxHeartbeats 2000000 in
theorem rm_do_2 (rb gb rd r1 r2 : Nat) (imm p x1 x2 : Int) (i0 : -4294967296 ≤ imm) (i1 : imm ≤ 4294967296) (y0 : 0 ≤ x1) (y1 : x1 ≤ 4294967295) (u0 : 0 ≤ x2) (u1 : x2 ≤ 4294967295) (p0 : 0 ≤ p) (p1 : p ≤ 4294967295) (hr : rd < 32) (hr1 : r1 < 32) (hr2 : r2 < 32) (hne : gb ≠ rb) (w : World)
    (hx : w.cell? ⟨rb, 4, none⟩ = some (.int .i64 p)) (hs : w.cell? ⟨rb, 3, none⟩ = some (.slice (some ⟨gb, 0, none⟩) 32 32)) (h1 : w.cell? ⟨gb, r1, none⟩ = some (.int .u32 x1)) (h2 : w.cell? ⟨gb, r2, none⟩ = some (.int .u32 x2))
    (xd : Int) (hd : w.cell? ⟨gb, rd, none⟩ = some (.int .u32 xd)) (hf : w.frozen? ⟨gb, rd, none⟩ = false) (hfp : w.frozen? ⟨rb, 4, none⟩ = false) :
    Calls Tryz.prog 32 #[.pointer (some ⟨rb, 0, none⟩), .agg #[.int .i64 2, .int .i64 rd, .int .i64 r1, .int .i64 r2, .int .i64 imm]] w fun e w' => e = .returned (.bool true) ∧ ∃ w2, Fr (fun _ => False) w w2 ∧ w' = (setW w2 gb rd ((p + imm) % 4294967296)).setCell ⟨rb, 4, none⟩ (.int .i64 ((p + 4) % 4294967296)) := by
  obtain ⟨wI, hwI⟩ : ∃ wI : World, wI = w.alloc (.cells #[.int .i64 2, .int .i64 rd, .int .i64 r1, .int .i64 r2, .int .i64 imm] 66) := ⟨_, rfl⟩
  obtain ⟨bI, hbI⟩ : ∃ bI : Nat, bI = w.heap.size := ⟨_, rfl⟩
  have hgI : w.grownBy wI none := by rw [hwI]; exact byAlloc (byRefl w) _
  have HG := Lib.hid hgI
  have lg : gb < w.heap.size := World.block_lt_of_cell? w _ hd
  have lr : rb < w.heap.size := World.block_lt_of_cell? w _ hx
  have ng : bI ≠ gb := by omega
  have nr : bI ≠ rb := by omega
  have hfI : wI.frozen? ⟨gb, rd, none⟩ = false := (frozen_kept hd hgI (by simp)).trans hf
  have hfpI : wI.frozen? ⟨rb, 4, none⟩ = false := (frozen_kept hx hgI (by simp)).trans hfp
  have hA : wI.cell? ⟨rb, 4, none⟩ = some (.int .i64 p) := hgI.cell hx (by simp)
  have hS : wI.cell? ⟨rb, 3, none⟩ = some (.slice (some ⟨gb, 0, none⟩) 32 32) := hgI.cell hs (by simp)
  have hA1 : wI.cell? ⟨gb, r1, none⟩ = some (.int .u32 x1) := hgI.cell h1 (by simp)
  have hA2 : wI.cell? ⟨gb, r2, none⟩ = some (.int .u32 x2) := hgI.cell h2 (by simp)
  have hD : wI.cell? ⟨gb, rd, none⟩ = some (.int .u32 xd) := hgI.cell hd (by simp)
  have z0 : wI.cell? ⟨bI, 0, none⟩ = some (.int .i64 2) := by rw [hwI, hbI]; exact row_cell w #[.int .i64 2, .int .i64 rd, .int .i64 r1, .int .i64 r2, .int .i64 imm] 66 0 (.int .i64 2) rfl
  have z1 : wI.cell? ⟨bI, 1, none⟩ = some (.int .i64 rd) := by rw [hwI, hbI]; exact row_cell w #[.int .i64 2, .int .i64 rd, .int .i64 r1, .int .i64 r2, .int .i64 imm] 66 1 (.int .i64 rd) rfl
  have z2 : wI.cell? ⟨bI, 2, none⟩ = some (.int .i64 r1) := by rw [hwI, hbI]; exact row_cell w #[.int .i64 2, .int .i64 rd, .int .i64 r1, .int .i64 r2, .int .i64 imm] 66 2 (.int .i64 r1) rfl
  have z3 : wI.cell? ⟨bI, 3, none⟩ = some (.int .i64 r2) := by rw [hwI, hbI]; exact row_cell w #[.int .i64 2, .int .i64 rd, .int .i64 r1, .int .i64 r2, .int .i64 imm] 66 3 (.int .i64 r2) rfl
  have z4 : wI.cell? ⟨bI, 4, none⟩ = some (.int .i64 imm) := by rw [hwI, hbI]; exact row_cell w #[.int .i64 2, .int .i64 rd, .int .i64 r1, .int .i64 r2, .int .i64 imm] 66 4 (.int .i64 imm) rfl
  have t1 : (r1 : Int) < 32 := by omega
  have t2 : (r2 : Int) < 32 := by omega
  have s1 : (0 : Int) ≤ r1 := by omega
  have s2 : (0 : Int) ≤ r2 := by omega
  have HW := Lib.hid rm_wrap
  have HC := Lib.hid (fun n h0 h1 w => c44 n h0 h1 w)
  have m1 := mod_in (p + 4)
  have HWW : Hid (∀ w, Calls Tryz.prog 42 #[.int .i64 (IntKind.i64.wrap (p + imm))] w fun e w' => e = .returned (.int .i64 ((p + imm) % 4294967296)) ∧ w = w') := Lib.hid (fun w => by rw [show IntKind.i64.wrap (p + imm) = p + imm by rw [IntKind.wrap_i64]; omega]; exact rm_wrap _ (by omega) (by omega) w)
  have hwr : IntKind.i64.wrap (p + imm) = p + imm := by rw [IntKind.wrap_i64]; omega
  clear hx hs h1 h2 hd hf hfp hgI lg lr
  go_enter Tryz.func32, Tryz.ntmps32
  iterate 40 (first | ((fail_if_success go_at_call 42); first | go_values | go_skip | go_guarded | go_step) | skip)
  rw [← hwI, ← hbI]
  clear hwI hbI
  go_quiet (fail)
  go_wp2_with (first
      | (go_at_call 42; (with_reducible refine (HW.out _ (by omega) (by omega) _).mono ?_); rintro e w' ⟨rfl, rfl⟩)
      | (go_at_call 44; (with_reducible refine (HC.out _ (by omega) (by omega) _).mono ?_); rintro e w' ⟨rfl, rfl⟩)
      | (go_at_call 43; (with_reducible refine (rm_set rb gb rd _ xd hr _ (by assumption) (by assumption) (by assumption)).mono ?_); rintro e w' ⟨rfl, rfl⟩))
  obtain ⟨w3, hw3⟩ : ∃ w3 : World, w3 = wI.drewN nq := ⟨_, rfl⟩
  have HQ : Hid (Fr (fun _ => False) w w3.drew) := by rw [hw3]; exact Lib.hid (((Fr.of_by0 HG.out).drewN nq).drewN 1)
  have d0 : w3.cell? ⟨bI, 0, none⟩ = some (.int .i64 2) := by rw [hw3]; exact z0
  have d1 : w3.drew.cell? ⟨bI, 1, none⟩ = some (.int .i64 rd) := by rw [hw3]; exact z1
  have d4 : w3.drew.cell? ⟨bI, 4, none⟩ = some (.int .i64 imm) := by rw [hw3]; exact z4
  have dA : w3.drew.cell? ⟨rb, 4, none⟩ = some (.int .i64 p) := by rw [hw3]; exact hA
  have dS : w3.drew.cell? ⟨rb, 3, none⟩ = some (.slice (some ⟨gb, 0, none⟩) 32 32) := by rw [hw3]; exact hS
  have dD : w3.drew.cell? ⟨gb, rd, none⟩ = some (.int .u32 xd) := by rw [hw3]; exact hD
  have dF : w3.drew.frozen? ⟨gb, rd, none⟩ = false := by rw [hw3]; exact hfI
  have dP : w3.drew.frozen? ⟨rb, 4, none⟩ = false := by rw [hw3]; exact hfpI
  have cA : ∀ v, (setW w3.drew gb rd v).cell? ⟨rb, 4, none⟩ = some (.int .i64 p) := fun v => setW_cell (Ne.symm hne) dA
  have cP : ∀ v, (setW w3.drew gb rd v).frozen? ⟨rb, 4, none⟩ = false := fun v => setW_frozen dP
  rw [← hw3]
  clear hw3
  go_region_with (first
      | (go_at_call 42; (with_reducible refine (HW.out _ (by omega) (by omega) _).mono ?_); rintro e w' ⟨rfl, rfl⟩)
      | (go_at_call 44; (with_reducible refine (HC.out _ (by omega) (by omega) _).mono ?_); rintro e w' ⟨rfl, rfl⟩)
      | (go_at_call 43; (with_reducible refine (rm_set rb gb rd _ xd hr _ (by assumption) (by assumption) (by assumption)).mono ?_); rintro e w' ⟨rfl, rfl⟩))
  all_goals
    go_wp2
    go_ret
    exact ⟨rfl, _, HQ.out, rfl⟩
set_option maxRecDepth 100000 in
set_option maxHeartbeats 2000000 in
theorem rm_do_3 (rb gb rd r1 r2 : Nat) (imm p x1 x2 : Int) (i0 : -4294967296 ≤ imm) (i1 : imm ≤ 4294967296) (y0 : 0 ≤ x1) (y1 : x1 ≤ 4294967295) (u0 : 0 ≤ x2) (u1 : x2 ≤ 4294967295) (p0 : 0 ≤ p) (p1 : p ≤ 4294967295) (hr : rd < 32) (hr1 : r1 < 32) (hr2 : r2 < 32) (hne : gb ≠ rb) (w : World)
    (hx : w.cell? ⟨rb, 4, none⟩ = some (.int .i64 p)) (hs : w.cell? ⟨rb, 3, none⟩ = some (.slice (some ⟨gb, 0, none⟩) 32 32)) (h1 : w.cell? ⟨gb, r1, none⟩ = some (.int .u32 x1)) (h2 : w.cell? ⟨gb, r2, none⟩ = some (.int .u32 x2))
    (xd : Int) (hd : w.cell? ⟨gb, rd, none⟩ = some (.int .u32 xd)) (hf : w.frozen? ⟨gb, rd, none⟩ = false) (hfp : w.frozen? ⟨rb, 4, none⟩ = false) :
    Calls Tryz.prog 32 #[.pointer (some ⟨rb, 0, none⟩), .agg #[.int .i64 3, .int .i64 rd, .int .i64 r1, .int .i64 r2, .int .i64 imm]] w fun e w' => e = .returned (.bool true) ∧ ∃ w2, Fr (fun _ => False) w w2 ∧ w' = (setW w2 gb rd ((p + 4) % 4294967296)).setCell ⟨rb, 4, none⟩ (.int .i64 ((p + imm) % 4294967296)) := by
  obtain ⟨wI, hwI⟩ : ∃ wI : World, wI = w.alloc (.cells #[.int .i64 3, .int .i64 rd, .int .i64 r1, .int .i64 r2, .int .i64 imm] 66) := ⟨_, rfl⟩
  obtain ⟨bI, hbI⟩ : ∃ bI : Nat, bI = w.heap.size := ⟨_, rfl⟩
  have hgI : w.grownBy wI none := by rw [hwI]; exact byAlloc (byRefl w) _
  have HG := Lib.hid hgI
  have lg : gb < w.heap.size := World.block_lt_of_cell? w _ hd
  have lr : rb < w.heap.size := World.block_lt_of_cell? w _ hx
  have ng : bI ≠ gb := by omega
  have nr : bI ≠ rb := by omega
  have hfI : wI.frozen? ⟨gb, rd, none⟩ = false := (frozen_kept hd hgI (by simp)).trans hf
  have hfpI : wI.frozen? ⟨rb, 4, none⟩ = false := (frozen_kept hx hgI (by simp)).trans hfp
  have hA : wI.cell? ⟨rb, 4, none⟩ = some (.int .i64 p) := hgI.cell hx (by simp)
  have hS : wI.cell? ⟨rb, 3, none⟩ = some (.slice (some ⟨gb, 0, none⟩) 32 32) := hgI.cell hs (by simp)
  have hA1 : wI.cell? ⟨gb, r1, none⟩ = some (.int .u32 x1) := hgI.cell h1 (by simp)
  have hA2 : wI.cell? ⟨gb, r2, none⟩ = some (.int .u32 x2) := hgI.cell h2 (by simp)
  have hD : wI.cell? ⟨gb, rd, none⟩ = some (.int .u32 xd) := hgI.cell hd (by simp)
  have z0 : wI.cell? ⟨bI, 0, none⟩ = some (.int .i64 3) := by rw [hwI, hbI]; exact row_cell w #[.int .i64 3, .int .i64 rd, .int .i64 r1, .int .i64 r2, .int .i64 imm] 66 0 (.int .i64 3) rfl
  have z1 : wI.cell? ⟨bI, 1, none⟩ = some (.int .i64 rd) := by rw [hwI, hbI]; exact row_cell w #[.int .i64 3, .int .i64 rd, .int .i64 r1, .int .i64 r2, .int .i64 imm] 66 1 (.int .i64 rd) rfl
  have z2 : wI.cell? ⟨bI, 2, none⟩ = some (.int .i64 r1) := by rw [hwI, hbI]; exact row_cell w #[.int .i64 3, .int .i64 rd, .int .i64 r1, .int .i64 r2, .int .i64 imm] 66 2 (.int .i64 r1) rfl
  have z3 : wI.cell? ⟨bI, 3, none⟩ = some (.int .i64 r2) := by rw [hwI, hbI]; exact row_cell w #[.int .i64 3, .int .i64 rd, .int .i64 r1, .int .i64 r2, .int .i64 imm] 66 3 (.int .i64 r2) rfl
  have z4 : wI.cell? ⟨bI, 4, none⟩ = some (.int .i64 imm) := by rw [hwI, hbI]; exact row_cell w #[.int .i64 3, .int .i64 rd, .int .i64 r1, .int .i64 r2, .int .i64 imm] 66 4 (.int .i64 imm) rfl
  have t1 : (r1 : Int) < 32 := by omega
  have t2 : (r2 : Int) < 32 := by omega
  have s1 : (0 : Int) ≤ r1 := by omega
  have s2 : (0 : Int) ≤ r2 := by omega
  have HW := Lib.hid rm_wrap
  have HC := Lib.hid (fun n h0 h1 w => c44 n h0 h1 w)
  have m1 := mod_in (p + 4)
  have HWW : Hid (∀ w, Calls Tryz.prog 42 #[.int .i64 (IntKind.i64.wrap (p + imm))] w fun e w' => e = .returned (.int .i64 ((p + imm) % 4294967296)) ∧ w = w') := Lib.hid (fun w => by rw [show IntKind.i64.wrap (p + imm) = p + imm by rw [IntKind.wrap_i64]; omega]; exact rm_wrap _ (by omega) (by omega) w)
  have hwr : IntKind.i64.wrap (p + imm) = p + imm := by rw [IntKind.wrap_i64]; omega
  clear hx hs h1 h2 hd hf hfp hgI lg lr
  go_enter Tryz.func32, Tryz.ntmps32
  iterate 40 (first | ((fail_if_success go_at_call 42); first | go_values | go_skip | go_guarded | go_step) | skip)
  rw [← hwI, ← hbI]
  clear hwI hbI
  go_quiet (fail)
  go_wp2_with (first
      | (go_at_call 42; (with_reducible refine (HW.out _ (by omega) (by omega) _).mono ?_); rintro e w' ⟨rfl, rfl⟩)
      | (go_at_call 44; (with_reducible refine (HC.out _ (by omega) (by omega) _).mono ?_); rintro e w' ⟨rfl, rfl⟩))
  obtain ⟨w3, hw3⟩ : ∃ w3 : World, w3 = wI.drewN nq := ⟨_, rfl⟩
  have HQ : Hid (Fr (fun _ => False) w w3) := by rw [hw3]; exact Lib.hid ((Fr.of_by0 HG.out).drewN nq)
  have d4 : w3.cell? ⟨bI, 4, none⟩ = some (.int .i64 imm) := by rw [hw3]; exact z4
  have dA : w3.cell? ⟨rb, 4, none⟩ = some (.int .i64 p) := by rw [hw3]; exact hA
  have dS : w3.cell? ⟨rb, 3, none⟩ = some (.slice (some ⟨gb, 0, none⟩) 32 32) := by rw [hw3]; exact hS
  have dD : w3.cell? ⟨gb, rd, none⟩ = some (.int .u32 xd) := by rw [hw3]; exact hD
  have dF : w3.frozen? ⟨gb, rd, none⟩ = false := by rw [hw3]; exact hfI
  have dP : w3.frozen? ⟨rb, 4, none⟩ = false := by rw [hw3]; exact hfpI
  have cA : ∀ v, (setW w3 gb rd v).cell? ⟨rb, 4, none⟩ = some (.int .i64 p) := fun v => setW_cell (Ne.symm hne) dA
  have cI : ∀ v, (setW w3 gb rd v).cell? ⟨bI, 4, none⟩ = some (.int .i64 imm) := fun v => setW_cell ng d4
  have cP : ∀ v, (setW w3 gb rd v).frozen? ⟨rb, 4, none⟩ = false := fun v => setW_frozen dP
  rw [← hw3]
  clear hw3 z0 z1 z2 z3 z4 hA hS hD hfI hfpI hA1 hA2
  (go_at_call 43; (with_reducible refine (rm_set rb gb rd _ xd hr _ dS dD dF).mono ?_); rintro e w' ⟨rfl, rfl⟩)
  go_wp2_with (first
      | (go_at_call 42; (with_reducible refine (HW.out _ (by omega) (by omega) _).mono ?_); rintro e w' ⟨rfl, rfl⟩)
      | (go_at_call 44; (with_reducible refine (HC.out _ (by omega) (by omega) _).mono ?_); rintro e w' ⟨rfl, rfl⟩))
  obtain ⟨w4, hw4⟩ : ∃ w4 : World, w4 = setW w3 gb rd ((p + 4) % 4294967296) := ⟨_, rfl⟩
  have f4 : w4.drew.cell? ⟨bI, 4, none⟩ = some (.int .i64 imm) := by rw [hw4]; exact cI _
  have fA : w4.drew.cell? ⟨rb, 4, none⟩ = some (.int .i64 p) := by rw [hw4]; exact cA _
  have fP : w4.drew.frozen? ⟨rb, 4, none⟩ = false := by rw [hw4]; exact cP _
  have HX := Lib.hid hw4
  rw [← hw4]
  clear hw4
  go_region_with (go_at_call 42; (with_reducible refine (HW.out _ (by omega) (by omega) _).mono ?_); rintro e w' ⟨rfl, rfl⟩)
  all_goals
    go_wp2
    go_ret
    exact ⟨rfl, w3.drew, HQ.out.drewN 1, by rw [HX.out, setW_drew]; rfl⟩
set_option maxRecDepth 100000 in
set_option maxHeartbeats 2000000 in
theorem rm_do_4 (rb gb rd r1 r2 : Nat) (imm p x1 x2 : Int) (i0 : -4294967296 ≤ imm) (i1 : imm ≤ 4294967296) (y0 : 0 ≤ x1) (y1 : x1 ≤ 4294967295) (u0 : 0 ≤ x2) (u1 : x2 ≤ 4294967295) (p0 : 0 ≤ p) (p1 : p ≤ 4294967295) (hr : rd < 32) (hr1 : r1 < 32) (hr2 : r2 < 32) (hne : gb ≠ rb) (w : World)
    (hx : w.cell? ⟨rb, 4, none⟩ = some (.int .i64 p)) (hs : w.cell? ⟨rb, 3, none⟩ = some (.slice (some ⟨gb, 0, none⟩) 32 32)) (h1 : w.cell? ⟨gb, r1, none⟩ = some (.int .u32 x1)) (h2 : w.cell? ⟨gb, r2, none⟩ = some (.int .u32 x2))
    (xd : Int) (hd : w.cell? ⟨gb, rd, none⟩ = some (.int .u32 xd)) (hf : w.frozen? ⟨gb, rd, none⟩ = false) (hfp : w.frozen? ⟨rb, 4, none⟩ = false) :
    Calls Tryz.prog 32 #[.pointer (some ⟨rb, 0, none⟩), .agg #[.int .i64 4, .int .i64 rd, .int .i64 r1, .int .i64 r2, .int .i64 imm]] w fun e w' => e = .returned (.bool true) ∧ ∃ w2, Fr (fun _ => False) w w2 ∧ w' = (setW w2 gb rd ((p + 4) % 4294967296)).setCell ⟨rb, 4, none⟩ (.int .i64 ((x1 + imm) % 4294967296 - (x1 + imm) % 4294967296 % 2)) := by
  obtain ⟨wI, hwI⟩ : ∃ wI : World, wI = w.alloc (.cells #[.int .i64 4, .int .i64 rd, .int .i64 r1, .int .i64 r2, .int .i64 imm] 66) := ⟨_, rfl⟩
  obtain ⟨bI, hbI⟩ : ∃ bI : Nat, bI = w.heap.size := ⟨_, rfl⟩
  have hgI : w.grownBy wI none := by rw [hwI]; exact byAlloc (byRefl w) _
  have HG := Lib.hid hgI
  have lg : gb < w.heap.size := World.block_lt_of_cell? w _ hd
  have lr : rb < w.heap.size := World.block_lt_of_cell? w _ hx
  have ng : bI ≠ gb := by omega
  have nr : bI ≠ rb := by omega
  have hfI : wI.frozen? ⟨gb, rd, none⟩ = false := (frozen_kept hd hgI (by simp)).trans hf
  have hfpI : wI.frozen? ⟨rb, 4, none⟩ = false := (frozen_kept hx hgI (by simp)).trans hfp
  have hA : wI.cell? ⟨rb, 4, none⟩ = some (.int .i64 p) := hgI.cell hx (by simp)
  have hS : wI.cell? ⟨rb, 3, none⟩ = some (.slice (some ⟨gb, 0, none⟩) 32 32) := hgI.cell hs (by simp)
  have hA1 : wI.cell? ⟨gb, r1, none⟩ = some (.int .u32 x1) := hgI.cell h1 (by simp)
  have hA2 : wI.cell? ⟨gb, r2, none⟩ = some (.int .u32 x2) := hgI.cell h2 (by simp)
  have hD : wI.cell? ⟨gb, rd, none⟩ = some (.int .u32 xd) := hgI.cell hd (by simp)
  have z0 : wI.cell? ⟨bI, 0, none⟩ = some (.int .i64 4) := by rw [hwI, hbI]; exact row_cell w #[.int .i64 4, .int .i64 rd, .int .i64 r1, .int .i64 r2, .int .i64 imm] 66 0 (.int .i64 4) rfl
  have z1 : wI.cell? ⟨bI, 1, none⟩ = some (.int .i64 rd) := by rw [hwI, hbI]; exact row_cell w #[.int .i64 4, .int .i64 rd, .int .i64 r1, .int .i64 r2, .int .i64 imm] 66 1 (.int .i64 rd) rfl
  have z2 : wI.cell? ⟨bI, 2, none⟩ = some (.int .i64 r1) := by rw [hwI, hbI]; exact row_cell w #[.int .i64 4, .int .i64 rd, .int .i64 r1, .int .i64 r2, .int .i64 imm] 66 2 (.int .i64 r1) rfl
  have z3 : wI.cell? ⟨bI, 3, none⟩ = some (.int .i64 r2) := by rw [hwI, hbI]; exact row_cell w #[.int .i64 4, .int .i64 rd, .int .i64 r1, .int .i64 r2, .int .i64 imm] 66 3 (.int .i64 r2) rfl
  have z4 : wI.cell? ⟨bI, 4, none⟩ = some (.int .i64 imm) := by rw [hwI, hbI]; exact row_cell w #[.int .i64 4, .int .i64 rd, .int .i64 r1, .int .i64 r2, .int .i64 imm] 66 4 (.int .i64 imm) rfl
  have t1 : (r1 : Int) < 32 := by omega
  have t2 : (r2 : Int) < 32 := by omega
  have s1 : (0 : Int) ≤ r1 := by omega
  have s2 : (0 : Int) ≤ r2 := by omega
  have HW := Lib.hid rm_wrap
  have HC := Lib.hid (fun n h0 h1 w => c44 n h0 h1 w)
  have m1 := mod_in (p + 4)
  have HWW : Hid (∀ w, Calls Tryz.prog 42 #[.int .i64 (IntKind.i64.wrap (p + imm))] w fun e w' => e = .returned (.int .i64 ((p + imm) % 4294967296)) ∧ w = w') := Lib.hid (fun w => by rw [show IntKind.i64.wrap (p + imm) = p + imm by rw [IntKind.wrap_i64]; omega]; exact rm_wrap _ (by omega) (by omega) w)
  have hwr : IntKind.i64.wrap (p + imm) = p + imm := by rw [IntKind.wrap_i64]; omega
  clear hx hs h1 h2 hd hf hfp hgI lg lr
  go_enter Tryz.func32, Tryz.ntmps32
  iterate 40 (first | ((fail_if_success go_at_call 42); first | go_values | go_skip | go_guarded | go_step) | skip)
  rw [← hwI, ← hbI]
  clear hwI hbI
  go_quiet (fail)
  go_wp2_with (first
      | (go_at_call 42; (with_reducible refine (HW.out _ (by omega) (by omega) _).mono ?_); rintro e w' ⟨rfl, rfl⟩)
      | (go_at_call 44; (with_reducible refine (HC.out _ (by omega) (by omega) _).mono ?_); rintro e w' ⟨rfl, rfl⟩))
  obtain ⟨w3, hw3⟩ : ∃ w3 : World, w3 = wI.drewN nq := ⟨_, rfl⟩
  have HQ : Hid (Fr (fun _ => False) w w3) := by rw [hw3]; exact Lib.hid ((Fr.of_by0 HG.out).drewN nq)
  have d4 : w3.cell? ⟨bI, 4, none⟩ = some (.int .i64 imm) := by rw [hw3]; exact z4
  have dA : w3.cell? ⟨rb, 4, none⟩ = some (.int .i64 p) := by rw [hw3]; exact hA
  have dS : w3.cell? ⟨rb, 3, none⟩ = some (.slice (some ⟨gb, 0, none⟩) 32 32) := by rw [hw3]; exact hS
  have dD : w3.cell? ⟨gb, rd, none⟩ = some (.int .u32 xd) := by rw [hw3]; exact hD
  have dF : w3.frozen? ⟨gb, rd, none⟩ = false := by rw [hw3]; exact hfI
  have dP : w3.frozen? ⟨rb, 4, none⟩ = false := by rw [hw3]; exact hfpI
  have cA : ∀ v, (setW w3 gb rd v).cell? ⟨rb, 4, none⟩ = some (.int .i64 p) := fun v => setW_cell (Ne.symm hne) dA
  have cI : ∀ v, (setW w3 gb rd v).cell? ⟨bI, 4, none⟩ = some (.int .i64 imm) := fun v => setW_cell ng d4
  have cP : ∀ v, (setW w3 gb rd v).frozen? ⟨rb, 4, none⟩ = false := fun v => setW_frozen dP
  rw [← hw3]
  clear hw3 z0 z1 z2 z3 z4 hA hS hD hfI hfpI hA1 hA2
  (go_at_call 43; (with_reducible refine (rm_set rb gb rd _ xd hr _ dS dD dF).mono ?_); rintro e w' ⟨rfl, rfl⟩)
  go_wp2_with (first
      | (go_at_call 42; (with_reducible refine (HW.out _ (by omega) (by omega) _).mono ?_); rintro e w' ⟨rfl, rfl⟩)
      | (go_at_call 44; (with_reducible refine (HC.out _ (by omega) (by omega) _).mono ?_); rintro e w' ⟨rfl, rfl⟩))
  go_ret
  rw [show (x1 + imm) % 4294967296 % 2 = (x1 + imm) % 2 by omega]
  exact ⟨rfl, _, HQ.out, rfl⟩
end Go.Proofs.YthhahfggbjegmaaGreat
