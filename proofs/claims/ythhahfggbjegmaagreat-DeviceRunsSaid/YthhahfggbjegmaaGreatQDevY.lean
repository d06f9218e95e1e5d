/-
  The contract of execute (layer 3) at the loads. The contract of execute (layer 3) at the loads. The contract of execute (layer 3) at the loads.
-/
import Derived.Test.YthhahfggbjegmaaGreatQDevM
import Derived.Test.YthhahfggbjegmaaGreatQDevN
import Derived.Outline
namespace Go.Proofs.YthhahfggbjegmaaGreat
open Go.RowKit
set_option linter.unusedVariables false
set_option linter.unusedSimpArgs false
set_option maxRecDepth 100000 in
set_option maxHeartbeats 2000000 in
theorem dv78_11t (b : Nat) (rd r1 r2 : Nat) (imm p x1 x2 : Int) (hr : rd < 32 ∧ r1 < 32 ∧ r2 < 32) (p0 : 0 ≤ p) (p1 : p ≤ 4294967295) (y0 : 0 ≤ x1) (y1 : x1 ≤ 4294967295) (u0 : 0 ≤ x2) (u1 : x2 ≤ 4294967295) (w : World) (hx : w.cell? ⟨b, 32, none⟩ = some (.int .u32 p))
    (h1 : w.cell? ⟨b, r1, none⟩ = some (.int .u32 x1)) (h2 : w.cell? ⟨b, r2, none⟩ = some (.int .u32 x2)) (xd : Int) (hd : w.cell? ⟨b, rd, none⟩ = some (.int .u32 xd)) (hf : w.frozen? ⟨b, rd, none⟩ = false) (hfp : w.frozen? ⟨b, 32, none⟩ = false) (v : Int) (HL : Hid (∀ w1, Fr (fun _ => False) w w1 → Calls Tryz.prog 57 #[.pointer (some ⟨b, 0, none⟩), .int .i64 11, .int .u32 ((x1 + imm) % 4294967296)] w1 fun e w' => e = .returned (.tuple #[.int .u32 v, .bool true]) ∧ Fr (fun _ => False) w1 w')) :
    Calls Tryz.prog 34 #[.pointer (some ⟨b, 0, none⟩), .agg #[.int .i64 11, .int .i64 rd, .int .i64 r1, .int .i64 r2, .int .i64 imm]] w fun e w' => e = .returned (.bool true) ∧ ∃ w2, Fr (fun _ => False) w w2 ∧ w' = (setW w2 b rd v).setCell ⟨b, 32, none⟩ (.int .u32 ((p + 4) % 4294967296)) := by
  obtain ⟨wI, hwI⟩ : ∃ wI : World, wI = w.alloc (.cells #[.int .i64 11, .int .i64 rd, .int .i64 r1, .int .i64 r2, .int .i64 imm] 70) := ⟨_, rfl⟩
  obtain ⟨bI, hbI⟩ : ∃ bI : Nat, bI = w.heap.size := ⟨_, rfl⟩
  have hgI : w.grownBy wI none := by rw [hwI]; exact byAlloc (byRefl w) _
  have HG := Lib.hid hgI
  have hfI : wI.frozen? ⟨b, rd, none⟩ = false := (frozen_kept hd hgI (by simp)).trans hf
  have hfpI : wI.frozen? ⟨b, 32, none⟩ = false := (frozen_kept hx hgI (by simp)).trans hfp
  have hA : wI.cell? ⟨b, 32, none⟩ = some (.int .u32 p) := hgI.cell hx (by simp)
  have hA1 : wI.cell? ⟨b, r1, none⟩ = some (.int .u32 x1) := hgI.cell h1 (by simp)
  have hA2 : wI.cell? ⟨b, r2, none⟩ = some (.int .u32 x2) := hgI.cell h2 (by simp)
  have z0 : wI.cell? ⟨bI, 0, none⟩ = some (.int .i64 11) := by rw [hwI, hbI]; exact row_cell w #[.int .i64 11, .int .i64 rd, .int .i64 r1, .int .i64 r2, .int .i64 imm] 70 0 (.int .i64 11) rfl
  have z1 : wI.cell? ⟨bI, 1, none⟩ = some (.int .i64 rd) := by rw [hwI, hbI]; exact row_cell w #[.int .i64 11, .int .i64 rd, .int .i64 r1, .int .i64 r2, .int .i64 imm] 70 1 (.int .i64 rd) rfl
  have z2 : wI.cell? ⟨bI, 2, none⟩ = some (.int .i64 r1) := by rw [hwI, hbI]; exact row_cell w #[.int .i64 11, .int .i64 rd, .int .i64 r1, .int .i64 r2, .int .i64 imm] 70 2 (.int .i64 r1) rfl
  have z3 : wI.cell? ⟨bI, 3, none⟩ = some (.int .i64 r2) := by rw [hwI, hbI]; exact row_cell w #[.int .i64 11, .int .i64 rd, .int .i64 r1, .int .i64 r2, .int .i64 imm] 70 3 (.int .i64 r2) rfl
  have z4 : wI.cell? ⟨bI, 4, none⟩ = some (.int .i64 imm) := by rw [hwI, hbI]; exact row_cell w #[.int .i64 11, .int .i64 rd, .int .i64 r1, .int .i64 r2, .int .i64 imm] 70 4 (.int .i64 imm) rfl
  have i0 : 0 ≤ imm % 4294967296 := by omega
  have i1 : imm % 4294967296 ≤ 4294967295 := by omega
  obtain ⟨hr0, hr1, hr2⟩ := hr
  have hS : ∀ (n : Nat) (v : Int), (setW (wI.drewN n) b rd v).cell? ⟨b, 32, none⟩ = some (.int .u32 p) := fun n v => set_cell hr0 hA
  have hSf : ∀ (n : Nat) (v : Int), (setW (wI.drewN n) b rd v).frozen? ⟨b, 32, none⟩ = false := fun n v => set_frozen hfpI
  have hS2 : ∀ (n : Nat) (v : Int), (setW (wI.drewN n).drew b rd v).cell? ⟨b, 32, none⟩ = some (.int .u32 p) := fun n v => set_cell (n := n + 1) hr0 hA
  have hSf2 : ∀ (n : Nat) (v : Int), (setW (wI.drewN n).drew b rd v).frozen? ⟨b, 32, none⟩ = false := fun n v => set_frozen (n := n + 1) hfpI
  have HD : ∀ n, Hid ((wI.drewN n).cell? ⟨b, rd, none⟩ = some (.int .u32 xd)) := fun n => Lib.hid (HG.out.cell hd (by simp))
  have HF : ∀ n, Hid ((wI.drewN n).frozen? ⟨b, rd, none⟩ = false) := fun n => Lib.hid (hfI)
  have HD2 : ∀ n, Hid ((wI.drewN n).drew.cell? ⟨b, rd, none⟩ = some (.int .u32 xd)) := fun n => HD (n + 1)
  have HF2 : ∀ n, Hid ((wI.drewN n).drew.frozen? ⟨b, rd, none⟩ = false) := fun n => HF (n + 1)
  have H85 : ∀ n, Hid (Calls Tryz.prog 57 #[.pointer (some ⟨b, 0, none⟩), .int .i64 11, .int .u32 ((x1 + imm) % 4294967296)] (wI.drewN n) fun e w' => e = .returned (.tuple #[.int .u32 v, .bool true]) ∧ Fr (fun _ => False) (wI.drewN n) w') := fun n => Lib.hid (HL.out _ (Fr.of_by0 (byDrewN HG.out n)))
  have HF0 : ∀ n, Hid (Fr (fun _ => False) w (wI.drewN n)) := fun n => Lib.hid (Fr.of_by0 (byDrewN HG.out n))
  clear hx h1 h2 hgI
  go_enter Tryz.func34, Tryz.ntmps34
  iterate 40 (first | (first | with_reducible refine wp_exit ?_ | with_reducible refine past_then ?_ | with_reducible refine past_block rfl ?_ | with_reducible refine at_block ?_) | ((fail_if_success go_at_call 54); first | go_values | go_skip | go_guarded | go_step) | skip)
  rw [← hwI, ← hbI]
  clear hwI hbI
  go_quiet (fail)
  go_wp2_with (first | (first | with_reducible refine wp_exit ?_ | with_reducible refine past_then ?_ | with_reducible refine past_block rfl ?_ | with_reducible refine at_block ?_) | (go_at_call 54; (with_reducible refine (c54 p 4 p0 p1 (by decide) (by decide) _).mono ?_); rintro e w' ⟨rfl, rfl⟩))
  go_region_with (first | (go_at_call 54; (with_reducible refine (c54 x1 (imm % 4294967296) y0 y1 i0 i1 _).mono ?_); rintro e w' ⟨rfl, rfl⟩) | (go_at_call 57; (with_reducible refine Calls.mono (by first | exact (H85 _).out | exact (H85 (_ + 1)).out) ?_); rintro e w2 ⟨rfl, hf⟩; have hf2 : Hid (Fr (fun _ => False) w w2) := Lib.hid ((HF0 (nq + 1)).out.trans hf); have c1 : w2.cell? ⟨bI, 1, none⟩ = some (.int .i64 rd) := hf.cell z1 id; have c32 : w2.cell? ⟨b, 32, none⟩ = some (.int .u32 p) := hf.cell hA id; have f32 : w2.frozen? ⟨b, 32, none⟩ = false := (hf.frozen (a := ⟨b, 32, none⟩) hA id).trans hfpI; have s32 : ∀ v, (setW w2 b rd v).cell? ⟨b, 32, none⟩ = some (.int .u32 p) := fun v => set_cell (n := 0) hr0 c32; have sf32 : ∀ v, (setW w2 b rd v).frozen? ⟨b, 32, none⟩ = false := fun v => set_frozen (n := 0) f32; have hD2 : Hid (w2.cell? ⟨b, rd, none⟩ = some (.int .u32 xd)) := Lib.hid (hf.cell (a := ⟨b, rd, none⟩) (HD (nq + 1)).out id); have hF2 : Hid (w2.frozen? ⟨b, rd, none⟩ = false) := Lib.hid ((hf.frozen (a := ⟨b, rd, none⟩) (HD (nq + 1)).out id).trans (HF (nq + 1)).out); clear hf))
  all_goals
    go_wp2_with (first | (first | with_reducible refine wp_exit ?_ | with_reducible refine past_then ?_ | with_reducible refine past_block rfl ?_ | with_reducible refine at_block ?_) | (go_at_call 55; (with_reducible refine (dv83 b rd _ xd hr0 _ hD2.out hF2.out).mono ?_); rintro e w' ⟨rfl, rfl⟩))
    go_ret
    exact ⟨rfl, w2, hf2.out, rfl⟩
set_option maxRecDepth 100000 in
set_option maxHeartbeats 2000000 in
theorem dv78_11f (b : Nat) (rd r1 r2 : Nat) (imm p x1 x2 : Int) (hr : rd < 32 ∧ r1 < 32 ∧ r2 < 32) (p0 : 0 ≤ p) (p1 : p ≤ 4294967295) (y0 : 0 ≤ x1) (y1 : x1 ≤ 4294967295) (u0 : 0 ≤ x2) (u1 : x2 ≤ 4294967295) (w : World) (hx : w.cell? ⟨b, 32, none⟩ = some (.int .u32 p))
    (h1 : w.cell? ⟨b, r1, none⟩ = some (.int .u32 x1)) (h2 : w.cell? ⟨b, r2, none⟩ = some (.int .u32 x2)) (xd : Int) (hd : w.cell? ⟨b, rd, none⟩ = some (.int .u32 xd)) (hf : w.frozen? ⟨b, rd, none⟩ = false) (hfp : w.frozen? ⟨b, 32, none⟩ = false) (v : Int) (HL : Hid (∀ w1, Fr (fun _ => False) w w1 → Calls Tryz.prog 57 #[.pointer (some ⟨b, 0, none⟩), .int .i64 11, .int .u32 ((x1 + imm) % 4294967296)] w1 fun e w' => e = .returned (.tuple #[.int .u32 v, .bool false]) ∧ Fr (fun _ => False) w1 w')) :
    Calls Tryz.prog 34 #[.pointer (some ⟨b, 0, none⟩), .agg #[.int .i64 11, .int .i64 rd, .int .i64 r1, .int .i64 r2, .int .i64 imm]] w fun e w' => e = .returned (.bool false) ∧ Fr (fun _ => False) w w' := by
  obtain ⟨wI, hwI⟩ : ∃ wI : World, wI = w.alloc (.cells #[.int .i64 11, .int .i64 rd, .int .i64 r1, .int .i64 r2, .int .i64 imm] 70) := ⟨_, rfl⟩
  obtain ⟨bI, hbI⟩ : ∃ bI : Nat, bI = w.heap.size := ⟨_, rfl⟩
  have hgI : w.grownBy wI none := by rw [hwI]; exact byAlloc (byRefl w) _
  have HG := Lib.hid hgI
  have hfI : wI.frozen? ⟨b, rd, none⟩ = false := (frozen_kept hd hgI (by simp)).trans hf
  have hfpI : wI.frozen? ⟨b, 32, none⟩ = false := (frozen_kept hx hgI (by simp)).trans hfp
  have hA : wI.cell? ⟨b, 32, none⟩ = some (.int .u32 p) := hgI.cell hx (by simp)
  have hA1 : wI.cell? ⟨b, r1, none⟩ = some (.int .u32 x1) := hgI.cell h1 (by simp)
  have hA2 : wI.cell? ⟨b, r2, none⟩ = some (.int .u32 x2) := hgI.cell h2 (by simp)
  have z0 : wI.cell? ⟨bI, 0, none⟩ = some (.int .i64 11) := by rw [hwI, hbI]; exact row_cell w #[.int .i64 11, .int .i64 rd, .int .i64 r1, .int .i64 r2, .int .i64 imm] 70 0 (.int .i64 11) rfl
  have z1 : wI.cell? ⟨bI, 1, none⟩ = some (.int .i64 rd) := by rw [hwI, hbI]; exact row_cell w #[.int .i64 11, .int .i64 rd, .int .i64 r1, .int .i64 r2, .int .i64 imm] 70 1 (.int .i64 rd) rfl
  have z2 : wI.cell? ⟨bI, 2, none⟩ = some (.int .i64 r1) := by rw [hwI, hbI]; exact row_cell w #[.int .i64 11, .int .i64 rd, .int .i64 r1, .int .i64 r2, .int .i64 imm] 70 2 (.int .i64 r1) rfl
  have z3 : wI.cell? ⟨bI, 3, none⟩ = some (.int .i64 r2) := by rw [hwI, hbI]; exact row_cell w #[.int .i64 11, .int .i64 rd, .int .i64 r1, .int .i64 r2, .int .i64 imm] 70 3 (.int .i64 r2) rfl
  have z4 : wI.cell? ⟨bI, 4, none⟩ = some (.int .i64 imm) := by rw [hwI, hbI]; exact row_cell w #[.int .i64 11, .int .i64 rd, .int .i64 r1, .int .i64 r2, .int .i64 imm] 70 4 (.int .i64 imm) rfl
  have i0 : 0 ≤ imm % 4294967296 := by omega
  have i1 : imm % 4294967296 ≤ 4294967295 := by omega
  obtain ⟨hr0, hr1, hr2⟩ := hr
  have hS : ∀ (n : Nat) (v : Int), (setW (wI.drewN n) b rd v).cell? ⟨b, 32, none⟩ = some (.int .u32 p) := fun n v => set_cell hr0 hA
  have hSf : ∀ (n : Nat) (v : Int), (setW (wI.drewN n) b rd v).frozen? ⟨b, 32, none⟩ = false := fun n v => set_frozen hfpI
  have hS2 : ∀ (n : Nat) (v : Int), (setW (wI.drewN n).drew b rd v).cell? ⟨b, 32, none⟩ = some (.int .u32 p) := fun n v => set_cell (n := n + 1) hr0 hA
  have hSf2 : ∀ (n : Nat) (v : Int), (setW (wI.drewN n).drew b rd v).frozen? ⟨b, 32, none⟩ = false := fun n v => set_frozen (n := n + 1) hfpI
  have HD : ∀ n, Hid ((wI.drewN n).cell? ⟨b, rd, none⟩ = some (.int .u32 xd)) := fun n => Lib.hid (HG.out.cell hd (by simp))
  have HF : ∀ n, Hid ((wI.drewN n).frozen? ⟨b, rd, none⟩ = false) := fun n => Lib.hid (hfI)
  have HD2 : ∀ n, Hid ((wI.drewN n).drew.cell? ⟨b, rd, none⟩ = some (.int .u32 xd)) := fun n => HD (n + 1)
  have HF2 : ∀ n, Hid ((wI.drewN n).drew.frozen? ⟨b, rd, none⟩ = false) := fun n => HF (n + 1)
  have H85 : ∀ n, Hid (Calls Tryz.prog 57 #[.pointer (some ⟨b, 0, none⟩), .int .i64 11, .int .u32 ((x1 + imm) % 4294967296)] (wI.drewN n) fun e w' => e = .returned (.tuple #[.int .u32 v, .bool false]) ∧ Fr (fun _ => False) (wI.drewN n) w') := fun n => Lib.hid (HL.out _ (Fr.of_by0 (byDrewN HG.out n)))
  have HF0 : ∀ n, Hid (Fr (fun _ => False) w (wI.drewN n)) := fun n => Lib.hid (Fr.of_by0 (byDrewN HG.out n))
  clear hx h1 h2 hgI
  go_enter Tryz.func34, Tryz.ntmps34
  iterate 40 (first | (first | with_reducible refine wp_exit ?_ | with_reducible refine past_then ?_ | with_reducible refine past_block rfl ?_ | with_reducible refine at_block ?_) | ((fail_if_success go_at_call 54); first | go_values | go_skip | go_guarded | go_step) | skip)
  rw [← hwI, ← hbI]
  clear hwI hbI
  go_quiet (fail)
  go_wp2_with (first | (first | with_reducible refine wp_exit ?_ | with_reducible refine past_then ?_ | with_reducible refine past_block rfl ?_ | with_reducible refine at_block ?_) | (go_at_call 54; (with_reducible refine (c54 p 4 p0 p1 (by decide) (by decide) _).mono ?_); rintro e w' ⟨rfl, rfl⟩))
  go_region_with (first | (go_at_call 54; (with_reducible refine (c54 x1 (imm % 4294967296) y0 y1 i0 i1 _).mono ?_); rintro e w' ⟨rfl, rfl⟩) | (go_at_call 57; (with_reducible refine Calls.mono (by first | exact (H85 _).out | exact (H85 (_ + 1)).out) ?_); rintro e w2 ⟨rfl, hf⟩; have hf2 : Hid (Fr (fun _ => False) w w2) := Lib.hid ((HF0 (nq + 1)).out.trans hf); have c1 : w2.cell? ⟨bI, 1, none⟩ = some (.int .i64 rd) := hf.cell z1 id; have c32 : w2.cell? ⟨b, 32, none⟩ = some (.int .u32 p) := hf.cell hA id; have f32 : w2.frozen? ⟨b, 32, none⟩ = false := (hf.frozen (a := ⟨b, 32, none⟩) hA id).trans hfpI; have s32 : ∀ v, (setW w2 b rd v).cell? ⟨b, 32, none⟩ = some (.int .u32 p) := fun v => set_cell (n := 0) hr0 c32; have sf32 : ∀ v, (setW w2 b rd v).frozen? ⟨b, 32, none⟩ = false := fun v => set_frozen (n := 0) f32; have hD2 : Hid (w2.cell? ⟨b, rd, none⟩ = some (.int .u32 xd)) := Lib.hid (hf.cell (a := ⟨b, rd, none⟩) (HD (nq + 1)).out id); have hF2 : Hid (w2.frozen? ⟨b, rd, none⟩ = false) := Lib.hid ((hf.frozen (a := ⟨b, rd, none⟩) (HD (nq + 1)).out id).trans (HF (nq + 1)).out); clear hf))
  all_goals
    go_wp2_with (first | (first | with_reducible refine wp_exit ?_ | with_reducible refine past_then ?_ | with_reducible refine past_block rfl ?_ | with_reducible refine at_block ?_) | (go_at_call 55; (with_reducible refine (dv83 b rd _ xd hr0 _ hD2.out hF2.out).mono ?_); rintro e w' ⟨rfl, rfl⟩))
    go_ret
    exact ⟨rfl, hf2.out⟩
set_option maxRecDepth 100000 in
set_option maxHeartbeats 2000000 in
theorem dv78_12t (b : Nat) (rd r1 r2 : Nat) (imm p x1 x2 : Int) (hr : rd < 32 ∧ r1 < 32 ∧ r2 < 32) (p0 : 0 ≤ p) (p1 : p ≤ 4294967295) (y0 : 0 ≤ x1) (y1 : x1 ≤ 4294967295) (u0 : 0 ≤ x2) (u1 : x2 ≤ 4294967295) (w : World) (hx : w.cell? ⟨b, 32, none⟩ = some (.int .u32 p))
    (h1 : w.cell? ⟨b, r1, none⟩ = some (.int .u32 x1)) (h2 : w.cell? ⟨b, r2, none⟩ = some (.int .u32 x2)) (xd : Int) (hd : w.cell? ⟨b, rd, none⟩ = some (.int .u32 xd)) (hf : w.frozen? ⟨b, rd, none⟩ = false) (hfp : w.frozen? ⟨b, 32, none⟩ = false) (v : Int) (HL : Hid (∀ w1, Fr (fun _ => False) w w1 → Calls Tryz.prog 57 #[.pointer (some ⟨b, 0, none⟩), .int .i64 12, .int .u32 ((x1 + imm) % 4294967296)] w1 fun e w' => e = .returned (.tuple #[.int .u32 v, .bool true]) ∧ Fr (fun _ => False) w1 w')) :
    Calls Tryz.prog 34 #[.pointer (some ⟨b, 0, none⟩), .agg #[.int .i64 12, .int .i64 rd, .int .i64 r1, .int .i64 r2, .int .i64 imm]] w fun e w' => e = .returned (.bool true) ∧ ∃ w2, Fr (fun _ => False) w w2 ∧ w' = (setW w2 b rd v).setCell ⟨b, 32, none⟩ (.int .u32 ((p + 4) % 4294967296)) := by
  obtain ⟨wI, hwI⟩ : ∃ wI : World, wI = w.alloc (.cells #[.int .i64 12, .int .i64 rd, .int .i64 r1, .int .i64 r2, .int .i64 imm] 70) := ⟨_, rfl⟩
  obtain ⟨bI, hbI⟩ : ∃ bI : Nat, bI = w.heap.size := ⟨_, rfl⟩
  have hgI : w.grownBy wI none := by rw [hwI]; exact byAlloc (byRefl w) _
  have HG := Lib.hid hgI
  have hfI : wI.frozen? ⟨b, rd, none⟩ = false := (frozen_kept hd hgI (by simp)).trans hf
  have hfpI : wI.frozen? ⟨b, 32, none⟩ = false := (frozen_kept hx hgI (by simp)).trans hfp
  have hA : wI.cell? ⟨b, 32, none⟩ = some (.int .u32 p) := hgI.cell hx (by simp)
  have hA1 : wI.cell? ⟨b, r1, none⟩ = some (.int .u32 x1) := hgI.cell h1 (by simp)
  have hA2 : wI.cell? ⟨b, r2, none⟩ = some (.int .u32 x2) := hgI.cell h2 (by simp)
  have z0 : wI.cell? ⟨bI, 0, none⟩ = some (.int .i64 12) := by rw [hwI, hbI]; exact row_cell w #[.int .i64 12, .int .i64 rd, .int .i64 r1, .int .i64 r2, .int .i64 imm] 70 0 (.int .i64 12) rfl
  have z1 : wI.cell? ⟨bI, 1, none⟩ = some (.int .i64 rd) := by rw [hwI, hbI]; exact row_cell w #[.int .i64 12, .int .i64 rd, .int .i64 r1, .int .i64 r2, .int .i64 imm] 70 1 (.int .i64 rd) rfl
  have z2 : wI.cell? ⟨bI, 2, none⟩ = some (.int .i64 r1) := by rw [hwI, hbI]; exact row_cell w #[.int .i64 12, .int .i64 rd, .int .i64 r1, .int .i64 r2, .int .i64 imm] 70 2 (.int .i64 r1) rfl
  have z3 : wI.cell? ⟨bI, 3, none⟩ = some (.int .i64 r2) := by rw [hwI, hbI]; exact row_cell w #[.int .i64 12, .int .i64 rd, .int .i64 r1, .int .i64 r2, .int .i64 imm] 70 3 (.int .i64 r2) rfl
  have z4 : wI.cell? ⟨bI, 4, none⟩ = some (.int .i64 imm) := by rw [hwI, hbI]; exact row_cell w #[.int .i64 12, .int .i64 rd, .int .i64 r1, .int .i64 r2, .int .i64 imm] 70 4 (.int .i64 imm) rfl
  have i0 : 0 ≤ imm % 4294967296 := by omega
  have i1 : imm % 4294967296 ≤ 4294967295 := by omega
  obtain ⟨hr0, hr1, hr2⟩ := hr
  have hS : ∀ (n : Nat) (v : Int), (setW (wI.drewN n) b rd v).cell? ⟨b, 32, none⟩ = some (.int .u32 p) := fun n v => set_cell hr0 hA
  have hSf : ∀ (n : Nat) (v : Int), (setW (wI.drewN n) b rd v).frozen? ⟨b, 32, none⟩ = false := fun n v => set_frozen hfpI
  have hS2 : ∀ (n : Nat) (v : Int), (setW (wI.drewN n).drew b rd v).cell? ⟨b, 32, none⟩ = some (.int .u32 p) := fun n v => set_cell (n := n + 1) hr0 hA
  have hSf2 : ∀ (n : Nat) (v : Int), (setW (wI.drewN n).drew b rd v).frozen? ⟨b, 32, none⟩ = false := fun n v => set_frozen (n := n + 1) hfpI
  have HD : ∀ n, Hid ((wI.drewN n).cell? ⟨b, rd, none⟩ = some (.int .u32 xd)) := fun n => Lib.hid (HG.out.cell hd (by simp))
  have HF : ∀ n, Hid ((wI.drewN n).frozen? ⟨b, rd, none⟩ = false) := fun n => Lib.hid (hfI)
  have HD2 : ∀ n, Hid ((wI.drewN n).drew.cell? ⟨b, rd, none⟩ = some (.int .u32 xd)) := fun n => HD (n + 1)
  have HF2 : ∀ n, Hid ((wI.drewN n).drew.frozen? ⟨b, rd, none⟩ = false) := fun n => HF (n + 1)
  have H85 : ∀ n, Hid (Calls Tryz.prog 57 #[.pointer (some ⟨b, 0, none⟩), .int .i64 12, .int .u32 ((x1 + imm) % 4294967296)] (wI.drewN n) fun e w' => e = .returned (.tuple #[.int .u32 v, .bool true]) ∧ Fr (fun _ => False) (wI.drewN n) w') := fun n => Lib.hid (HL.out _ (Fr.of_by0 (byDrewN HG.out n)))
  have HF0 : ∀ n, Hid (Fr (fun _ => False) w (wI.drewN n)) := fun n => Lib.hid (Fr.of_by0 (byDrewN HG.out n))
  clear hx h1 h2 hgI
  go_enter Tryz.func34, Tryz.ntmps34
  iterate 40 (first | (first | with_reducible refine wp_exit ?_ | with_reducible refine past_then ?_ | with_reducible refine past_block rfl ?_ | with_reducible refine at_block ?_) | ((fail_if_success go_at_call 54); first | go_values | go_skip | go_guarded | go_step) | skip)
  rw [← hwI, ← hbI]
  clear hwI hbI
  go_quiet (fail)
  go_wp2_with (first | (first | with_reducible refine wp_exit ?_ | with_reducible refine past_then ?_ | with_reducible refine past_block rfl ?_ | with_reducible refine at_block ?_) | (go_at_call 54; (with_reducible refine (c54 p 4 p0 p1 (by decide) (by decide) _).mono ?_); rintro e w' ⟨rfl, rfl⟩))
  go_region_with (first | (go_at_call 54; (with_reducible refine (c54 x1 (imm % 4294967296) y0 y1 i0 i1 _).mono ?_); rintro e w' ⟨rfl, rfl⟩) | (go_at_call 57; (with_reducible refine Calls.mono (by first | exact (H85 _).out | exact (H85 (_ + 1)).out) ?_); rintro e w2 ⟨rfl, hf⟩; have hf2 : Hid (Fr (fun _ => False) w w2) := Lib.hid ((HF0 (nq + 1)).out.trans hf); have c1 : w2.cell? ⟨bI, 1, none⟩ = some (.int .i64 rd) := hf.cell z1 id; have c32 : w2.cell? ⟨b, 32, none⟩ = some (.int .u32 p) := hf.cell hA id; have f32 : w2.frozen? ⟨b, 32, none⟩ = false := (hf.frozen (a := ⟨b, 32, none⟩) hA id).trans hfpI; have s32 : ∀ v, (setW w2 b rd v).cell? ⟨b, 32, none⟩ = some (.int .u32 p) := fun v => set_cell (n := 0) hr0 c32; have sf32 : ∀ v, (setW w2 b rd v).frozen? ⟨b, 32, none⟩ = false := fun v => set_frozen (n := 0) f32; have hD2 : Hid (w2.cell? ⟨b, rd, none⟩ = some (.int .u32 xd)) := Lib.hid (hf.cell (a := ⟨b, rd, none⟩) (HD (nq + 1)).out id); have hF2 : Hid (w2.frozen? ⟨b, rd, none⟩ = false) := Lib.hid ((hf.frozen (a := ⟨b, rd, none⟩) (HD (nq + 1)).out id).trans (HF (nq + 1)).out); clear hf))
  all_goals
    go_wp2_with (first | (first | with_reducible refine wp_exit ?_ | with_reducible refine past_then ?_ | with_reducible refine past_block rfl ?_ | with_reducible refine at_block ?_) | (go_at_call 55; (with_reducible refine (dv83 b rd _ xd hr0 _ hD2.out hF2.out).mono ?_); rintro e w' ⟨rfl, rfl⟩))
    go_ret
    exact ⟨rfl, w2, hf2.out, rfl⟩
set_option maxRecDepth 100000 in
set_option maxHeartbeats 2000000 in
theorem dv78_12f (b : Nat) (rd r1 r2 : Nat) (imm p x1 x2 : Int) (hr : rd < 32 ∧ r1 < 32 ∧ r2 < 32) (p0 : 0 ≤ p) (p1 : p ≤ 4294967295) (y0 : 0 ≤ x1) (y1 : x1 ≤ 4294967295) (u0 : 0 ≤ x2) (u1 : x2 ≤ 4294967295) (w : World) (hx : w.cell? ⟨b, 32, none⟩ = some (.int .u32 p))
    (h1 : w.cell? ⟨b, r1, none⟩ = some (.int .u32 x1)) (h2 : w.cell? ⟨b, r2, none⟩ = some (.int .u32 x2)) (xd : Int) (hd : w.cell? ⟨b, rd, none⟩ = some (.int .u32 xd)) (hf : w.frozen? ⟨b, rd, none⟩ = false) (hfp : w.frozen? ⟨b, 32, none⟩ = false) (v : Int) (HL : Hid (∀ w1, Fr (fun _ => False) w w1 → Calls Tryz.prog 57 #[.pointer (some ⟨b, 0, none⟩), .int .i64 12, .int .u32 ((x1 + imm) % 4294967296)] w1 fun e w' => e = .returned (.tuple #[.int .u32 v, .bool false]) ∧ Fr (fun _ => False) w1 w')) :
    Calls Tryz.prog 34 #[.pointer (some ⟨b, 0, none⟩), .agg #[.int .i64 12, .int .i64 rd, .int .i64 r1, .int .i64 r2, .int .i64 imm]] w fun e w' => e = .returned (.bool false) ∧ Fr (fun _ => False) w w' := by
  obtain ⟨wI, hwI⟩ : ∃ wI : World, wI = w.alloc (.cells #[.int .i64 12, .int .i64 rd, .int .i64 r1, .int .i64 r2, .int .i64 imm] 70) := ⟨_, rfl⟩
  obtain ⟨bI, hbI⟩ : ∃ bI : Nat, bI = w.heap.size := ⟨_, rfl⟩
  have hgI : w.grownBy wI none := by rw [hwI]; exact byAlloc (byRefl w) _
  have HG := Lib.hid hgI
  have hfI : wI.frozen? ⟨b, rd, none⟩ = false := (frozen_kept hd hgI (by simp)).trans hf
  have hfpI : wI.frozen? ⟨b, 32, none⟩ = false := (frozen_kept hx hgI (by simp)).trans hfp
  have hA : wI.cell? ⟨b, 32, none⟩ = some (.int .u32 p) := hgI.cell hx (by simp)
  have hA1 : wI.cell? ⟨b, r1, none⟩ = some (.int .u32 x1) := hgI.cell h1 (by simp)
  have hA2 : wI.cell? ⟨b, r2, none⟩ = some (.int .u32 x2) := hgI.cell h2 (by simp)
  have z0 : wI.cell? ⟨bI, 0, none⟩ = some (.int .i64 12) := by rw [hwI, hbI]; exact row_cell w #[.int .i64 12, .int .i64 rd, .int .i64 r1, .int .i64 r2, .int .i64 imm] 70 0 (.int .i64 12) rfl
  have z1 : wI.cell? ⟨bI, 1, none⟩ = some (.int .i64 rd) := by rw [hwI, hbI]; exact row_cell w #[.int .i64 12, .int .i64 rd, .int .i64 r1, .int .i64 r2, .int .i64 imm] 70 1 (.int .i64 rd) rfl
  have z2 : wI.cell? ⟨bI, 2, none⟩ = some (.int .i64 r1) := by rw [hwI, hbI]; exact row_cell w #[.int .i64 12, .int .i64 rd, .int .i64 r1, .int .i64 r2, .int .i64 imm] 70 2 (.int .i64 r1) rfl
  have z3 : wI.cell? ⟨bI, 3, none⟩ = some (.int .i64 r2) := by rw [hwI, hbI]; exact row_cell w #[.int .i64 12, .int .i64 rd, .int .i64 r1, .int .i64 r2, .int .i64 imm] 70 3 (.int .i64 r2) rfl
  have z4 : wI.cell? ⟨bI, 4, none⟩ = some (.int .i64 imm) := by rw [hwI, hbI]; exact row_cell w #[.int .i64 12, .int .i64 rd, .int .i64 r1, .int .i64 r2, .int .i64 imm] 70 4 (.int .i64 imm) rfl
  have i0 : 0 ≤ imm % 4294967296 := by omega
  have i1 : imm % 4294967296 ≤ 4294967295 := by omega
  obtain ⟨hr0, hr1, hr2⟩ := hr
  have hS : ∀ (n : Nat) (v : Int), (setW (wI.drewN n) b rd v).cell? ⟨b, 32, none⟩ = some (.int .u32 p) := fun n v => set_cell hr0 hA
  have hSf : ∀ (n : Nat) (v : Int), (setW (wI.drewN n) b rd v).frozen? ⟨b, 32, none⟩ = false := fun n v => set_frozen hfpI
  have hS2 : ∀ (n : Nat) (v : Int), (setW (wI.drewN n).drew b rd v).cell? ⟨b, 32, none⟩ = some (.int .u32 p) := fun n v => set_cell (n := n + 1) hr0 hA
  have hSf2 : ∀ (n : Nat) (v : Int), (setW (wI.drewN n).drew b rd v).frozen? ⟨b, 32, none⟩ = false := fun n v => set_frozen (n := n + 1) hfpI
  have HD : ∀ n, Hid ((wI.drewN n).cell? ⟨b, rd, none⟩ = some (.int .u32 xd)) := fun n => Lib.hid (HG.out.cell hd (by simp))
  have HF : ∀ n, Hid ((wI.drewN n).frozen? ⟨b, rd, none⟩ = false) := fun n => Lib.hid (hfI)
  have HD2 : ∀ n, Hid ((wI.drewN n).drew.cell? ⟨b, rd, none⟩ = some (.int .u32 xd)) := fun n => HD (n + 1)
  have HF2 : ∀ n, Hid ((wI.drewN n).drew.frozen? ⟨b, rd, none⟩ = false) := fun n => HF (n + 1)
  have H85 : ∀ n, Hid (Calls Tryz.prog 57 #[.pointer (some ⟨b, 0, none⟩), .int .i64 12, .int .u32 ((x1 + imm) % 4294967296)] (wI.drewN n) fun e w' => e = .returned (.tuple #[.int .u32 v, .bool false]) ∧ Fr (fun _ => False) (wI.drewN n) w') := fun n => Lib.hid (HL.out _ (Fr.of_by0 (byDrewN HG.out n)))
  have HF0 : ∀ n, Hid (Fr (fun _ => False) w (wI.drewN n)) := fun n => Lib.hid (Fr.of_by0 (byDrewN HG.out n))
  clear hx h1 h2 hgI
  go_enter Tryz.func34, Tryz.ntmps34
  iterate 40 (first | (first | with_reducible refine wp_exit ?_ | with_reducible refine past_then ?_ | with_reducible refine past_block rfl ?_ | with_reducible refine at_block ?_) | ((fail_if_success go_at_call 54); first | go_values | go_skip | go_guarded | go_step) | skip)
  rw [← hwI, ← hbI]
  clear hwI hbI
  go_quiet (fail)
  go_wp2_with (first | (first | with_reducible refine wp_exit ?_ | with_reducible refine past_then ?_ | with_reducible refine past_block rfl ?_ | with_reducible refine at_block ?_) | (go_at_call 54; (with_reducible refine (c54 p 4 p0 p1 (by decide) (by decide) _).mono ?_); rintro e w' ⟨rfl, rfl⟩))
  go_region_with (first | (go_at_call 54; (with_reducible refine (c54 x1 (imm % 4294967296) y0 y1 i0 i1 _).mono ?_); rintro e w' ⟨rfl, rfl⟩) | (go_at_call 57; (with_reducible refine Calls.mono (by first | exact (H85 _).out | exact (H85 (_ + 1)).out) ?_); rintro e w2 ⟨rfl, hf⟩; have hf2 : Hid (Fr (fun _ => False) w w2) := Lib.hid ((HF0 (nq + 1)).out.trans hf); have c1 : w2.cell? ⟨bI, 1, none⟩ = some (.int .i64 rd) := hf.cell z1 id; have c32 : w2.cell? ⟨b, 32, none⟩ = some (.int .u32 p) := hf.cell hA id; have f32 : w2.frozen? ⟨b, 32, none⟩ = false := (hf.frozen (a := ⟨b, 32, none⟩) hA id).trans hfpI; have s32 : ∀ v, (setW w2 b rd v).cell? ⟨b, 32, none⟩ = some (.int .u32 p) := fun v => set_cell (n := 0) hr0 c32; have sf32 : ∀ v, (setW w2 b rd v).frozen? ⟨b, 32, none⟩ = false := fun v => set_frozen (n := 0) f32; have hD2 : Hid (w2.cell? ⟨b, rd, none⟩ = some (.int .u32 xd)) := Lib.hid (hf.cell (a := ⟨b, rd, none⟩) (HD (nq + 1)).out id); have hF2 : Hid (w2.frozen? ⟨b, rd, none⟩ = false) := Lib.hid ((hf.frozen (a := ⟨b, rd, none⟩) (HD (nq + 1)).out id).trans (HF (nq + 1)).out); clear hf))
  all_goals
    go_wp2_with (first | (first | with_reducible refine wp_exit ?_ | with_reducible refine past_then ?_ | with_reducible refine past_block rfl ?_ | with_reducible refine at_block ?_) | (go_at_call 55; (with_reducible refine (dv83 b rd _ xd hr0 _ hD2.out hF2.out).mono ?_); rintro e w' ⟨rfl, rfl⟩))
    go_ret
    exact ⟨rfl, hf2.out⟩
set_option maxRecDepth 100000 in
set_option maxHeartbeats 2000000 in
theorem dv78_13t (b : Nat) (rd r1 r2 : Nat) (imm p x1 x2 : Int) (hr : rd < 32 ∧ r1 < 32 ∧ r2 < 32) (p0 : 0 ≤ p) (p1 : p ≤ 4294967295) (y0 : 0 ≤ x1) (y1 : x1 ≤ 4294967295) (u0 : 0 ≤ x2) (u1 : x2 ≤ 4294967295) (w : World) (hx : w.cell? ⟨b, 32, none⟩ = some (.int .u32 p))
    (h1 : w.cell? ⟨b, r1, none⟩ = some (.int .u32 x1)) (h2 : w.cell? ⟨b, r2, none⟩ = some (.int .u32 x2)) (xd : Int) (hd : w.cell? ⟨b, rd, none⟩ = some (.int .u32 xd)) (hf : w.frozen? ⟨b, rd, none⟩ = false) (hfp : w.frozen? ⟨b, 32, none⟩ = false) (v : Int) (HL : Hid (∀ w1, Fr (fun _ => False) w w1 → Calls Tryz.prog 57 #[.pointer (some ⟨b, 0, none⟩), .int .i64 13, .int .u32 ((x1 + imm) % 4294967296)] w1 fun e w' => e = .returned (.tuple #[.int .u32 v, .bool true]) ∧ Fr (fun _ => False) w1 w')) :
    Calls Tryz.prog 34 #[.pointer (some ⟨b, 0, none⟩), .agg #[.int .i64 13, .int .i64 rd, .int .i64 r1, .int .i64 r2, .int .i64 imm]] w fun e w' => e = .returned (.bool true) ∧ ∃ w2, Fr (fun _ => False) w w2 ∧ w' = (setW w2 b rd v).setCell ⟨b, 32, none⟩ (.int .u32 ((p + 4) % 4294967296)) := by
  obtain ⟨wI, hwI⟩ : ∃ wI : World, wI = w.alloc (.cells #[.int .i64 13, .int .i64 rd, .int .i64 r1, .int .i64 r2, .int .i64 imm] 70) := ⟨_, rfl⟩
  obtain ⟨bI, hbI⟩ : ∃ bI : Nat, bI = w.heap.size := ⟨_, rfl⟩
  have hgI : w.grownBy wI none := by rw [hwI]; exact byAlloc (byRefl w) _
  have HG := Lib.hid hgI
  have hfI : wI.frozen? ⟨b, rd, none⟩ = false := (frozen_kept hd hgI (by simp)).trans hf
  have hfpI : wI.frozen? ⟨b, 32, none⟩ = false := (frozen_kept hx hgI (by simp)).trans hfp
  have hA : wI.cell? ⟨b, 32, none⟩ = some (.int .u32 p) := hgI.cell hx (by simp)
  have hA1 : wI.cell? ⟨b, r1, none⟩ = some (.int .u32 x1) := hgI.cell h1 (by simp)
  have hA2 : wI.cell? ⟨b, r2, none⟩ = some (.int .u32 x2) := hgI.cell h2 (by simp)
  have z0 : wI.cell? ⟨bI, 0, none⟩ = some (.int .i64 13) := by rw [hwI, hbI]; exact row_cell w #[.int .i64 13, .int .i64 rd, .int .i64 r1, .int .i64 r2, .int .i64 imm] 70 0 (.int .i64 13) rfl
  have z1 : wI.cell? ⟨bI, 1, none⟩ = some (.int .i64 rd) := by rw [hwI, hbI]; exact row_cell w #[.int .i64 13, .int .i64 rd, .int .i64 r1, .int .i64 r2, .int .i64 imm] 70 1 (.int .i64 rd) rfl
  have z2 : wI.cell? ⟨bI, 2, none⟩ = some (.int .i64 r1) := by rw [hwI, hbI]; exact row_cell w #[.int .i64 13, .int .i64 rd, .int .i64 r1, .int .i64 r2, .int .i64 imm] 70 2 (.int .i64 r1) rfl
  have z3 : wI.cell? ⟨bI, 3, none⟩ = some (.int .i64 r2) := by rw [hwI, hbI]; exact row_cell w #[.int .i64 13, .int .i64 rd, .int .i64 r1, .int .i64 r2, .int .i64 imm] 70 3 (.int .i64 r2) rfl
  have z4 : wI.cell? ⟨bI, 4, none⟩ = some (.int .i64 imm) := by rw [hwI, hbI]; exact row_cell w #[.int .i64 13, .int .i64 rd, .int .i64 r1, .int .i64 r2, .int .i64 imm] 70 4 (.int .i64 imm) rfl
  have i0 : 0 ≤ imm % 4294967296 := by omega
  have i1 : imm % 4294967296 ≤ 4294967295 := by omega
  obtain ⟨hr0, hr1, hr2⟩ := hr
  have hS : ∀ (n : Nat) (v : Int), (setW (wI.drewN n) b rd v).cell? ⟨b, 32, none⟩ = some (.int .u32 p) := fun n v => set_cell hr0 hA
  have hSf : ∀ (n : Nat) (v : Int), (setW (wI.drewN n) b rd v).frozen? ⟨b, 32, none⟩ = false := fun n v => set_frozen hfpI
  have hS2 : ∀ (n : Nat) (v : Int), (setW (wI.drewN n).drew b rd v).cell? ⟨b, 32, none⟩ = some (.int .u32 p) := fun n v => set_cell (n := n + 1) hr0 hA
  have hSf2 : ∀ (n : Nat) (v : Int), (setW (wI.drewN n).drew b rd v).frozen? ⟨b, 32, none⟩ = false := fun n v => set_frozen (n := n + 1) hfpI
  have HD : ∀ n, Hid ((wI.drewN n).cell? ⟨b, rd, none⟩ = some (.int .u32 xd)) := fun n => Lib.hid (HG.out.cell hd (by simp))
  have HF : ∀ n, Hid ((wI.drewN n).frozen? ⟨b, rd, none⟩ = false) := fun n => Lib.hid (hfI)
  have HD2 : ∀ n, Hid ((wI.drewN n).drew.cell? ⟨b, rd, none⟩ = some (.int .u32 xd)) := fun n => HD (n + 1)
  have HF2 : ∀ n, Hid ((wI.drewN n).drew.frozen? ⟨b, rd, none⟩ = false) := fun n => HF (n + 1)
  have H85 : ∀ n, Hid (Calls Tryz.prog 57 #[.pointer (some ⟨b, 0, none⟩), .int .i64 13, .int .u32 ((x1 + imm) % 4294967296)] (wI.drewN n) fun e w' => e = .returned (.tuple #[.int .u32 v, .bool true]) ∧ Fr (fun _ => False) (wI.drewN n) w') := fun n => Lib.hid (HL.out _ (Fr.of_by0 (byDrewN HG.out n)))
  have HF0 : ∀ n, Hid (Fr (fun _ => False) w (wI.drewN n)) := fun n => Lib.hid (Fr.of_by0 (byDrewN HG.out n))
  clear hx h1 h2 hgI
  go_enter Tryz.func34, Tryz.ntmps34
  iterate 40 (first | (first | with_reducible refine wp_exit ?_ | with_reducible refine past_then ?_ | with_reducible refine past_block rfl ?_ | with_reducible refine at_block ?_) | ((fail_if_success go_at_call 54); first | go_values | go_skip | go_guarded | go_step) | skip)
  rw [← hwI, ← hbI]
  clear hwI hbI
  go_quiet (fail)
  go_wp2_with (first | (first | with_reducible refine wp_exit ?_ | with_reducible refine past_then ?_ | with_reducible refine past_block rfl ?_ | with_reducible refine at_block ?_) | (go_at_call 54; (with_reducible refine (c54 p 4 p0 p1 (by decide) (by decide) _).mono ?_); rintro e w' ⟨rfl, rfl⟩))
  go_region_with (first | (go_at_call 54; (with_reducible refine (c54 x1 (imm % 4294967296) y0 y1 i0 i1 _).mono ?_); rintro e w' ⟨rfl, rfl⟩) | (go_at_call 57; (with_reducible refine Calls.mono (by first | exact (H85 _).out | exact (H85 (_ + 1)).out) ?_); rintro e w2 ⟨rfl, hf⟩; have hf2 : Hid (Fr (fun _ => False) w w2) := Lib.hid ((HF0 (nq + 1)).out.trans hf); have c1 : w2.cell? ⟨bI, 1, none⟩ = some (.int .i64 rd) := hf.cell z1 id; have c32 : w2.cell? ⟨b, 32, none⟩ = some (.int .u32 p) := hf.cell hA id; have f32 : w2.frozen? ⟨b, 32, none⟩ = false := (hf.frozen (a := ⟨b, 32, none⟩) hA id).trans hfpI; have s32 : ∀ v, (setW w2 b rd v).cell? ⟨b, 32, none⟩ = some (.int .u32 p) := fun v => set_cell (n := 0) hr0 c32; have sf32 : ∀ v, (setW w2 b rd v).frozen? ⟨b, 32, none⟩ = false := fun v => set_frozen (n := 0) f32; have hD2 : Hid (w2.cell? ⟨b, rd, none⟩ = some (.int .u32 xd)) := Lib.hid (hf.cell (a := ⟨b, rd, none⟩) (HD (nq + 1)).out id); have hF2 : Hid (w2.frozen? ⟨b, rd, none⟩ = false) := Lib.hid ((hf.frozen (a := ⟨b, rd, none⟩) (HD (nq + 1)).out id).trans (HF (nq + 1)).out); clear hf))
  all_goals
    go_wp2_with (first | (first | with_reducible refine wp_exit ?_ | with_reducible refine past_then ?_ | with_reducible refine past_block rfl ?_ | with_reducible refine at_block ?_) | (go_at_call 55; (with_reducible refine (dv83 b rd _ xd hr0 _ hD2.out hF2.out).mono ?_); rintro e w' ⟨rfl, rfl⟩))
    go_ret
    exact ⟨rfl, w2, hf2.out, rfl⟩
set_option maxRecDepth 100000 in
set_option maxHeartbeats 2000000 in
theorem dv78_13f (b : Nat) (rd r1 r2 : Nat) (imm p x1 x2 : Int) (hr : rd < 32 ∧ r1 < 32 ∧ r2 < 32) (p0 : 0 ≤ p) (p1 : p ≤ 4294967295) (y0 : 0 ≤ x1) (y1 : x1 ≤ 4294967295) (u0 : 0 ≤ x2) (u1 : x2 ≤ 4294967295) (w : World) (hx : w.cell? ⟨b, 32, none⟩ = some (.int .u32 p))
    (h1 : w.cell? ⟨b, r1, none⟩ = some (.int .u32 x1)) (h2 : w.cell? ⟨b, r2, none⟩ = some (.int .u32 x2)) (xd : Int) (hd : w.cell? ⟨b, rd, none⟩ = some (.int .u32 xd)) (hf : w.frozen? ⟨b, rd, none⟩ = false) (hfp : w.frozen? ⟨b, 32, none⟩ = false) (v : Int) (HL : Hid (∀ w1, Fr (fun _ => False) w w1 → Calls Tryz.prog 57 #[.pointer (some ⟨b, 0, none⟩), .int .i64 13, .int .u32 ((x1 + imm) % 4294967296)] w1 fun e w' => e = .returned (.tuple #[.int .u32 v, .bool false]) ∧ Fr (fun _ => False) w1 w')) :
    Calls Tryz.prog 34 #[.pointer (some ⟨b, 0, none⟩), .agg #[.int .i64 13, .int .i64 rd, .int .i64 r1, .int .i64 r2, .int .i64 imm]] w fun e w' => e = .returned (.bool false) ∧ Fr (fun _ => False) w w' := by
  obtain ⟨wI, hwI⟩ : ∃ wI : World, wI = w.alloc (.cells #[.int .i64 13, .int .i64 rd, .int .i64 r1, .int .i64 r2, .int .i64 imm] 70) := ⟨_, rfl⟩
  obtain ⟨bI, hbI⟩ : ∃ bI : Nat, bI = w.heap.size := ⟨_, rfl⟩
  have hgI : w.grownBy wI none := by rw [hwI]; exact byAlloc (byRefl w) _
  have HG := Lib.hid hgI
  have hfI : wI.frozen? ⟨b, rd, none⟩ = false := (frozen_kept hd hgI (by simp)).trans hf
  have hfpI : wI.frozen? ⟨b, 32, none⟩ = false := (frozen_kept hx hgI (by simp)).trans hfp
  have hA : wI.cell? ⟨b, 32, none⟩ = some (.int .u32 p) := hgI.cell hx (by simp)
  have hA1 : wI.cell? ⟨b, r1, none⟩ = some (.int .u32 x1) := hgI.cell h1 (by simp)
  have hA2 : wI.cell? ⟨b, r2, none⟩ = some (.int .u32 x2) := hgI.cell h2 (by simp)
  have z0 : wI.cell? ⟨bI, 0, none⟩ = some (.int .i64 13) := by rw [hwI, hbI]; exact row_cell w #[.int .i64 13, .int .i64 rd, .int .i64 r1, .int .i64 r2, .int .i64 imm] 70 0 (.int .i64 13) rfl
  have z1 : wI.cell? ⟨bI, 1, none⟩ = some (.int .i64 rd) := by rw [hwI, hbI]; exact row_cell w #[.int .i64 13, .int .i64 rd, .int .i64 r1, .int .i64 r2, .int .i64 imm] 70 1 (.int .i64 rd) rfl
  have z2 : wI.cell? ⟨bI, 2, none⟩ = some (.int .i64 r1) := by rw [hwI, hbI]; exact row_cell w #[.int .i64 13, .int .i64 rd, .int .i64 r1, .int .i64 r2, .int .i64 imm] 70 2 (.int .i64 r1) rfl
  have z3 : wI.cell? ⟨bI, 3, none⟩ = some (.int .i64 r2) := by rw [hwI, hbI]; exact row_cell w #[.int .i64 13, .int .i64 rd, .int .i64 r1, .int .i64 r2, .int .i64 imm] 70 3 (.int .i64 r2) rfl
  have z4 : wI.cell? ⟨bI, 4, none⟩ = some (.int .i64 imm) := by rw [hwI, hbI]; exact row_cell w #[.int .i64 13, .int .i64 rd, .int .i64 r1, .int .i64 r2, .int .i64 imm] 70 4 (.int .i64 imm) rfl
  have i0 : 0 ≤ imm % 4294967296 := by omega
  have i1 : imm % 4294967296 ≤ 4294967295 := by omega
  obtain ⟨hr0, hr1, hr2⟩ := hr
  have hS : ∀ (n : Nat) (v : Int), (setW (wI.drewN n) b rd v).cell? ⟨b, 32, none⟩ = some (.int .u32 p) := fun n v => set_cell hr0 hA
  have hSf : ∀ (n : Nat) (v : Int), (setW (wI.drewN n) b rd v).frozen? ⟨b, 32, none⟩ = false := fun n v => set_frozen hfpI
  have hS2 : ∀ (n : Nat) (v : Int), (setW (wI.drewN n).drew b rd v).cell? ⟨b, 32, none⟩ = some (.int .u32 p) := fun n v => set_cell (n := n + 1) hr0 hA
  have hSf2 : ∀ (n : Nat) (v : Int), (setW (wI.drewN n).drew b rd v).frozen? ⟨b, 32, none⟩ = false := fun n v => set_frozen (n := n + 1) hfpI
  have HD : ∀ n, Hid ((wI.drewN n).cell? ⟨b, rd, none⟩ = some (.int .u32 xd)) := fun n => Lib.hid (HG.out.cell hd (by simp))
  have HF : ∀ n, Hid ((wI.drewN n).frozen? ⟨b, rd, none⟩ = false) := fun n => Lib.hid (hfI)
  have HD2 : ∀ n, Hid ((wI.drewN n).drew.cell? ⟨b, rd, none⟩ = some (.int .u32 xd)) := fun n => HD (n + 1)
  have HF2 : ∀ n, Hid ((wI.drewN n).drew.frozen? ⟨b, rd, none⟩ = false) := fun n => HF (n + 1)
  have H85 : ∀ n, Hid (Calls Tryz.prog 57 #[.pointer (some ⟨b, 0, none⟩), .int .i64 13, .int .u32 ((x1 + imm) % 4294967296)] (wI.drewN n) fun e w' => e = .returned (.tuple #[.int .u32 v, .bool false]) ∧ Fr (fun _ => False) (wI.drewN n) w') := fun n => Lib.hid (HL.out _ (Fr.of_by0 (byDrewN HG.out n)))
  have HF0 : ∀ n, Hid (Fr (fun _ => False) w (wI.drewN n)) := fun n => Lib.hid (Fr.of_by0 (byDrewN HG.out n))
  clear hx h1 h2 hgI
  go_enter Tryz.func34, Tryz.ntmps34
  iterate 40 (first | (first | with_reducible refine wp_exit ?_ | with_reducible refine past_then ?_ | with_reducible refine past_block rfl ?_ | with_reducible refine at_block ?_) | ((fail_if_success go_at_call 54); first | go_values | go_skip | go_guarded | go_step) | skip)
  rw [← hwI, ← hbI]
  clear hwI hbI
  go_quiet (fail)
  go_wp2_with (first | (first | with_reducible refine wp_exit ?_ | with_reducible refine past_then ?_ | with_reducible refine past_block rfl ?_ | with_reducible refine at_block ?_) | (go_at_call 54; (with_reducible refine (c54 p 4 p0 p1 (by decide) (by decide) _).mono ?_); rintro e w' ⟨rfl, rfl⟩))
  go_region_with (first | (go_at_call 54; (with_reducible refine (c54 x1 (imm % 4294967296) y0 y1 i0 i1 _).mono ?_); rintro e w' ⟨rfl, rfl⟩) | (go_at_call 57; (with_reducible refine Calls.mono (by first | exact (H85 _).out | exact (H85 (_ + 1)).out) ?_); rintro e w2 ⟨rfl, hf⟩; have hf2 : Hid (Fr (fun _ => False) w w2) := Lib.hid ((HF0 (nq + 1)).out.trans hf); have c1 : w2.cell? ⟨bI, 1, none⟩ = some (.int .i64 rd) := hf.cell z1 id; have c32 : w2.cell? ⟨b, 32, none⟩ = some (.int .u32 p) := hf.cell hA id; have f32 : w2.frozen? ⟨b, 32, none⟩ = false := (hf.frozen (a := ⟨b, 32, none⟩) hA id).trans hfpI; have s32 : ∀ v, (setW w2 b rd v).cell? ⟨b, 32, none⟩ = some (.int .u32 p) := fun v => set_cell (n := 0) hr0 c32; have sf32 : ∀ v, (setW w2 b rd v).frozen? ⟨b, 32, none⟩ = false := fun v => set_frozen (n := 0) f32; have hD2 : Hid (w2.cell? ⟨b, rd, none⟩ = some (.int .u32 xd)) := Lib.hid (hf.cell (a := ⟨b, rd, none⟩) (HD (nq + 1)).out id); have hF2 : Hid (w2.frozen? ⟨b, rd, none⟩ = false) := Lib.hid ((hf.frozen (a := ⟨b, rd, none⟩) (HD (nq + 1)).out id).trans (HF (nq + 1)).out); clear hf))
  all_goals
    go_wp2_with (first | (first | with_reducible refine wp_exit ?_ | with_reducible refine past_then ?_ | with_reducible refine past_block rfl ?_ | with_reducible refine at_block ?_) | (go_at_call 55; (with_reducible refine (dv83 b rd _ xd hr0 _ hD2.out hF2.out).mono ?_); rintro e w' ⟨rfl, rfl⟩))
    go_ret
    exact ⟨rfl, hf2.out⟩
set_option maxRecDepth 100000 in
set_option maxHeartbeats 2000000 in
theorem dv78_14t (b : Nat) (rd r1 r2 : Nat) (imm p x1 x2 : Int) (hr : rd < 32 ∧ r1 < 32 ∧ r2 < 32) (p0 : 0 ≤ p) (p1 : p ≤ 4294967295) (y0 : 0 ≤ x1) (y1 : x1 ≤ 4294967295) (u0 : 0 ≤ x2) (u1 : x2 ≤ 4294967295) (w : World) (hx : w.cell? ⟨b, 32, none⟩ = some (.int .u32 p))
    (h1 : w.cell? ⟨b, r1, none⟩ = some (.int .u32 x1)) (h2 : w.cell? ⟨b, r2, none⟩ = some (.int .u32 x2)) (xd : Int) (hd : w.cell? ⟨b, rd, none⟩ = some (.int .u32 xd)) (hf : w.frozen? ⟨b, rd, none⟩ = false) (hfp : w.frozen? ⟨b, 32, none⟩ = false) (v : Int) (HL : Hid (∀ w1, Fr (fun _ => False) w w1 → Calls Tryz.prog 57 #[.pointer (some ⟨b, 0, none⟩), .int .i64 14, .int .u32 ((x1 + imm) % 4294967296)] w1 fun e w' => e = .returned (.tuple #[.int .u32 v, .bool true]) ∧ Fr (fun _ => False) w1 w')) :
    Calls Tryz.prog 34 #[.pointer (some ⟨b, 0, none⟩), .agg #[.int .i64 14, .int .i64 rd, .int .i64 r1, .int .i64 r2, .int .i64 imm]] w fun e w' => e = .returned (.bool true) ∧ ∃ w2, Fr (fun _ => False) w w2 ∧ w' = (setW w2 b rd v).setCell ⟨b, 32, none⟩ (.int .u32 ((p + 4) % 4294967296)) := by
  obtain ⟨wI, hwI⟩ : ∃ wI : World, wI = w.alloc (.cells #[.int .i64 14, .int .i64 rd, .int .i64 r1, .int .i64 r2, .int .i64 imm] 70) := ⟨_, rfl⟩
  obtain ⟨bI, hbI⟩ : ∃ bI : Nat, bI = w.heap.size := ⟨_, rfl⟩
  have hgI : w.grownBy wI none := by rw [hwI]; exact byAlloc (byRefl w) _
  have HG := Lib.hid hgI
  have hfI : wI.frozen? ⟨b, rd, none⟩ = false := (frozen_kept hd hgI (by simp)).trans hf
  have hfpI : wI.frozen? ⟨b, 32, none⟩ = false := (frozen_kept hx hgI (by simp)).trans hfp
  have hA : wI.cell? ⟨b, 32, none⟩ = some (.int .u32 p) := hgI.cell hx (by simp)
  have hA1 : wI.cell? ⟨b, r1, none⟩ = some (.int .u32 x1) := hgI.cell h1 (by simp)
  have hA2 : wI.cell? ⟨b, r2, none⟩ = some (.int .u32 x2) := hgI.cell h2 (by simp)
  have z0 : wI.cell? ⟨bI, 0, none⟩ = some (.int .i64 14) := by rw [hwI, hbI]; exact row_cell w #[.int .i64 14, .int .i64 rd, .int .i64 r1, .int .i64 r2, .int .i64 imm] 70 0 (.int .i64 14) rfl
  have z1 : wI.cell? ⟨bI, 1, none⟩ = some (.int .i64 rd) := by rw [hwI, hbI]; exact row_cell w #[.int .i64 14, .int .i64 rd, .int .i64 r1, .int .i64 r2, .int .i64 imm] 70 1 (.int .i64 rd) rfl
  have z2 : wI.cell? ⟨bI, 2, none⟩ = some (.int .i64 r1) := by rw [hwI, hbI]; exact row_cell w #[.int .i64 14, .int .i64 rd, .int .i64 r1, .int .i64 r2, .int .i64 imm] 70 2 (.int .i64 r1) rfl
  have z3 : wI.cell? ⟨bI, 3, none⟩ = some (.int .i64 r2) := by rw [hwI, hbI]; exact row_cell w #[.int .i64 14, .int .i64 rd, .int .i64 r1, .int .i64 r2, .int .i64 imm] 70 3 (.int .i64 r2) rfl
  have z4 : wI.cell? ⟨bI, 4, none⟩ = some (.int .i64 imm) := by rw [hwI, hbI]; exact row_cell w #[.int .i64 14, .int .i64 rd, .int .i64 r1, .int .i64 r2, .int .i64 imm] 70 4 (.int .i64 imm) rfl
  have i0 : 0 ≤ imm % 4294967296 := by omega
  have i1 : imm % 4294967296 ≤ 4294967295 := by omega
  obtain ⟨hr0, hr1, hr2⟩ := hr
  have hS : ∀ (n : Nat) (v : Int), (setW (wI.drewN n) b rd v).cell? ⟨b, 32, none⟩ = some (.int .u32 p) := fun n v => set_cell hr0 hA
  have hSf : ∀ (n : Nat) (v : Int), (setW (wI.drewN n) b rd v).frozen? ⟨b, 32, none⟩ = false := fun n v => set_frozen hfpI
  have hS2 : ∀ (n : Nat) (v : Int), (setW (wI.drewN n).drew b rd v).cell? ⟨b, 32, none⟩ = some (.int .u32 p) := fun n v => set_cell (n := n + 1) hr0 hA
  have hSf2 : ∀ (n : Nat) (v : Int), (setW (wI.drewN n).drew b rd v).frozen? ⟨b, 32, none⟩ = false := fun n v => set_frozen (n := n + 1) hfpI
  have HD : ∀ n, Hid ((wI.drewN n).cell? ⟨b, rd, none⟩ = some (.int .u32 xd)) := fun n => Lib.hid (HG.out.cell hd (by simp))
  have HF : ∀ n, Hid ((wI.drewN n).frozen? ⟨b, rd, none⟩ = false) := fun n => Lib.hid (hfI)
  have HD2 : ∀ n, Hid ((wI.drewN n).drew.cell? ⟨b, rd, none⟩ = some (.int .u32 xd)) := fun n => HD (n + 1)
  have HF2 : ∀ n, Hid ((wI.drewN n).drew.frozen? ⟨b, rd, none⟩ = false) := fun n => HF (n + 1)
  have H85 : ∀ n, Hid (Calls Tryz.prog 57 #[.pointer (some ⟨b, 0, none⟩), .int .i64 14, .int .u32 ((x1 + imm) % 4294967296)] (wI.drewN n) fun e w' => e = .returned (.tuple #[.int .u32 v, .bool true]) ∧ Fr (fun _ => False) (wI.drewN n) w') := fun n => Lib.hid (HL.out _ (Fr.of_by0 (byDrewN HG.out n)))
  have HF0 : ∀ n, Hid (Fr (fun _ => False) w (wI.drewN n)) := fun n => Lib.hid (Fr.of_by0 (byDrewN HG.out n))
  clear hx h1 h2 hgI
  go_enter Tryz.func34, Tryz.ntmps34
  iterate 40 (first | (first | with_reducible refine wp_exit ?_ | with_reducible refine past_then ?_ | with_reducible refine past_block rfl ?_ | with_reducible refine at_block ?_) | ((fail_if_success go_at_call 54); first | go_values | go_skip | go_guarded | go_step) | skip)
  rw [← hwI, ← hbI]
  clear hwI hbI
  go_quiet (fail)
  go_wp2_with (first | (first | with_reducible refine wp_exit ?_ | with_reducible refine past_then ?_ | with_reducible refine past_block rfl ?_ | with_reducible refine at_block ?_) | (go_at_call 54; (with_reducible refine (c54 p 4 p0 p1 (by decide) (by decide) _).mono ?_); rintro e w' ⟨rfl, rfl⟩))
  go_region_with (first | (go_at_call 54; (with_reducible refine (c54 x1 (imm % 4294967296) y0 y1 i0 i1 _).mono ?_); rintro e w' ⟨rfl, rfl⟩) | (go_at_call 57; (with_reducible refine Calls.mono (by first | exact (H85 _).out | exact (H85 (_ + 1)).out) ?_); rintro e w2 ⟨rfl, hf⟩; have hf2 : Hid (Fr (fun _ => False) w w2) := Lib.hid ((HF0 (nq + 1)).out.trans hf); have c1 : w2.cell? ⟨bI, 1, none⟩ = some (.int .i64 rd) := hf.cell z1 id; have c32 : w2.cell? ⟨b, 32, none⟩ = some (.int .u32 p) := hf.cell hA id; have f32 : w2.frozen? ⟨b, 32, none⟩ = false := (hf.frozen (a := ⟨b, 32, none⟩) hA id).trans hfpI; have s32 : ∀ v, (setW w2 b rd v).cell? ⟨b, 32, none⟩ = some (.int .u32 p) := fun v => set_cell (n := 0) hr0 c32; have sf32 : ∀ v, (setW w2 b rd v).frozen? ⟨b, 32, none⟩ = false := fun v => set_frozen (n := 0) f32; have hD2 : Hid (w2.cell? ⟨b, rd, none⟩ = some (.int .u32 xd)) := Lib.hid (hf.cell (a := ⟨b, rd, none⟩) (HD (nq + 1)).out id); have hF2 : Hid (w2.frozen? ⟨b, rd, none⟩ = false) := Lib.hid ((hf.frozen (a := ⟨b, rd, none⟩) (HD (nq + 1)).out id).trans (HF (nq + 1)).out); clear hf))
  all_goals
    go_wp2_with (first | (first | with_reducible refine wp_exit ?_ | with_reducible refine past_then ?_ | with_reducible refine past_block rfl ?_ | with_reducible refine at_block ?_) | (go_at_call 55; (with_reducible refine (dv83 b rd _ xd hr0 _ hD2.out hF2.out).mono ?_); rintro e w' ⟨rfl, rfl⟩))
    go_ret
    exact ⟨rfl, w2, hf2.out, rfl⟩
set_option maxRecDepth 100000 in
set_option maxHeartbeats 2000000 in
theorem dv78_14f (b : Nat) (rd r1 r2 : Nat) (imm p x1 x2 : Int) (hr : rd < 32 ∧ r1 < 32 ∧ r2 < 32) (p0 : 0 ≤ p) (p1 : p ≤ 4294967295) (y0 : 0 ≤ x1) (y1 : x1 ≤ 4294967295) (u0 : 0 ≤ x2) (u1 : x2 ≤ 4294967295) (w : World) (hx : w.cell? ⟨b, 32, none⟩ = some (.int .u32 p))
    (h1 : w.cell? ⟨b, r1, none⟩ = some (.int .u32 x1)) (h2 : w.cell? ⟨b, r2, none⟩ = some (.int .u32 x2)) (xd : Int) (hd : w.cell? ⟨b, rd, none⟩ = some (.int .u32 xd)) (hf : w.frozen? ⟨b, rd, none⟩ = false) (hfp : w.frozen? ⟨b, 32, none⟩ = false) (v : Int) (HL : Hid (∀ w1, Fr (fun _ => False) w w1 → Calls Tryz.prog 57 #[.pointer (some ⟨b, 0, none⟩), .int .i64 14, .int .u32 ((x1 + imm) % 4294967296)] w1 fun e w' => e = .returned (.tuple #[.int .u32 v, .bool false]) ∧ Fr (fun _ => False) w1 w')) :
    Calls Tryz.prog 34 #[.pointer (some ⟨b, 0, none⟩), .agg #[.int .i64 14, .int .i64 rd, .int .i64 r1, .int .i64 r2, .int .i64 imm]] w fun e w' => e = .returned (.bool false) ∧ Fr (fun _ => False) w w' := by
  obtain ⟨wI, hwI⟩ : ∃ wI : World, wI = w.alloc (.cells #[.int .i64 14, .int .i64 rd, .int .i64 r1, .int .i64 r2, .int .i64 imm] 70) := ⟨_, rfl⟩
  obtain ⟨bI, hbI⟩ : ∃ bI : Nat, bI = w.heap.size := ⟨_, rfl⟩
  have hgI : w.grownBy wI none := by rw [hwI]; exact byAlloc (byRefl w) _
  have HG := Lib.hid hgI
  have hfI : wI.frozen? ⟨b, rd, none⟩ = false := (frozen_kept hd hgI (by simp)).trans hf
  have hfpI : wI.frozen? ⟨b, 32, none⟩ = false := (frozen_kept hx hgI (by simp)).trans hfp
  have hA : wI.cell? ⟨b, 32, none⟩ = some (.int .u32 p) := hgI.cell hx (by simp)
  have hA1 : wI.cell? ⟨b, r1, none⟩ = some (.int .u32 x1) := hgI.cell h1 (by simp)
  have hA2 : wI.cell? ⟨b, r2, none⟩ = some (.int .u32 x2) := hgI.cell h2 (by simp)
  have z0 : wI.cell? ⟨bI, 0, none⟩ = some (.int .i64 14) := by rw [hwI, hbI]; exact row_cell w #[.int .i64 14, .int .i64 rd, .int .i64 r1, .int .i64 r2, .int .i64 imm] 70 0 (.int .i64 14) rfl
  have z1 : wI.cell? ⟨bI, 1, none⟩ = some (.int .i64 rd) := by rw [hwI, hbI]; exact row_cell w #[.int .i64 14, .int .i64 rd, .int .i64 r1, .int .i64 r2, .int .i64 imm] 70 1 (.int .i64 rd) rfl
  have z2 : wI.cell? ⟨bI, 2, none⟩ = some (.int .i64 r1) := by rw [hwI, hbI]; exact row_cell w #[.int .i64 14, .int .i64 rd, .int .i64 r1, .int .i64 r2, .int .i64 imm] 70 2 (.int .i64 r1) rfl
  have z3 : wI.cell? ⟨bI, 3, none⟩ = some (.int .i64 r2) := by rw [hwI, hbI]; exact row_cell w #[.int .i64 14, .int .i64 rd, .int .i64 r1, .int .i64 r2, .int .i64 imm] 70 3 (.int .i64 r2) rfl
  have z4 : wI.cell? ⟨bI, 4, none⟩ = some (.int .i64 imm) := by rw [hwI, hbI]; exact row_cell w #[.int .i64 14, .int .i64 rd, .int .i64 r1, .int .i64 r2, .int .i64 imm] 70 4 (.int .i64 imm) rfl
  have i0 : 0 ≤ imm % 4294967296 := by omega
  have i1 : imm % 4294967296 ≤ 4294967295 := by omega
  obtain ⟨hr0, hr1, hr2⟩ := hr
  have hS : ∀ (n : Nat) (v : Int), (setW (wI.drewN n) b rd v).cell? ⟨b, 32, none⟩ = some (.int .u32 p) := fun n v => set_cell hr0 hA
  have hSf : ∀ (n : Nat) (v : Int), (setW (wI.drewN n) b rd v).frozen? ⟨b, 32, none⟩ = false := fun n v => set_frozen hfpI
  have hS2 : ∀ (n : Nat) (v : Int), (setW (wI.drewN n).drew b rd v).cell? ⟨b, 32, none⟩ = some (.int .u32 p) := fun n v => set_cell (n := n + 1) hr0 hA
  have hSf2 : ∀ (n : Nat) (v : Int), (setW (wI.drewN n).drew b rd v).frozen? ⟨b, 32, none⟩ = false := fun n v => set_frozen (n := n + 1) hfpI
  have HD : ∀ n, Hid ((wI.drewN n).cell? ⟨b, rd, none⟩ = some (.int .u32 xd)) := fun n => Lib.hid (HG.out.cell hd (by simp))
  have HF : ∀ n, Hid ((wI.drewN n).frozen? ⟨b, rd, none⟩ = false) := fun n => Lib.hid (hfI)
  have HD2 : ∀ n, Hid ((wI.drewN n).drew.cell? ⟨b, rd, none⟩ = some (.int .u32 xd)) := fun n => HD (n + 1)
  have HF2 : ∀ n, Hid ((wI.drewN n).drew.frozen? ⟨b, rd, none⟩ = false) := fun n => HF (n + 1)
  have H85 : ∀ n, Hid (Calls Tryz.prog 57 #[.pointer (some ⟨b, 0, none⟩), .int .i64 14, .int .u32 ((x1 + imm) % 4294967296)] (wI.drewN n) fun e w' => e = .returned (.tuple #[.int .u32 v, .bool false]) ∧ Fr (fun _ => False) (wI.drewN n) w') := fun n => Lib.hid (HL.out _ (Fr.of_by0 (byDrewN HG.out n)))
  have HF0 : ∀ n, Hid (Fr (fun _ => False) w (wI.drewN n)) := fun n => Lib.hid (Fr.of_by0 (byDrewN HG.out n))
  clear hx h1 h2 hgI
  go_enter Tryz.func34, Tryz.ntmps34
  iterate 40 (first | (first | with_reducible refine wp_exit ?_ | with_reducible refine past_then ?_ | with_reducible refine past_block rfl ?_ | with_reducible refine at_block ?_) | ((fail_if_success go_at_call 54); first | go_values | go_skip | go_guarded | go_step) | skip)
  rw [← hwI, ← hbI]
  clear hwI hbI
  go_quiet (fail)
  go_wp2_with (first | (first | with_reducible refine wp_exit ?_ | with_reducible refine past_then ?_ | with_reducible refine past_block rfl ?_ | with_reducible refine at_block ?_) | (go_at_call 54; (with_reducible refine (c54 p 4 p0 p1 (by decide) (by decide) _).mono ?_); rintro e w' ⟨rfl, rfl⟩))
  go_region_with (first | (go_at_call 54; (with_reducible refine (c54 x1 (imm % 4294967296) y0 y1 i0 i1 _).mono ?_); rintro e w' ⟨rfl, rfl⟩) | (go_at_call 57; (with_reducible refine Calls.mono (by first | exact (H85 _).out | exact (H85 (_ + 1)).out) ?_); rintro e w2 ⟨rfl, hf⟩; have hf2 : Hid (Fr (fun _ => False) w w2) := Lib.hid ((HF0 (nq + 1)).out.trans hf); have c1 : w2.cell? ⟨bI, 1, none⟩ = some (.int .i64 rd) := hf.cell z1 id; have c32 : w2.cell? ⟨b, 32, none⟩ = some (.int .u32 p) := hf.cell hA id; have f32 : w2.frozen? ⟨b, 32, none⟩ = false := (hf.frozen (a := ⟨b, 32, none⟩) hA id).trans hfpI; have s32 : ∀ v, (setW w2 b rd v).cell? ⟨b, 32, none⟩ = some (.int .u32 p) := fun v => set_cell (n := 0) hr0 c32; have sf32 : ∀ v, (setW w2 b rd v).frozen? ⟨b, 32, none⟩ = false := fun v => set_frozen (n := 0) f32; have hD2 : Hid (w2.cell? ⟨b, rd, none⟩ = some (.int .u32 xd)) := Lib.hid (hf.cell (a := ⟨b, rd, none⟩) (HD (nq + 1)).out id); have hF2 : Hid (w2.frozen? ⟨b, rd, none⟩ = false) := Lib.hid ((hf.frozen (a := ⟨b, rd, none⟩) (HD (nq + 1)).out id).trans (HF (nq + 1)).out); clear hf))
  all_goals
    go_wp2_with (first | (first | with_reducible refine wp_exit ?_ | with_reducible refine past_then ?_ | with_reducible refine past_block rfl ?_ | with_reducible refine at_block ?_) | (go_at_call 55; (with_reducible refine (dv83 b rd _ xd hr0 _ hD2.out hF2.out).mono ?_); rintro e w' ⟨rfl, rfl⟩))
    go_ret
    exact ⟨rfl, hf2.out⟩
set_option maxRecDepth 100000 in
set_option maxHeartbeats 2000000 in
theorem dv78_15t (b : Nat) (rd r1 r2 : Nat) (imm p x1 x2 : Int) (hr : rd < 32 ∧ r1 < 32 ∧ r2 < 32) (p0 : 0 ≤ p) (p1 : p ≤ 4294967295) (y0 : 0 ≤ x1) (y1 : x1 ≤ 4294967295) (u0 : 0 ≤ x2) (u1 : x2 ≤ 4294967295) (w : World) (hx : w.cell? ⟨b, 32, none⟩ = some (.int .u32 p))
    (h1 : w.cell? ⟨b, r1, none⟩ = some (.int .u32 x1)) (h2 : w.cell? ⟨b, r2, none⟩ = some (.int .u32 x2)) (xd : Int) (hd : w.cell? ⟨b, rd, none⟩ = some (.int .u32 xd)) (hf : w.frozen? ⟨b, rd, none⟩ = false) (hfp : w.frozen? ⟨b, 32, none⟩ = false) (v : Int) (HL : Hid (∀ w1, Fr (fun _ => False) w w1 → Calls Tryz.prog 57 #[.pointer (some ⟨b, 0, none⟩), .int .i64 15, .int .u32 ((x1 + imm) % 4294967296)] w1 fun e w' => e = .returned (.tuple #[.int .u32 v, .bool true]) ∧ Fr (fun _ => False) w1 w')) :
    Calls Tryz.prog 34 #[.pointer (some ⟨b, 0, none⟩), .agg #[.int .i64 15, .int .i64 rd, .int .i64 r1, .int .i64 r2, .int .i64 imm]] w fun e w' => e = .returned (.bool true) ∧ ∃ w2, Fr (fun _ => False) w w2 ∧ w' = (setW w2 b rd v).setCell ⟨b, 32, none⟩ (.int .u32 ((p + 4) % 4294967296)) := by
  obtain ⟨wI, hwI⟩ : ∃ wI : World, wI = w.alloc (.cells #[.int .i64 15, .int .i64 rd, .int .i64 r1, .int .i64 r2, .int .i64 imm] 70) := ⟨_, rfl⟩
  obtain ⟨bI, hbI⟩ : ∃ bI : Nat, bI = w.heap.size := ⟨_, rfl⟩
  have hgI : w.grownBy wI none := by rw [hwI]; exact byAlloc (byRefl w) _
  have HG := Lib.hid hgI
  have hfI : wI.frozen? ⟨b, rd, none⟩ = false := (frozen_kept hd hgI (by simp)).trans hf
  have hfpI : wI.frozen? ⟨b, 32, none⟩ = false := (frozen_kept hx hgI (by simp)).trans hfp
  have hA : wI.cell? ⟨b, 32, none⟩ = some (.int .u32 p) := hgI.cell hx (by simp)
  have hA1 : wI.cell? ⟨b, r1, none⟩ = some (.int .u32 x1) := hgI.cell h1 (by simp)
  have hA2 : wI.cell? ⟨b, r2, none⟩ = some (.int .u32 x2) := hgI.cell h2 (by simp)
  have z0 : wI.cell? ⟨bI, 0, none⟩ = some (.int .i64 15) := by rw [hwI, hbI]; exact row_cell w #[.int .i64 15, .int .i64 rd, .int .i64 r1, .int .i64 r2, .int .i64 imm] 70 0 (.int .i64 15) rfl
  have z1 : wI.cell? ⟨bI, 1, none⟩ = some (.int .i64 rd) := by rw [hwI, hbI]; exact row_cell w #[.int .i64 15, .int .i64 rd, .int .i64 r1, .int .i64 r2, .int .i64 imm] 70 1 (.int .i64 rd) rfl
  have z2 : wI.cell? ⟨bI, 2, none⟩ = some (.int .i64 r1) := by rw [hwI, hbI]; exact row_cell w #[.int .i64 15, .int .i64 rd, .int .i64 r1, .int .i64 r2, .int .i64 imm] 70 2 (.int .i64 r1) rfl
  have z3 : wI.cell? ⟨bI, 3, none⟩ = some (.int .i64 r2) := by rw [hwI, hbI]; exact row_cell w #[.int .i64 15, .int .i64 rd, .int .i64 r1, .int .i64 r2, .int .i64 imm] 70 3 (.int .i64 r2) rfl
  have z4 : wI.cell? ⟨bI, 4, none⟩ = some (.int .i64 imm) := by rw [hwI, hbI]; exact row_cell w #[.int .i64 15, .int .i64 rd, .int .i64 r1, .int .i64 r2, .int .i64 imm] 70 4 (.int .i64 imm) rfl
  have i0 : 0 ≤ imm % 4294967296 := by omega
  have i1 : imm % 4294967296 ≤ 4294967295 := by omega
  obtain ⟨hr0, hr1, hr2⟩ := hr
  have hS : ∀ (n : Nat) (v : Int), (setW (wI.drewN n) b rd v).cell? ⟨b, 32, none⟩ = some (.int .u32 p) := fun n v => set_cell hr0 hA
  have hSf : ∀ (n : Nat) (v : Int), (setW (wI.drewN n) b rd v).frozen? ⟨b, 32, none⟩ = false := fun n v => set_frozen hfpI
  have hS2 : ∀ (n : Nat) (v : Int), (setW (wI.drewN n).drew b rd v).cell? ⟨b, 32, none⟩ = some (.int .u32 p) := fun n v => set_cell (n := n + 1) hr0 hA
  have hSf2 : ∀ (n : Nat) (v : Int), (setW (wI.drewN n).drew b rd v).frozen? ⟨b, 32, none⟩ = false := fun n v => set_frozen (n := n + 1) hfpI
  have HD : ∀ n, Hid ((wI.drewN n).cell? ⟨b, rd, none⟩ = some (.int .u32 xd)) := fun n => Lib.hid (HG.out.cell hd (by simp))
  have HF : ∀ n, Hid ((wI.drewN n).frozen? ⟨b, rd, none⟩ = false) := fun n => Lib.hid (hfI)
  have HD2 : ∀ n, Hid ((wI.drewN n).drew.cell? ⟨b, rd, none⟩ = some (.int .u32 xd)) := fun n => HD (n + 1)
  have HF2 : ∀ n, Hid ((wI.drewN n).drew.frozen? ⟨b, rd, none⟩ = false) := fun n => HF (n + 1)
  have H85 : ∀ n, Hid (Calls Tryz.prog 57 #[.pointer (some ⟨b, 0, none⟩), .int .i64 15, .int .u32 ((x1 + imm) % 4294967296)] (wI.drewN n) fun e w' => e = .returned (.tuple #[.int .u32 v, .bool true]) ∧ Fr (fun _ => False) (wI.drewN n) w') := fun n => Lib.hid (HL.out _ (Fr.of_by0 (byDrewN HG.out n)))
  have HF0 : ∀ n, Hid (Fr (fun _ => False) w (wI.drewN n)) := fun n => Lib.hid (Fr.of_by0 (byDrewN HG.out n))
  clear hx h1 h2 hgI
  go_enter Tryz.func34, Tryz.ntmps34
  iterate 40 (first | (first | with_reducible refine wp_exit ?_ | with_reducible refine past_then ?_ | with_reducible refine past_block rfl ?_ | with_reducible refine at_block ?_) | ((fail_if_success go_at_call 54); first | go_values | go_skip | go_guarded | go_step) | skip)
  rw [← hwI, ← hbI]
  clear hwI hbI
  go_quiet (fail)
  go_wp2_with (first | (first | with_reducible refine wp_exit ?_ | with_reducible refine past_then ?_ | with_reducible refine past_block rfl ?_ | with_reducible refine at_block ?_) | (go_at_call 54; (with_reducible refine (c54 p 4 p0 p1 (by decide) (by decide) _).mono ?_); rintro e w' ⟨rfl, rfl⟩))
  go_region_with (first | (go_at_call 54; (with_reducible refine (c54 x1 (imm % 4294967296) y0 y1 i0 i1 _).mono ?_); rintro e w' ⟨rfl, rfl⟩) | (go_at_call 57; (with_reducible refine Calls.mono (by first | exact (H85 _).out | exact (H85 (_ + 1)).out) ?_); rintro e w2 ⟨rfl, hf⟩; have hf2 : Hid (Fr (fun _ => False) w w2) := Lib.hid ((HF0 (nq + 1)).out.trans hf); have c1 : w2.cell? ⟨bI, 1, none⟩ = some (.int .i64 rd) := hf.cell z1 id; have c32 : w2.cell? ⟨b, 32, none⟩ = some (.int .u32 p) := hf.cell hA id; have f32 : w2.frozen? ⟨b, 32, none⟩ = false := (hf.frozen (a := ⟨b, 32, none⟩) hA id).trans hfpI; have s32 : ∀ v, (setW w2 b rd v).cell? ⟨b, 32, none⟩ = some (.int .u32 p) := fun v => set_cell (n := 0) hr0 c32; have sf32 : ∀ v, (setW w2 b rd v).frozen? ⟨b, 32, none⟩ = false := fun v => set_frozen (n := 0) f32; have hD2 : Hid (w2.cell? ⟨b, rd, none⟩ = some (.int .u32 xd)) := Lib.hid (hf.cell (a := ⟨b, rd, none⟩) (HD (nq + 1)).out id); have hF2 : Hid (w2.frozen? ⟨b, rd, none⟩ = false) := Lib.hid ((hf.frozen (a := ⟨b, rd, none⟩) (HD (nq + 1)).out id).trans (HF (nq + 1)).out); clear hf))
  all_goals
    go_wp2_with (first | (first | with_reducible refine wp_exit ?_ | with_reducible refine past_then ?_ | with_reducible refine past_block rfl ?_ | with_reducible refine at_block ?_) | (go_at_call 55; (with_reducible refine (dv83 b rd _ xd hr0 _ hD2.out hF2.out).mono ?_); rintro e w' ⟨rfl, rfl⟩))
    go_ret
    exact ⟨rfl, w2, hf2.out, rfl⟩
set_option maxRecDepth 100000 in
set_option maxHeartbeats 2000000 in
theorem dv78_15f (b : Nat) (rd r1 r2 : Nat) (imm p x1 x2 : Int) (hr : rd < 32 ∧ r1 < 32 ∧ r2 < 32) (p0 : 0 ≤ p) (p1 : p ≤ 4294967295) (y0 : 0 ≤ x1) (y1 : x1 ≤ 4294967295) (u0 : 0 ≤ x2) (u1 : x2 ≤ 4294967295) (w : World) (hx : w.cell? ⟨b, 32, none⟩ = some (.int .u32 p))
    (h1 : w.cell? ⟨b, r1, none⟩ = some (.int .u32 x1)) (h2 : w.cell? ⟨b, r2, none⟩ = some (.int .u32 x2)) (xd : Int) (hd : w.cell? ⟨b, rd, none⟩ = some (.int .u32 xd)) (hf : w.frozen? ⟨b, rd, none⟩ = false) (hfp : w.frozen? ⟨b, 32, none⟩ = false) (v : Int) (HL : Hid (∀ w1, Fr (fun _ => False) w w1 → Calls Tryz.prog 57 #[.pointer (some ⟨b, 0, none⟩), .int .i64 15, .int .u32 ((x1 + imm) % 4294967296)] w1 fun e w' => e = .returned (.tuple #[.int .u32 v, .bool false]) ∧ Fr (fun _ => False) w1 w')) :
    Calls Tryz.prog 34 #[.pointer (some ⟨b, 0, none⟩), .agg #[.int .i64 15, .int .i64 rd, .int .i64 r1, .int .i64 r2, .int .i64 imm]] w fun e w' => e = .returned (.bool false) ∧ Fr (fun _ => False) w w' := by
  obtain ⟨wI, hwI⟩ : ∃ wI : World, wI = w.alloc (.cells #[.int .i64 15, .int .i64 rd, .int .i64 r1, .int .i64 r2, .int .i64 imm] 70) := ⟨_, rfl⟩
  obtain ⟨bI, hbI⟩ : ∃ bI : Nat, bI = w.heap.size := ⟨_, rfl⟩
  have hgI : w.grownBy wI none := by rw [hwI]; exact byAlloc (byRefl w) _
  have HG := Lib.hid hgI
  have hfI : wI.frozen? ⟨b, rd, none⟩ = false := (frozen_kept hd hgI (by simp)).trans hf
  have hfpI : wI.frozen? ⟨b, 32, none⟩ = false := (frozen_kept hx hgI (by simp)).trans hfp
  have hA : wI.cell? ⟨b, 32, none⟩ = some (.int .u32 p) := hgI.cell hx (by simp)
  have hA1 : wI.cell? ⟨b, r1, none⟩ = some (.int .u32 x1) := hgI.cell h1 (by simp)
  have hA2 : wI.cell? ⟨b, r2, none⟩ = some (.int .u32 x2) := hgI.cell h2 (by simp)
  have z0 : wI.cell? ⟨bI, 0, none⟩ = some (.int .i64 15) := by rw [hwI, hbI]; exact row_cell w #[.int .i64 15, .int .i64 rd, .int .i64 r1, .int .i64 r2, .int .i64 imm] 70 0 (.int .i64 15) rfl
  have z1 : wI.cell? ⟨bI, 1, none⟩ = some (.int .i64 rd) := by rw [hwI, hbI]; exact row_cell w #[.int .i64 15, .int .i64 rd, .int .i64 r1, .int .i64 r2, .int .i64 imm] 70 1 (.int .i64 rd) rfl
  have z2 : wI.cell? ⟨bI, 2, none⟩ = some (.int .i64 r1) := by rw [hwI, hbI]; exact row_cell w #[.int .i64 15, .int .i64 rd, .int .i64 r1, .int .i64 r2, .int .i64 imm] 70 2 (.int .i64 r1) rfl
  have z3 : wI.cell? ⟨bI, 3, none⟩ = some (.int .i64 r2) := by rw [hwI, hbI]; exact row_cell w #[.int .i64 15, .int .i64 rd, .int .i64 r1, .int .i64 r2, .int .i64 imm] 70 3 (.int .i64 r2) rfl
  have z4 : wI.cell? ⟨bI, 4, none⟩ = some (.int .i64 imm) := by rw [hwI, hbI]; exact row_cell w #[.int .i64 15, .int .i64 rd, .int .i64 r1, .int .i64 r2, .int .i64 imm] 70 4 (.int .i64 imm) rfl
  have i0 : 0 ≤ imm % 4294967296 := by omega
  have i1 : imm % 4294967296 ≤ 4294967295 := by omega
  obtain ⟨hr0, hr1, hr2⟩ := hr
  have hS : ∀ (n : Nat) (v : Int), (setW (wI.drewN n) b rd v).cell? ⟨b, 32, none⟩ = some (.int .u32 p) := fun n v => set_cell hr0 hA
  have hSf : ∀ (n : Nat) (v : Int), (setW (wI.drewN n) b rd v).frozen? ⟨b, 32, none⟩ = false := fun n v => set_frozen hfpI
  have hS2 : ∀ (n : Nat) (v : Int), (setW (wI.drewN n).drew b rd v).cell? ⟨b, 32, none⟩ = some (.int .u32 p) := fun n v => set_cell (n := n + 1) hr0 hA
  have hSf2 : ∀ (n : Nat) (v : Int), (setW (wI.drewN n).drew b rd v).frozen? ⟨b, 32, none⟩ = false := fun n v => set_frozen (n := n + 1) hfpI
  have HD : ∀ n, Hid ((wI.drewN n).cell? ⟨b, rd, none⟩ = some (.int .u32 xd)) := fun n => Lib.hid (HG.out.cell hd (by simp))
  have HF : ∀ n, Hid ((wI.drewN n).frozen? ⟨b, rd, none⟩ = false) := fun n => Lib.hid (hfI)
  have HD2 : ∀ n, Hid ((wI.drewN n).drew.cell? ⟨b, rd, none⟩ = some (.int .u32 xd)) := fun n => HD (n + 1)
  have HF2 : ∀ n, Hid ((wI.drewN n).drew.frozen? ⟨b, rd, none⟩ = false) := fun n => HF (n + 1)
  have H85 : ∀ n, Hid (Calls Tryz.prog 57 #[.pointer (some ⟨b, 0, none⟩), .int .i64 15, .int .u32 ((x1 + imm) % 4294967296)] (wI.drewN n) fun e w' => e = .returned (.tuple #[.int .u32 v, .bool false]) ∧ Fr (fun _ => False) (wI.drewN n) w') := fun n => Lib.hid (HL.out _ (Fr.of_by0 (byDrewN HG.out n)))
  have HF0 : ∀ n, Hid (Fr (fun _ => False) w (wI.drewN n)) := fun n => Lib.hid (Fr.of_by0 (byDrewN HG.out n))
  clear hx h1 h2 hgI
  go_enter Tryz.func34, Tryz.ntmps34
  iterate 40 (first | (first | with_reducible refine wp_exit ?_ | with_reducible refine past_then ?_ | with_reducible refine past_block rfl ?_ | with_reducible refine at_block ?_) | ((fail_if_success go_at_call 54); first | go_values | go_skip | go_guarded | go_step) | skip)
  rw [← hwI, ← hbI]
  clear hwI hbI
  go_quiet (fail)
  go_wp2_with (first | (first | with_reducible refine wp_exit ?_ | with_reducible refine past_then ?_ | with_reducible refine past_block rfl ?_ | with_reducible refine at_block ?_) | (go_at_call 54; (with_reducible refine (c54 p 4 p0 p1 (by decide) (by decide) _).mono ?_); rintro e w' ⟨rfl, rfl⟩))
  go_region_with (first | (go_at_call 54; (with_reducible refine (c54 x1 (imm % 4294967296) y0 y1 i0 i1 _).mono ?_); rintro e w' ⟨rfl, rfl⟩) | (go_at_call 57; (with_reducible refine Calls.mono (by first | exact (H85 _).out | exact (H85 (_ + 1)).out) ?_); rintro e w2 ⟨rfl, hf⟩; have hf2 : Hid (Fr (fun _ => False) w w2) := Lib.hid ((HF0 (nq + 1)).out.trans hf); have c1 : w2.cell? ⟨bI, 1, none⟩ = some (.int .i64 rd) := hf.cell z1 id; have c32 : w2.cell? ⟨b, 32, none⟩ = some (.int .u32 p) := hf.cell hA id; have f32 : w2.frozen? ⟨b, 32, none⟩ = false := (hf.frozen (a := ⟨b, 32, none⟩) hA id).trans hfpI; have s32 : ∀ v, (setW w2 b rd v).cell? ⟨b, 32, none⟩ = some (.int .u32 p) := fun v => set_cell (n := 0) hr0 c32; have sf32 : ∀ v, (setW w2 b rd v).frozen? ⟨b, 32, none⟩ = false := fun v => set_frozen (n := 0) f32; have hD2 : Hid (w2.cell? ⟨b, rd, none⟩ = some (.int .u32 xd)) := Lib.hid (hf.cell (a := ⟨b, rd, none⟩) (HD (nq + 1)).out id); have hF2 : Hid (w2.frozen? ⟨b, rd, none⟩ = false) := Lib.hid ((hf.frozen (a := ⟨b, rd, none⟩) (HD (nq + 1)).out id).trans (HF (nq + 1)).out); clear hf))
  all_goals
    go_wp2_with (first | (first | with_reducible refine wp_exit ?_ | with_reducible refine past_then ?_ | with_reducible refine past_block rfl ?_ | with_reducible refine at_block ?_) | (go_at_call 55; (with_reducible refine (dv83 b rd _ xd hr0 _ hD2.out hF2.out).mono ?_); rintro e w' ⟨rfl, rfl⟩))
    go_ret
    exact ⟨rfl, hf2.out⟩
end Go.Proofs.YthhahfggbjegmaaGreat
