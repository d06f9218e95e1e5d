/-
  The contract of execute (layer 3) at the stores. The contract of execute (layer 3) at the stores.
-/
import Derived.Test.YthhahfggbjegmaaGreatQDevM
import Derived.Test.YthhahfggbjegmaaGreatQDevN
import Derived.Outline
namespace Go.Proofs.YthhahfggbjegmaaGreat
open Go.RowKit
set_option linter.unusedVariables false
set_option linter.unusedSimpArgs false
set_option maxRecDepth 100000 in
set_option maxHeartbeats 2000000 in
theorem dv78_16t (b : Nat) (rd r1 r2 : Nat) (imm p x1 x2 : Int) (hr : rd < 32 ∧ r1 < 32 ∧ r2 < 32) (p0 : 0 ≤ p) (p1 : p ≤ 4294967295) (y0 : 0 ≤ x1) (y1 : x1 ≤ 4294967295) (u0 : 0 ≤ x2) (u1 : x2 ≤ 4294967295) (w : World) (hx : w.cell? ⟨b, 32, none⟩ = some (.int .u32 p))
    (h1 : w.cell? ⟨b, r1, none⟩ = some (.int .u32 x1)) (h2 : w.cell? ⟨b, r2, none⟩ = some (.int .u32 x2)) (xd : Int) (hd : w.cell? ⟨b, rd, none⟩ = some (.int .u32 xd)) (hf : w.frozen? ⟨b, rd, none⟩ = false) (hfp : w.frozen? ⟨b, 32, none⟩ = false) (S : World → Prop) (hSc : Hid (∀ w2, S w2 → w2.cell? ⟨b, 32, none⟩ = some (.int .u32 p) ∧ w2.frozen? ⟨b, 32, none⟩ = false)) (HL : Hid (∀ w1, Fr (fun _ => False) w w1 → Calls Tryz.prog 58 #[.pointer (some ⟨b, 0, none⟩), .int .i64 16, .int .u32 ((x1 + imm) % 4294967296), .int .u32 x2] w1 fun e w' => e = .returned (.bool true) ∧ S w')) :
    Calls Tryz.prog 34 #[.pointer (some ⟨b, 0, none⟩), .agg #[.int .i64 16, .int .i64 rd, .int .i64 r1, .int .i64 r2, .int .i64 imm]] w fun e w' => e = .returned (.bool true) ∧ ∃ w2, S w2 ∧ w' = w2.setCell ⟨b, 32, none⟩ (.int .u32 ((p + 4) % 4294967296)) := by
  obtain ⟨wI, hwI⟩ : ∃ wI : World, wI = w.alloc (.cells #[.int .i64 16, .int .i64 rd, .int .i64 r1, .int .i64 r2, .int .i64 imm] 70) := ⟨_, rfl⟩
  obtain ⟨bI, hbI⟩ : ∃ bI : Nat, bI = w.heap.size := ⟨_, rfl⟩
  have hgI : w.grownBy wI none := by rw [hwI]; exact byAlloc (byRefl w) _
  have HG := Lib.hid hgI
  have hfI : wI.frozen? ⟨b, rd, none⟩ = false := (frozen_kept hd hgI (by simp)).trans hf
  have hfpI : wI.frozen? ⟨b, 32, none⟩ = false := (frozen_kept hx hgI (by simp)).trans hfp
  have hA : wI.cell? ⟨b, 32, none⟩ = some (.int .u32 p) := hgI.cell hx (by simp)
  have hA1 : wI.cell? ⟨b, r1, none⟩ = some (.int .u32 x1) := hgI.cell h1 (by simp)
  have hA2 : wI.cell? ⟨b, r2, none⟩ = some (.int .u32 x2) := hgI.cell h2 (by simp)
  have z0 : wI.cell? ⟨bI, 0, none⟩ = some (.int .i64 16) := by rw [hwI, hbI]; exact row_cell w #[.int .i64 16, .int .i64 rd, .int .i64 r1, .int .i64 r2, .int .i64 imm] 70 0 (.int .i64 16) rfl
  have z1 : wI.cell? ⟨bI, 1, none⟩ = some (.int .i64 rd) := by rw [hwI, hbI]; exact row_cell w #[.int .i64 16, .int .i64 rd, .int .i64 r1, .int .i64 r2, .int .i64 imm] 70 1 (.int .i64 rd) rfl
  have z2 : wI.cell? ⟨bI, 2, none⟩ = some (.int .i64 r1) := by rw [hwI, hbI]; exact row_cell w #[.int .i64 16, .int .i64 rd, .int .i64 r1, .int .i64 r2, .int .i64 imm] 70 2 (.int .i64 r1) rfl
  have z3 : wI.cell? ⟨bI, 3, none⟩ = some (.int .i64 r2) := by rw [hwI, hbI]; exact row_cell w #[.int .i64 16, .int .i64 rd, .int .i64 r1, .int .i64 r2, .int .i64 imm] 70 3 (.int .i64 r2) rfl
  have z4 : wI.cell? ⟨bI, 4, none⟩ = some (.int .i64 imm) := by rw [hwI, hbI]; exact row_cell w #[.int .i64 16, .int .i64 rd, .int .i64 r1, .int .i64 r2, .int .i64 imm] 70 4 (.int .i64 imm) rfl
  have i0 : 0 ≤ imm % 4294967296 := by omega
  have i1 : imm % 4294967296 ≤ 4294967295 := by omega
  obtain ⟨hr0, hr1, hr2⟩ := hr
  have hS : ∀ (n : Nat) (v : Int), (setW (wI.drewN n) b rd v).cell? ⟨b, 32, none⟩ = some (.int .u32 p) := fun n v => set_cell hr0 hA
  have hSf : ∀ (n : Nat) (v : Int), (setW (wI.drewN n) b rd v).frozen? ⟨b, 32, none⟩ = false := fun n v => set_frozen hfpI
  have hS2 : ∀ (n : Nat) (v : Int), (setW (wI.drewN n).drew b rd v).cell? ⟨b, 32, none⟩ = some (.int .u32 p) := fun n v => set_cell (n := n + 1) hr0 hA
  have hSf2 : ∀ (n : Nat) (v : Int), (setW (wI.drewN n).drew b rd v).frozen? ⟨b, 32, none⟩ = false := fun n v => set_frozen (n := n + 1) hfpI
  have HD : ∀ n, Hid ((wI.drewN n).cell? ⟨b, rd, none⟩ = some (.int .u32 xd)) := fun n => Lib.hid (HG.out.cell hd (by simp))
  have HF : ∀ n, Hid ((wI.drewN n).frozen? ⟨b, rd, none⟩ = false) := fun n => Lib.hid (hfI)
  have HD2 : ∀ n, Hid ((wI.drewN n).drew.cell? ⟨b, rd, none⟩ = some (.int .u32 xd)) := fun n => HD (n + 1)
  have HF2 : ∀ n, Hid ((wI.drewN n).drew.frozen? ⟨b, rd, none⟩ = false) := fun n => HF (n + 1)
  have H86 : ∀ n, Hid (Calls Tryz.prog 58 #[.pointer (some ⟨b, 0, none⟩), .int .i64 16, .int .u32 ((x1 + imm) % 4294967296), .int .u32 x2] (wI.drewN n) fun e w' => e = .returned (.bool true) ∧ S w') := fun n => Lib.hid (HL.out _ (Fr.of_by0 (byDrewN HG.out n)))
  clear hx h1 h2 hgI
  go_enter Tryz.func34, Tryz.ntmps34
  iterate 40 (first | (first | with_reducible refine wp_exit ?_ | with_reducible refine past_then ?_ | with_reducible refine past_block rfl ?_ | with_reducible refine at_block ?_) | ((fail_if_success go_at_call 54); first | go_values | go_skip | go_guarded | go_step) | skip)
  rw [← hwI, ← hbI]
  clear hwI hbI
  go_quiet (fail)
  go_wp2_with (first | (first | with_reducible refine wp_exit ?_ | with_reducible refine past_then ?_ | with_reducible refine past_block rfl ?_ | with_reducible refine at_block ?_) | (go_at_call 54; (with_reducible refine (c54 p 4 p0 p1 (by decide) (by decide) _).mono ?_); rintro e w' ⟨rfl, rfl⟩))
  go_region_with (first | (go_at_call 54; (with_reducible refine (c54 x1 (imm % 4294967296) y0 y1 i0 i1 _).mono ?_); rintro e w' ⟨rfl, rfl⟩) | (go_at_call 58; (with_reducible refine Calls.mono (by first | exact (H86 _).out | exact (H86 (_ + 1)).out) ?_); rintro e w2 ⟨rfl, hs⟩; have hs2 := Lib.hid hs; obtain ⟨c32, f32⟩ := hSc.out _ hs; clear hs))
  all_goals
    go_wp2_with (first | (first | with_reducible refine wp_exit ?_ | with_reducible refine past_then ?_ | with_reducible refine past_block rfl ?_ | with_reducible refine at_block ?_))
    go_ret
    exact ⟨rfl, w2, hs2.out, rfl⟩
set_option maxRecDepth 100000 in
set_option maxHeartbeats 2000000 in
theorem dv78_16f (b : Nat) (rd r1 r2 : Nat) (imm p x1 x2 : Int) (hr : rd < 32 ∧ r1 < 32 ∧ r2 < 32) (p0 : 0 ≤ p) (p1 : p ≤ 4294967295) (y0 : 0 ≤ x1) (y1 : x1 ≤ 4294967295) (u0 : 0 ≤ x2) (u1 : x2 ≤ 4294967295) (w : World) (hx : w.cell? ⟨b, 32, none⟩ = some (.int .u32 p))
    (h1 : w.cell? ⟨b, r1, none⟩ = some (.int .u32 x1)) (h2 : w.cell? ⟨b, r2, none⟩ = some (.int .u32 x2)) (xd : Int) (hd : w.cell? ⟨b, rd, none⟩ = some (.int .u32 xd)) (hf : w.frozen? ⟨b, rd, none⟩ = false) (hfp : w.frozen? ⟨b, 32, none⟩ = false) (S : World → Prop) (hSc : Hid (∀ w2, S w2 → w2.cell? ⟨b, 32, none⟩ = some (.int .u32 p) ∧ w2.frozen? ⟨b, 32, none⟩ = false)) (HL : Hid (∀ w1, Fr (fun _ => False) w w1 → Calls Tryz.prog 58 #[.pointer (some ⟨b, 0, none⟩), .int .i64 16, .int .u32 ((x1 + imm) % 4294967296), .int .u32 x2] w1 fun e w' => e = .returned (.bool false) ∧ S w')) :
    Calls Tryz.prog 34 #[.pointer (some ⟨b, 0, none⟩), .agg #[.int .i64 16, .int .i64 rd, .int .i64 r1, .int .i64 r2, .int .i64 imm]] w fun e w' => e = .returned (.bool false) ∧ S w' := by
  obtain ⟨wI, hwI⟩ : ∃ wI : World, wI = w.alloc (.cells #[.int .i64 16, .int .i64 rd, .int .i64 r1, .int .i64 r2, .int .i64 imm] 70) := ⟨_, rfl⟩
  obtain ⟨bI, hbI⟩ : ∃ bI : Nat, bI = w.heap.size := ⟨_, rfl⟩
  have hgI : w.grownBy wI none := by rw [hwI]; exact byAlloc (byRefl w) _
  have HG := Lib.hid hgI
  have hfI : wI.frozen? ⟨b, rd, none⟩ = false := (frozen_kept hd hgI (by simp)).trans hf
  have hfpI : wI.frozen? ⟨b, 32, none⟩ = false := (frozen_kept hx hgI (by simp)).trans hfp
  have hA : wI.cell? ⟨b, 32, none⟩ = some (.int .u32 p) := hgI.cell hx (by simp)
  have hA1 : wI.cell? ⟨b, r1, none⟩ = some (.int .u32 x1) := hgI.cell h1 (by simp)
  have hA2 : wI.cell? ⟨b, r2, none⟩ = some (.int .u32 x2) := hgI.cell h2 (by simp)
  have z0 : wI.cell? ⟨bI, 0, none⟩ = some (.int .i64 16) := by rw [hwI, hbI]; exact row_cell w #[.int .i64 16, .int .i64 rd, .int .i64 r1, .int .i64 r2, .int .i64 imm] 70 0 (.int .i64 16) rfl
  have z1 : wI.cell? ⟨bI, 1, none⟩ = some (.int .i64 rd) := by rw [hwI, hbI]; exact row_cell w #[.int .i64 16, .int .i64 rd, .int .i64 r1, .int .i64 r2, .int .i64 imm] 70 1 (.int .i64 rd) rfl
  have z2 : wI.cell? ⟨bI, 2, none⟩ = some (.int .i64 r1) := by rw [hwI, hbI]; exact row_cell w #[.int .i64 16, .int .i64 rd, .int .i64 r1, .int .i64 r2, .int .i64 imm] 70 2 (.int .i64 r1) rfl
  have z3 : wI.cell? ⟨bI, 3, none⟩ = some (.int .i64 r2) := by rw [hwI, hbI]; exact row_cell w #[.int .i64 16, .int .i64 rd, .int .i64 r1, .int .i64 r2, .int .i64 imm] 70 3 (.int .i64 r2) rfl
  have z4 : wI.cell? ⟨bI, 4, none⟩ = some (.int .i64 imm) := by rw [hwI, hbI]; exact row_cell w #[.int .i64 16, .int .i64 rd, .int .i64 r1, .int .i64 r2, .int .i64 imm] 70 4 (.int .i64 imm) rfl
  have i0 : 0 ≤ imm % 4294967296 := by omega
  have i1 : imm % 4294967296 ≤ 4294967295 := by omega
  obtain ⟨hr0, hr1, hr2⟩ := hr
  have hS : ∀ (n : Nat) (v : Int), (setW (wI.drewN n) b rd v).cell? ⟨b, 32, none⟩ = some (.int .u32 p) := fun n v => set_cell hr0 hA
  have hSf : ∀ (n : Nat) (v : Int), (setW (wI.drewN n) b rd v).frozen? ⟨b, 32, none⟩ = false := fun n v => set_frozen hfpI
  have hS2 : ∀ (n : Nat) (v : Int), (setW (wI.drewN n).drew b rd v).cell? ⟨b, 32, none⟩ = some (.int .u32 p) := fun n v => set_cell (n := n + 1) hr0 hA
  have hSf2 : ∀ (n : Nat) (v : Int), (setW (wI.drewN n).drew b rd v).frozen? ⟨b, 32, none⟩ = false := fun n v => set_frozen (n := n + 1) hfpI
  have HD : ∀ n, Hid ((wI.drewN n).cell? ⟨b, rd, none⟩ = some (.int .u32 xd)) := fun n => Lib.hid (HG.out.cell hd (by simp))
  have HF : ∀ n, Hid ((wI.drewN n).frozen? ⟨b, rd, none⟩ = false) := fun n => Lib.hid (hfI)
  have HD2 : ∀ n, Hid ((wI.drewN n).drew.cell? ⟨b, rd, none⟩ = some (.int .u32 xd)) := fun n => HD (n + 1)
  have HF2 : ∀ n, Hid ((wI.drewN n).drew.frozen? ⟨b, rd, none⟩ = false) := fun n => HF (n + 1)
  have H86 : ∀ n, Hid (Calls Tryz.prog 58 #[.pointer (some ⟨b, 0, none⟩), .int .i64 16, .int .u32 ((x1 + imm) % 4294967296), .int .u32 x2] (wI.drewN n) fun e w' => e = .returned (.bool false) ∧ S w') := fun n => Lib.hid (HL.out _ (Fr.of_by0 (byDrewN HG.out n)))
  clear hx h1 h2 hgI
  go_enter Tryz.func34, Tryz.ntmps34
  iterate 40 (first | (first | with_reducible refine wp_exit ?_ | with_reducible refine past_then ?_ | with_reducible refine past_block rfl ?_ | with_reducible refine at_block ?_) | ((fail_if_success go_at_call 54); first | go_values | go_skip | go_guarded | go_step) | skip)
  rw [← hwI, ← hbI]
  clear hwI hbI
  go_quiet (fail)
  go_wp2_with (first | (first | with_reducible refine wp_exit ?_ | with_reducible refine past_then ?_ | with_reducible refine past_block rfl ?_ | with_reducible refine at_block ?_) | (go_at_call 54; (with_reducible refine (c54 p 4 p0 p1 (by decide) (by decide) _).mono ?_); rintro e w' ⟨rfl, rfl⟩))
  go_region_with (first | (go_at_call 54; (with_reducible refine (c54 x1 (imm % 4294967296) y0 y1 i0 i1 _).mono ?_); rintro e w' ⟨rfl, rfl⟩) | (go_at_call 58; (with_reducible refine Calls.mono (by first | exact (H86 _).out | exact (H86 (_ + 1)).out) ?_); rintro e w2 ⟨rfl, hs⟩; have hs2 := Lib.hid hs; obtain ⟨c32, f32⟩ := hSc.out _ hs; clear hs))
  all_goals
    go_wp2_with (first | (first | with_reducible refine wp_exit ?_ | with_reducible refine past_then ?_ | with_reducible refine past_block rfl ?_ | with_reducible refine at_block ?_))
    go_ret
    exact ⟨rfl, hs2.out⟩
set_option maxRecDepth 100000 in
set_option maxHeartbeats 2000000 in
theorem dv78_17t (b : Nat) (rd r1 r2 : Nat) (imm p x1 x2 : Int) (hr : rd < 32 ∧ r1 < 32 ∧ r2 < 32) (p0 : 0 ≤ p) (p1 : p ≤ 4294967295) (y0 : 0 ≤ x1) (y1 : x1 ≤ 4294967295) (u0 : 0 ≤ x2) (u1 : x2 ≤ 4294967295) (w : World) (hx : w.cell? ⟨b, 32, none⟩ = some (.int .u32 p))
    (h1 : w.cell? ⟨b, r1, none⟩ = some (.int .u32 x1)) (h2 : w.cell? ⟨b, r2, none⟩ = some (.int .u32 x2)) (xd : Int) (hd : w.cell? ⟨b, rd, none⟩ = some (.int .u32 xd)) (hf : w.frozen? ⟨b, rd, none⟩ = false) (hfp : w.frozen? ⟨b, 32, none⟩ = false) (S : World → Prop) (hSc : Hid (∀ w2, S w2 → w2.cell? ⟨b, 32, none⟩ = some (.int .u32 p) ∧ w2.frozen? ⟨b, 32, none⟩ = false)) (HL : Hid (∀ w1, Fr (fun _ => False) w w1 → Calls Tryz.prog 58 #[.pointer (some ⟨b, 0, none⟩), .int .i64 17, .int .u32 ((x1 + imm) % 4294967296), .int .u32 x2] w1 fun e w' => e = .returned (.bool true) ∧ S w')) :
    Calls Tryz.prog 34 #[.pointer (some ⟨b, 0, none⟩), .agg #[.int .i64 17, .int .i64 rd, .int .i64 r1, .int .i64 r2, .int .i64 imm]] w fun e w' => e = .returned (.bool true) ∧ ∃ w2, S w2 ∧ w' = w2.setCell ⟨b, 32, none⟩ (.int .u32 ((p + 4) % 4294967296)) := by
  obtain ⟨wI, hwI⟩ : ∃ wI : World, wI = w.alloc (.cells #[.int .i64 17, .int .i64 rd, .int .i64 r1, .int .i64 r2, .int .i64 imm] 70) := ⟨_, rfl⟩
  obtain ⟨bI, hbI⟩ : ∃ bI : Nat, bI = w.heap.size := ⟨_, rfl⟩
  have hgI : w.grownBy wI none := by rw [hwI]; exact byAlloc (byRefl w) _
  have HG := Lib.hid hgI
  have hfI : wI.frozen? ⟨b, rd, none⟩ = false := (frozen_kept hd hgI (by simp)).trans hf
  have hfpI : wI.frozen? ⟨b, 32, none⟩ = false := (frozen_kept hx hgI (by simp)).trans hfp
  have hA : wI.cell? ⟨b, 32, none⟩ = some (.int .u32 p) := hgI.cell hx (by simp)
  have hA1 : wI.cell? ⟨b, r1, none⟩ = some (.int .u32 x1) := hgI.cell h1 (by simp)
  have hA2 : wI.cell? ⟨b, r2, none⟩ = some (.int .u32 x2) := hgI.cell h2 (by simp)
  have z0 : wI.cell? ⟨bI, 0, none⟩ = some (.int .i64 17) := by rw [hwI, hbI]; exact row_cell w #[.int .i64 17, .int .i64 rd, .int .i64 r1, .int .i64 r2, .int .i64 imm] 70 0 (.int .i64 17) rfl
  have z1 : wI.cell? ⟨bI, 1, none⟩ = some (.int .i64 rd) := by rw [hwI, hbI]; exact row_cell w #[.int .i64 17, .int .i64 rd, .int .i64 r1, .int .i64 r2, .int .i64 imm] 70 1 (.int .i64 rd) rfl
  have z2 : wI.cell? ⟨bI, 2, none⟩ = some (.int .i64 r1) := by rw [hwI, hbI]; exact row_cell w #[.int .i64 17, .int .i64 rd, .int .i64 r1, .int .i64 r2, .int .i64 imm] 70 2 (.int .i64 r1) rfl
  have z3 : wI.cell? ⟨bI, 3, none⟩ = some (.int .i64 r2) := by rw [hwI, hbI]; exact row_cell w #[.int .i64 17, .int .i64 rd, .int .i64 r1, .int .i64 r2, .int .i64 imm] 70 3 (.int .i64 r2) rfl
  have z4 : wI.cell? ⟨bI, 4, none⟩ = some (.int .i64 imm) := by rw [hwI, hbI]; exact row_cell w #[.int .i64 17, .int .i64 rd, .int .i64 r1, .int .i64 r2, .int .i64 imm] 70 4 (.int .i64 imm) rfl
  have i0 : 0 ≤ imm % 4294967296 := by omega
  have i1 : imm % 4294967296 ≤ 4294967295 := by omega
  obtain ⟨hr0, hr1, hr2⟩ := hr
  have hS : ∀ (n : Nat) (v : Int), (setW (wI.drewN n) b rd v).cell? ⟨b, 32, none⟩ = some (.int .u32 p) := fun n v => set_cell hr0 hA
  have hSf : ∀ (n : Nat) (v : Int), (setW (wI.drewN n) b rd v).frozen? ⟨b, 32, none⟩ = false := fun n v => set_frozen hfpI
  have hS2 : ∀ (n : Nat) (v : Int), (setW (wI.drewN n).drew b rd v).cell? ⟨b, 32, none⟩ = some (.int .u32 p) := fun n v => set_cell (n := n + 1) hr0 hA
  have hSf2 : ∀ (n : Nat) (v : Int), (setW (wI.drewN n).drew b rd v).frozen? ⟨b, 32, none⟩ = false := fun n v => set_frozen (n := n + 1) hfpI
  have HD : ∀ n, Hid ((wI.drewN n).cell? ⟨b, rd, none⟩ = some (.int .u32 xd)) := fun n => Lib.hid (HG.out.cell hd (by simp))
  have HF : ∀ n, Hid ((wI.drewN n).frozen? ⟨b, rd, none⟩ = false) := fun n => Lib.hid (hfI)
  have HD2 : ∀ n, Hid ((wI.drewN n).drew.cell? ⟨b, rd, none⟩ = some (.int .u32 xd)) := fun n => HD (n + 1)
  have HF2 : ∀ n, Hid ((wI.drewN n).drew.frozen? ⟨b, rd, none⟩ = false) := fun n => HF (n + 1)
  have H86 : ∀ n, Hid (Calls Tryz.prog 58 #[.pointer (some ⟨b, 0, none⟩), .int .i64 17, .int .u32 ((x1 + imm) % 4294967296), .int .u32 x2] (wI.drewN n) fun e w' => e = .returned (.bool true) ∧ S w') := fun n => Lib.hid (HL.out _ (Fr.of_by0 (byDrewN HG.out n)))
  clear hx h1 h2 hgI
  go_enter Tryz.func34, Tryz.ntmps34
  iterate 40 (first | (first | with_reducible refine wp_exit ?_ | with_reducible refine past_then ?_ | with_reducible refine past_block rfl ?_ | with_reducible refine at_block ?_) | ((fail_if_success go_at_call 54); first | go_values | go_skip | go_guarded | go_step) | skip)
  rw [← hwI, ← hbI]
  clear hwI hbI
  go_quiet (fail)
  go_wp2_with (first | (first | with_reducible refine wp_exit ?_ | with_reducible refine past_then ?_ | with_reducible refine past_block rfl ?_ | with_reducible refine at_block ?_) | (go_at_call 54; (with_reducible refine (c54 p 4 p0 p1 (by decide) (by decide) _).mono ?_); rintro e w' ⟨rfl, rfl⟩))
  go_region_with (first | (go_at_call 54; (with_reducible refine (c54 x1 (imm % 4294967296) y0 y1 i0 i1 _).mono ?_); rintro e w' ⟨rfl, rfl⟩) | (go_at_call 58; (with_reducible refine Calls.mono (by first | exact (H86 _).out | exact (H86 (_ + 1)).out) ?_); rintro e w2 ⟨rfl, hs⟩; have hs2 := Lib.hid hs; obtain ⟨c32, f32⟩ := hSc.out _ hs; clear hs))
  all_goals
    go_wp2_with (first | (first | with_reducible refine wp_exit ?_ | with_reducible refine past_then ?_ | with_reducible refine past_block rfl ?_ | with_reducible refine at_block ?_))
    go_ret
    exact ⟨rfl, w2, hs2.out, rfl⟩
set_option maxRecDepth 100000 in
set_option maxHeartbeats 2000000 in
theorem dv78_17f (b : Nat) (rd r1 r2 : Nat) (imm p x1 x2 : Int) (hr : rd < 32 ∧ r1 < 32 ∧ r2 < 32) (p0 : 0 ≤ p) (p1 : p ≤ 4294967295) (y0 : 0 ≤ x1) (y1 : x1 ≤ 4294967295) (u0 : 0 ≤ x2) (u1 : x2 ≤ 4294967295) (w : World) (hx : w.cell? ⟨b, 32, none⟩ = some (.int .u32 p))
    (h1 : w.cell? ⟨b, r1, none⟩ = some (.int .u32 x1)) (h2 : w.cell? ⟨b, r2, none⟩ = some (.int .u32 x2)) (xd : Int) (hd : w.cell? ⟨b, rd, none⟩ = some (.int .u32 xd)) (hf : w.frozen? ⟨b, rd, none⟩ = false) (hfp : w.frozen? ⟨b, 32, none⟩ = false) (S : World → Prop) (hSc : Hid (∀ w2, S w2 → w2.cell? ⟨b, 32, none⟩ = some (.int .u32 p) ∧ w2.frozen? ⟨b, 32, none⟩ = false)) (HL : Hid (∀ w1, Fr (fun _ => False) w w1 → Calls Tryz.prog 58 #[.pointer (some ⟨b, 0, none⟩), .int .i64 17, .int .u32 ((x1 + imm) % 4294967296), .int .u32 x2] w1 fun e w' => e = .returned (.bool false) ∧ S w')) :
    Calls Tryz.prog 34 #[.pointer (some ⟨b, 0, none⟩), .agg #[.int .i64 17, .int .i64 rd, .int .i64 r1, .int .i64 r2, .int .i64 imm]] w fun e w' => e = .returned (.bool false) ∧ S w' := by
  obtain ⟨wI, hwI⟩ : ∃ wI : World, wI = w.alloc (.cells #[.int .i64 17, .int .i64 rd, .int .i64 r1, .int .i64 r2, .int .i64 imm] 70) := ⟨_, rfl⟩
  obtain ⟨bI, hbI⟩ : ∃ bI : Nat, bI = w.heap.size := ⟨_, rfl⟩
  have hgI : w.grownBy wI none := by rw [hwI]; exact byAlloc (byRefl w) _
  have HG := Lib.hid hgI
  have hfI : wI.frozen? ⟨b, rd, none⟩ = false := (frozen_kept hd hgI (by simp)).trans hf
  have hfpI : wI.frozen? ⟨b, 32, none⟩ = false := (frozen_kept hx hgI (by simp)).trans hfp
  have hA : wI.cell? ⟨b, 32, none⟩ = some (.int .u32 p) := hgI.cell hx (by simp)
  have hA1 : wI.cell? ⟨b, r1, none⟩ = some (.int .u32 x1) := hgI.cell h1 (by simp)
  have hA2 : wI.cell? ⟨b, r2, none⟩ = some (.int .u32 x2) := hgI.cell h2 (by simp)
  have z0 : wI.cell? ⟨bI, 0, none⟩ = some (.int .i64 17) := by rw [hwI, hbI]; exact row_cell w #[.int .i64 17, .int .i64 rd, .int .i64 r1, .int .i64 r2, .int .i64 imm] 70 0 (.int .i64 17) rfl
  have z1 : wI.cell? ⟨bI, 1, none⟩ = some (.int .i64 rd) := by rw [hwI, hbI]; exact row_cell w #[.int .i64 17, .int .i64 rd, .int .i64 r1, .int .i64 r2, .int .i64 imm] 70 1 (.int .i64 rd) rfl
  have z2 : wI.cell? ⟨bI, 2, none⟩ = some (.int .i64 r1) := by rw [hwI, hbI]; exact row_cell w #[.int .i64 17, .int .i64 rd, .int .i64 r1, .int .i64 r2, .int .i64 imm] 70 2 (.int .i64 r1) rfl
  have z3 : wI.cell? ⟨bI, 3, none⟩ = some (.int .i64 r2) := by rw [hwI, hbI]; exact row_cell w #[.int .i64 17, .int .i64 rd, .int .i64 r1, .int .i64 r2, .int .i64 imm] 70 3 (.int .i64 r2) rfl
  have z4 : wI.cell? ⟨bI, 4, none⟩ = some (.int .i64 imm) := by rw [hwI, hbI]; exact row_cell w #[.int .i64 17, .int .i64 rd, .int .i64 r1, .int .i64 r2, .int .i64 imm] 70 4 (.int .i64 imm) rfl
  have i0 : 0 ≤ imm % 4294967296 := by omega
  have i1 : imm % 4294967296 ≤ 4294967295 := by omega
  obtain ⟨hr0, hr1, hr2⟩ := hr
  have hS : ∀ (n : Nat) (v : Int), (setW (wI.drewN n) b rd v).cell? ⟨b, 32, none⟩ = some (.int .u32 p) := fun n v => set_cell hr0 hA
  have hSf : ∀ (n : Nat) (v : Int), (setW (wI.drewN n) b rd v).frozen? ⟨b, 32, none⟩ = false := fun n v => set_frozen hfpI
  have hS2 : ∀ (n : Nat) (v : Int), (setW (wI.drewN n).drew b rd v).cell? ⟨b, 32, none⟩ = some (.int .u32 p) := fun n v => set_cell (n := n + 1) hr0 hA
  have hSf2 : ∀ (n : Nat) (v : Int), (setW (wI.drewN n).drew b rd v).frozen? ⟨b, 32, none⟩ = false := fun n v => set_frozen (n := n + 1) hfpI
  have HD : ∀ n, Hid ((wI.drewN n).cell? ⟨b, rd, none⟩ = some (.int .u32 xd)) := fun n => Lib.hid (HG.out.cell hd (by simp))
  have HF : ∀ n, Hid ((wI.drewN n).frozen? ⟨b, rd, none⟩ = false) := fun n => Lib.hid (hfI)
  have HD2 : ∀ n, Hid ((wI.drewN n).drew.cell? ⟨b, rd, none⟩ = some (.int .u32 xd)) := fun n => HD (n + 1)
  have HF2 : ∀ n, Hid ((wI.drewN n).drew.frozen? ⟨b, rd, none⟩ = false) := fun n => HF (n + 1)
  have H86 : ∀ n, Hid (Calls Tryz.prog 58 #[.pointer (some ⟨b, 0, none⟩), .int .i64 17, .int .u32 ((x1 + imm) % 4294967296), .int .u32 x2] (wI.drewN n) fun e w' => e = .returned (.bool false) ∧ S w') := fun n => Lib.hid (HL.out _ (Fr.of_by0 (byDrewN HG.out n)))
  clear hx h1 h2 hgI
  go_enter Tryz.func34, Tryz.ntmps34
  iterate 40 (first | (first | with_reducible refine wp_exit ?_ | with_reducible refine past_then ?_ | with_reducible refine past_block rfl ?_ | with_reducible refine at_block ?_) | ((fail_if_success go_at_call 54); first | go_values | go_skip | go_guarded | go_step) | skip)
  rw [← hwI, ← hbI]
  clear hwI hbI
  go_quiet (fail)
  go_wp2_with (first | (first | with_reducible refine wp_exit ?_ | with_reducible refine past_then ?_ | with_reducible refine past_block rfl ?_ | with_reducible refine at_block ?_) | (go_at_call 54; (with_reducible refine (c54 p 4 p0 p1 (by decide) (by decide) _).mono ?_); rintro e w' ⟨rfl, rfl⟩))
  go_region_with (first | (go_at_call 54; (with_reducible refine (c54 x1 (imm % 4294967296) y0 y1 i0 i1 _).mono ?_); rintro e w' ⟨rfl, rfl⟩) | (go_at_call 58; (with_reducible refine Calls.mono (by first | exact (H86 _).out | exact (H86 (_ + 1)).out) ?_); rintro e w2 ⟨rfl, hs⟩; have hs2 := Lib.hid hs; obtain ⟨c32, f32⟩ := hSc.out _ hs; clear hs))
  all_goals
    go_wp2_with (first | (first | with_reducible refine wp_exit ?_ | with_reducible refine past_then ?_ | with_reducible refine past_block rfl ?_ | with_reducible refine at_block ?_))
    go_ret
    exact ⟨rfl, hs2.out⟩
set_option maxRecDepth 100000 in
set_option maxHeartbeats 2000000 in
theorem dv78_18t (b : Nat) (rd r1 r2 : Nat) (imm p x1 x2 : Int) (hr : rd < 32 ∧ r1 < 32 ∧ r2 < 32) (p0 : 0 ≤ p) (p1 : p ≤ 4294967295) (y0 : 0 ≤ x1) (y1 : x1 ≤ 4294967295) (u0 : 0 ≤ x2) (u1 : x2 ≤ 4294967295) (w : World) (hx : w.cell? ⟨b, 32, none⟩ = some (.int .u32 p))
    (h1 : w.cell? ⟨b, r1, none⟩ = some (.int .u32 x1)) (h2 : w.cell? ⟨b, r2, none⟩ = some (.int .u32 x2)) (xd : Int) (hd : w.cell? ⟨b, rd, none⟩ = some (.int .u32 xd)) (hf : w.frozen? ⟨b, rd, none⟩ = false) (hfp : w.frozen? ⟨b, 32, none⟩ = false) (S : World → Prop) (hSc : Hid (∀ w2, S w2 → w2.cell? ⟨b, 32, none⟩ = some (.int .u32 p) ∧ w2.frozen? ⟨b, 32, none⟩ = false)) (HL : Hid (∀ w1, Fr (fun _ => False) w w1 → Calls Tryz.prog 58 #[.pointer (some ⟨b, 0, none⟩), .int .i64 18, .int .u32 ((x1 + imm) % 4294967296), .int .u32 x2] w1 fun e w' => e = .returned (.bool true) ∧ S w')) :
    Calls Tryz.prog 34 #[.pointer (some ⟨b, 0, none⟩), .agg #[.int .i64 18, .int .i64 rd, .int .i64 r1, .int .i64 r2, .int .i64 imm]] w fun e w' => e = .returned (.bool true) ∧ ∃ w2, S w2 ∧ w' = w2.setCell ⟨b, 32, none⟩ (.int .u32 ((p + 4) % 4294967296)) := by
  obtain ⟨wI, hwI⟩ : ∃ wI : World, wI = w.alloc (.cells #[.int .i64 18, .int .i64 rd, .int .i64 r1, .int .i64 r2, .int .i64 imm] 70) := ⟨_, rfl⟩
  obtain ⟨bI, hbI⟩ : ∃ bI : Nat, bI = w.heap.size := ⟨_, rfl⟩
  have hgI : w.grownBy wI none := by rw [hwI]; exact byAlloc (byRefl w) _
  have HG := Lib.hid hgI
  have hfI : wI.frozen? ⟨b, rd, none⟩ = false := (frozen_kept hd hgI (by simp)).trans hf
  have hfpI : wI.frozen? ⟨b, 32, none⟩ = false := (frozen_kept hx hgI (by simp)).trans hfp
  have hA : wI.cell? ⟨b, 32, none⟩ = some (.int .u32 p) := hgI.cell hx (by simp)
  have hA1 : wI.cell? ⟨b, r1, none⟩ = some (.int .u32 x1) := hgI.cell h1 (by simp)
  have hA2 : wI.cell? ⟨b, r2, none⟩ = some (.int .u32 x2) := hgI.cell h2 (by simp)
  have z0 : wI.cell? ⟨bI, 0, none⟩ = some (.int .i64 18) := by rw [hwI, hbI]; exact row_cell w #[.int .i64 18, .int .i64 rd, .int .i64 r1, .int .i64 r2, .int .i64 imm] 70 0 (.int .i64 18) rfl
  have z1 : wI.cell? ⟨bI, 1, none⟩ = some (.int .i64 rd) := by rw [hwI, hbI]; exact row_cell w #[.int .i64 18, .int .i64 rd, .int .i64 r1, .int .i64 r2, .int .i64 imm] 70 1 (.int .i64 rd) rfl
  have z2 : wI.cell? ⟨bI, 2, none⟩ = some (.int .i64 r1) := by rw [hwI, hbI]; exact row_cell w #[.int .i64 18, .int .i64 rd, .int .i64 r1, .int .i64 r2, .int .i64 imm] 70 2 (.int .i64 r1) rfl
  have z3 : wI.cell? ⟨bI, 3, none⟩ = some (.int .i64 r2) := by rw [hwI, hbI]; exact row_cell w #[.int .i64 18, .int .i64 rd, .int .i64 r1, .int .i64 r2, .int .i64 imm] 70 3 (.int .i64 r2) rfl
  have z4 : wI.cell? ⟨bI, 4, none⟩ = some (.int .i64 imm) := by rw [hwI, hbI]; exact row_cell w #[.int .i64 18, .int .i64 rd, .int .i64 r1, .int .i64 r2, .int .i64 imm] 70 4 (.int .i64 imm) rfl
  have i0 : 0 ≤ imm % 4294967296 := by omega
  have i1 : imm % 4294967296 ≤ 4294967295 := by omega
  obtain ⟨hr0, hr1, hr2⟩ := hr
  have hS : ∀ (n : Nat) (v : Int), (setW (wI.drewN n) b rd v).cell? ⟨b, 32, none⟩ = some (.int .u32 p) := fun n v => set_cell hr0 hA
  have hSf : ∀ (n : Nat) (v : Int), (setW (wI.drewN n) b rd v).frozen? ⟨b, 32, none⟩ = false := fun n v => set_frozen hfpI
  have hS2 : ∀ (n : Nat) (v : Int), (setW (wI.drewN n).drew b rd v).cell? ⟨b, 32, none⟩ = some (.int .u32 p) := fun n v => set_cell (n := n + 1) hr0 hA
  have hSf2 : ∀ (n : Nat) (v : Int), (setW (wI.drewN n).drew b rd v).frozen? ⟨b, 32, none⟩ = false := fun n v => set_frozen (n := n + 1) hfpI
  have HD : ∀ n, Hid ((wI.drewN n).cell? ⟨b, rd, none⟩ = some (.int .u32 xd)) := fun n => Lib.hid (HG.out.cell hd (by simp))
  have HF : ∀ n, Hid ((wI.drewN n).frozen? ⟨b, rd, none⟩ = false) := fun n => Lib.hid (hfI)
  have HD2 : ∀ n, Hid ((wI.drewN n).drew.cell? ⟨b, rd, none⟩ = some (.int .u32 xd)) := fun n => HD (n + 1)
  have HF2 : ∀ n, Hid ((wI.drewN n).drew.frozen? ⟨b, rd, none⟩ = false) := fun n => HF (n + 1)
  have H86 : ∀ n, Hid (Calls Tryz.prog 58 #[.pointer (some ⟨b, 0, none⟩), .int .i64 18, .int .u32 ((x1 + imm) % 4294967296), .int .u32 x2] (wI.drewN n) fun e w' => e = .returned (.bool true) ∧ S w') := fun n => Lib.hid (HL.out _ (Fr.of_by0 (byDrewN HG.out n)))
  clear hx h1 h2 hgI
  go_enter Tryz.func34, Tryz.ntmps34
  iterate 40 (first | (first | with_reducible refine wp_exit ?_ | with_reducible refine past_then ?_ | with_reducible refine past_block rfl ?_ | with_reducible refine at_block ?_) | ((fail_if_success go_at_call 54); first | go_values | go_skip | go_guarded | go_step) | skip)
  rw [← hwI, ← hbI]
  clear hwI hbI
  go_quiet (fail)
  go_wp2_with (first | (first | with_reducible refine wp_exit ?_ | with_reducible refine past_then ?_ | with_reducible refine past_block rfl ?_ | with_reducible refine at_block ?_) | (go_at_call 54; (with_reducible refine (c54 p 4 p0 p1 (by decide) (by decide) _).mono ?_); rintro e w' ⟨rfl, rfl⟩))
  go_region_with (first | (go_at_call 54; (with_reducible refine (c54 x1 (imm % 4294967296) y0 y1 i0 i1 _).mono ?_); rintro e w' ⟨rfl, rfl⟩) | (go_at_call 58; (with_reducible refine Calls.mono (by first | exact (H86 _).out | exact (H86 (_ + 1)).out) ?_); rintro e w2 ⟨rfl, hs⟩; have hs2 := Lib.hid hs; obtain ⟨c32, f32⟩ := hSc.out _ hs; clear hs))
  all_goals
    go_wp2_with (first | (first | with_reducible refine wp_exit ?_ | with_reducible refine past_then ?_ | with_reducible refine past_block rfl ?_ | with_reducible refine at_block ?_))
    go_ret
    exact ⟨rfl, w2, hs2.out, rfl⟩
set_option maxRecDepth 100000 in
set_option maxHeartbeats 2000000 in
theorem dv78_18f (b : Nat) (rd r1 r2 : Nat) (imm p x1 x2 : Int) (hr : rd < 32 ∧ r1 < 32 ∧ r2 < 32) (p0 : 0 ≤ p) (p1 : p ≤ 4294967295) (y0 : 0 ≤ x1) (y1 : x1 ≤ 4294967295) (u0 : 0 ≤ x2) (u1 : x2 ≤ 4294967295) (w : World) (hx : w.cell? ⟨b, 32, none⟩ = some (.int .u32 p))
    (h1 : w.cell? ⟨b, r1, none⟩ = some (.int .u32 x1)) (h2 : w.cell? ⟨b, r2, none⟩ = some (.int .u32 x2)) (xd : Int) (hd : w.cell? ⟨b, rd, none⟩ = some (.int .u32 xd)) (hf : w.frozen? ⟨b, rd, none⟩ = false) (hfp : w.frozen? ⟨b, 32, none⟩ = false) (S : World → Prop) (hSc : Hid (∀ w2, S w2 → w2.cell? ⟨b, 32, none⟩ = some (.int .u32 p) ∧ w2.frozen? ⟨b, 32, none⟩ = false)) (HL : Hid (∀ w1, Fr (fun _ => False) w w1 → Calls Tryz.prog 58 #[.pointer (some ⟨b, 0, none⟩), .int .i64 18, .int .u32 ((x1 + imm) % 4294967296), .int .u32 x2] w1 fun e w' => e = .returned (.bool false) ∧ S w')) :
    Calls Tryz.prog 34 #[.pointer (some ⟨b, 0, none⟩), .agg #[.int .i64 18, .int .i64 rd, .int .i64 r1, .int .i64 r2, .int .i64 imm]] w fun e w' => e = .returned (.bool false) ∧ S w' := by
  obtain ⟨wI, hwI⟩ : ∃ wI : World, wI = w.alloc (.cells #[.int .i64 18, .int .i64 rd, .int .i64 r1, .int .i64 r2, .int .i64 imm] 70) := ⟨_, rfl⟩
  obtain ⟨bI, hbI⟩ : ∃ bI : Nat, bI = w.heap.size := ⟨_, rfl⟩
  have hgI : w.grownBy wI none := by rw [hwI]; exact byAlloc (byRefl w) _
  have HG := Lib.hid hgI
  have hfI : wI.frozen? ⟨b, rd, none⟩ = false := (frozen_kept hd hgI (by simp)).trans hf
  have hfpI : wI.frozen? ⟨b, 32, none⟩ = false := (frozen_kept hx hgI (by simp)).trans hfp
  have hA : wI.cell? ⟨b, 32, none⟩ = some (.int .u32 p) := hgI.cell hx (by simp)
  have hA1 : wI.cell? ⟨b, r1, none⟩ = some (.int .u32 x1) := hgI.cell h1 (by simp)
  have hA2 : wI.cell? ⟨b, r2, none⟩ = some (.int .u32 x2) := hgI.cell h2 (by simp)
  have z0 : wI.cell? ⟨bI, 0, none⟩ = some (.int .i64 18) := by rw [hwI, hbI]; exact row_cell w #[.int .i64 18, .int .i64 rd, .int .i64 r1, .int .i64 r2, .int .i64 imm] 70 0 (.int .i64 18) rfl
  have z1 : wI.cell? ⟨bI, 1, none⟩ = some (.int .i64 rd) := by rw [hwI, hbI]; exact row_cell w #[.int .i64 18, .int .i64 rd, .int .i64 r1, .int .i64 r2, .int .i64 imm] 70 1 (.int .i64 rd) rfl
  have z2 : wI.cell? ⟨bI, 2, none⟩ = some (.int .i64 r1) := by rw [hwI, hbI]; exact row_cell w #[.int .i64 18, .int .i64 rd, .int .i64 r1, .int .i64 r2, .int .i64 imm] 70 2 (.int .i64 r1) rfl
  have z3 : wI.cell? ⟨bI, 3, none⟩ = some (.int .i64 r2) := by rw [hwI, hbI]; exact row_cell w #[.int .i64 18, .int .i64 rd, .int .i64 r1, .int .i64 r2, .int .i64 imm] 70 3 (.int .i64 r2) rfl
  have z4 : wI.cell? ⟨bI, 4, none⟩ = some (.int .i64 imm) := by rw [hwI, hbI]; exact row_cell w #[.int .i64 18, .int .i64 rd, .int .i64 r1, .int .i64 r2, .int .i64 imm] 70 4 (.int .i64 imm) rfl
  have i0 : 0 ≤ imm % 4294967296 := by omega
  have i1 : imm % 4294967296 ≤ 4294967295 := by omega
  obtain ⟨hr0, hr1, hr2⟩ := hr
  have hS : ∀ (n : Nat) (v : Int), (setW (wI.drewN n) b rd v).cell? ⟨b, 32, none⟩ = some (.int .u32 p) := fun n v => set_cell hr0 hA
  have hSf : ∀ (n : Nat) (v : Int), (setW (wI.drewN n) b rd v).frozen? ⟨b, 32, none⟩ = false := fun n v => set_frozen hfpI
  have hS2 : ∀ (n : Nat) (v : Int), (setW (wI.drewN n).drew b rd v).cell? ⟨b, 32, none⟩ = some (.int .u32 p) := fun n v => set_cell (n := n + 1) hr0 hA
  have hSf2 : ∀ (n : Nat) (v : Int), (setW (wI.drewN n).drew b rd v).frozen? ⟨b, 32, none⟩ = false := fun n v => set_frozen (n := n + 1) hfpI
  have HD : ∀ n, Hid ((wI.drewN n).cell? ⟨b, rd, none⟩ = some (.int .u32 xd)) := fun n => Lib.hid (HG.out.cell hd (by simp))
  have HF : ∀ n, Hid ((wI.drewN n).frozen? ⟨b, rd, none⟩ = false) := fun n => Lib.hid (hfI)
  have HD2 : ∀ n, Hid ((wI.drewN n).drew.cell? ⟨b, rd, none⟩ = some (.int .u32 xd)) := fun n => HD (n + 1)
  have HF2 : ∀ n, Hid ((wI.drewN n).drew.frozen? ⟨b, rd, none⟩ = false) := fun n => HF (n + 1)
  have H86 : ∀ n, Hid (Calls Tryz.prog 58 #[.pointer (some ⟨b, 0, none⟩), .int .i64 18, .int .u32 ((x1 + imm) % 4294967296), .int .u32 x2] (wI.drewN n) fun e w' => e = .returned (.bool false) ∧ S w') := fun n => Lib.hid (HL.out _ (Fr.of_by0 (byDrewN HG.out n)))
  clear hx h1 h2 hgI
  go_enter Tryz.func34, Tryz.ntmps34
  iterate 40 (first | (first | with_reducible refine wp_exit ?_ | with_reducible refine past_then ?_ | with_reducible refine past_block rfl ?_ | with_reducible refine at_block ?_) | ((fail_if_success go_at_call 54); first | go_values | go_skip | go_guarded | go_step) | skip)
  rw [← hwI, ← hbI]
  clear hwI hbI
  go_quiet (fail)
  go_wp2_with (first | (first | with_reducible refine wp_exit ?_ | with_reducible refine past_then ?_ | with_reducible refine past_block rfl ?_ | with_reducible refine at_block ?_) | (go_at_call 54; (with_reducible refine (c54 p 4 p0 p1 (by decide) (by decide) _).mono ?_); rintro e w' ⟨rfl, rfl⟩))
  go_region_with (first | (go_at_call 54; (with_reducible refine (c54 x1 (imm % 4294967296) y0 y1 i0 i1 _).mono ?_); rintro e w' ⟨rfl, rfl⟩) | (go_at_call 58; (with_reducible refine Calls.mono (by first | exact (H86 _).out | exact (H86 (_ + 1)).out) ?_); rintro e w2 ⟨rfl, hs⟩; have hs2 := Lib.hid hs; obtain ⟨c32, f32⟩ := hSc.out _ hs; clear hs))
  all_goals
    go_wp2_with (first | (first | with_reducible refine wp_exit ?_ | with_reducible refine past_then ?_ | with_reducible refine past_block rfl ?_ | with_reducible refine at_block ?_))
    go_ret
    exact ⟨rfl, hs2.out⟩
end Go.Proofs.YthhahfggbjegmaaGreat
