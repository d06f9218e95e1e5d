/-
  The contract of execute (layer 3) at lui.
-/
import Derived.Test.YtipfefkddnogjaaDevJ
import Derived.Test.YtipfefkddnogjaaCode
import Derived.Outline
import Derived.BigRegion
import Derived.RangeFuncOwn
namespace Go.Proofs.Ytipfefkddnogjaa
open Go.RowKit
set_option linter.unusedVariables false
set_option linter.unusedSimpArgs false
theorem set_cell {w : World} {n b r : Nat} {v : Int} {x : Value} (hr : r < 32) (h : w.cell? ⟨b, 32, none⟩ = some x) : (setW (w.drewN n) b r v).cell? ⟨b, 32, none⟩ = some x := by
  unfold setW
  split
  · exact h
  · exact (World.cell?_setCell_other _ _ _ _ (fun h => by injection h with _ h2 _; omega)).trans h
theorem set_frozen {w : World} {n b r : Nat} {v : Int} {a : Addr} (h : w.frozen? a = false) : (setW (w.drewN n) b r v).frozen? a = false := by
  unfold setW
  split
  · exact h
  · exact (World.frozen?_setCell _ _ _ _).trans h
set_option maxRecDepth 100000 in
set_option maxHeartbeats 2000000 in
theorem c78_1 (b : Nat) (rd r1 r2 : Nat) (imm p x1 x2 : Int) (hr : rd < 32 ∧ r1 < 32 ∧ r2 < 32) (p0 : 0 ≤ p) (p1 : p ≤ 4294967295) (w : World) (hx : w.cell? ⟨b, 32, none⟩ = some (.int .u32 p))
    (h1 : w.cell? ⟨b, r1, none⟩ = some (.int .u32 x1)) (h2 : w.cell? ⟨b, r2, none⟩ = some (.int .u32 x2)) (xd : Int) (hd : w.cell? ⟨b, rd, none⟩ = some (.int .u32 xd)) (hf : w.frozen? ⟨b, rd, none⟩ = false) (hfp : w.frozen? ⟨b, 32, none⟩ = false) :
    Calls Try.prog 78 #[.pointer (some ⟨b, 0, none⟩), .agg #[.int .i64 1, .int .i64 rd, .int .i64 r1, .int .i64 r2, .int .i64 imm]] w fun e w' => e = .returned (.bool true) ∧ ∃ wI j, w.grownBy wI none ∧ w' = (setW (wI.drewN j) b rd (imm % 4294967296)).setCell ⟨b, 32, none⟩ (.int .u32 ((p + 4) % 4294967296)) := by
  obtain ⟨wI, hwI⟩ : ∃ wI : World, wI = w.alloc (.cells #[.int .i64 1, .int .i64 rd, .int .i64 r1, .int .i64 r2, .int .i64 imm] 23) := ⟨_, rfl⟩
  obtain ⟨bI, hbI⟩ : ∃ bI : Nat, bI = w.heap.size := ⟨_, rfl⟩
  have hgI : w.grownBy wI none := by rw [hwI]; exact byAlloc (byRefl w) _
  have HG := Lib.hid hgI
  have hfI : wI.frozen? ⟨b, rd, none⟩ = false := (frozen_kept hd hgI (by simp)).trans hf
  have hfpI : wI.frozen? ⟨b, 32, none⟩ = false := (frozen_kept hx hgI (by simp)).trans hfp
  have hA : wI.cell? ⟨b, 32, none⟩ = some (.int .u32 p) := hgI.cell hx (by simp)
  have hA1 : wI.cell? ⟨b, r1, none⟩ = some (.int .u32 x1) := hgI.cell h1 (by simp)
  have hA2 : wI.cell? ⟨b, r2, none⟩ = some (.int .u32 x2) := hgI.cell h2 (by simp)
  have z0 : wI.cell? ⟨bI, 0, none⟩ = some (.int .i64 1) := by rw [hwI, hbI]; exact row_cell w #[.int .i64 1, .int .i64 rd, .int .i64 r1, .int .i64 r2, .int .i64 imm] 23 0 (.int .i64 1) rfl
  have z1 : wI.cell? ⟨bI, 1, none⟩ = some (.int .i64 rd) := by rw [hwI, hbI]; exact row_cell w #[.int .i64 1, .int .i64 rd, .int .i64 r1, .int .i64 r2, .int .i64 imm] 23 1 (.int .i64 rd) rfl
  have z2 : wI.cell? ⟨bI, 2, none⟩ = some (.int .i64 r1) := by rw [hwI, hbI]; exact row_cell w #[.int .i64 1, .int .i64 rd, .int .i64 r1, .int .i64 r2, .int .i64 imm] 23 2 (.int .i64 r1) rfl
  have z3 : wI.cell? ⟨bI, 3, none⟩ = some (.int .i64 r2) := by rw [hwI, hbI]; exact row_cell w #[.int .i64 1, .int .i64 rd, .int .i64 r1, .int .i64 r2, .int .i64 imm] 23 3 (.int .i64 r2) rfl
  have z4 : wI.cell? ⟨bI, 4, none⟩ = some (.int .i64 imm) := by rw [hwI, hbI]; exact row_cell w #[.int .i64 1, .int .i64 rd, .int .i64 r1, .int .i64 r2, .int .i64 imm] 23 4 (.int .i64 imm) rfl
  obtain ⟨hr0, hr1, hr2⟩ := hr
  clear hx h1 h2 hgI
  go_enter Try.func78, Try.ntmps78
  iterate 40 (first | (first | with_reducible refine wp_exit ?_ | with_reducible refine past_then ?_ | with_reducible refine past_block rfl ?_ | with_reducible refine at_block ?_) | ((fail_if_success go_at_call 82); first | go_values | go_skip | go_guarded | go_step) | skip)
  rw [← hwI, ← hbI]
  clear hwI hbI
  have hS : ∀ (n : Nat) (v : Int), (setW (wI.drewN n) b rd v).cell? ⟨b, 32, none⟩ = some (.int .u32 p) := fun n v => set_cell hr0 hA
  have hSf : ∀ (n : Nat) (v : Int), (setW (wI.drewN n) b rd v).frozen? ⟨b, 32, none⟩ = false := fun n v => set_frozen hfpI
  have HD : ∀ n, Hid ((wI.drewN n).cell? ⟨b, rd, none⟩ = some (.int .u32 xd)) := fun n => Lib.hid (HG.out.cell hd (by simp))
  have HF : ∀ n, Hid ((wI.drewN n).frozen? ⟨b, rd, none⟩ = false) := fun n => Lib.hid (hfI)
  go_quiet (fail)
  go_wp2_with (first | (first | with_reducible refine wp_exit ?_ | with_reducible refine past_then ?_ | with_reducible refine past_block rfl ?_ | with_reducible refine at_block ?_) | (go_at_call 82; (with_reducible refine (c82 p 4 p0 p1 (by decide) (by decide) _).mono ?_); rintro e w' ⟨rfl, rfl⟩) | (go_at_call 83; (with_reducible refine (c83 b rd _ xd hr0 _ (HD _).out (HF _).out).mono ?_); rintro e w' ⟨rfl, rfl⟩))
  go_ret
  exact ⟨rfl, _, _, HG.out, rfl⟩
end Go.Proofs.Ytipfefkddnogjaa
