/-
  A step of the document's own machine (layer 3): the walks, over contracts of Decode and of do.
-/
import Derived.Test.YthhahfggbjegmaaGreatQRmO
import Derived.Test.YthhahfggbjegmaaGreatQDevN
import Derived.Test.YthhahfggbjegmaaGreatQTab
import Derived.Lib.Hide
import Derived.Deep.RegionWith
import Derived.Deep.QuietTactic
import Derived.BigQuiet
import Derived.Outline
import Derived.BigRegion
import Derived.Deep.DeepCutAuto
namespace Go.Proofs.YthhahfggbjegmaaGreat
open Go.RowKit
set_option linter.unusedVariables false
set_option linter.unusedSimpArgs false
set_option maxRecDepth 100000 in
set_option maxHeartbeats 4000000 in
theorem rm_step_dec (rb n c k cb co : Nat) (u er : Int) (he : er ≠ 0) (w : World) (h : StepFacts w rb n c k cb co u) (hf : w.frozen? ⟨rb, 9, none⟩ = false)
    (HD : Hid (∀ w1, Fr (fun _ => False) w w1 → Calls Tryz.prog 31 #[.int .u32 u] w1 fun e w' => e = .returned (.tuple #[.agg #[.int .i64 0, .int .i64 0, .int .i64 0, .int .i64 0, .int .i64 0], .int .i64 er]) ∧ Fr (fun _ => False) w1 w')) :
    Calls Tryz.prog 17 #[.pointer (some ⟨rb, 0, none⟩)] w fun e w' => e = .returned (.tuple #[]) ∧ ∃ w2, Fr (fun _ => False) w w2 ∧ w' = w2.setCell ⟨rb, 9, none⟩ (.int .i64 2) := by
  obtain ⟨hx, hp, hc, hk, hk4, hu⟩ := h
  have e1 : (er != 0) = true := by rw [bne_iff_ne]; exact he
  have e2 : (er == 0) = false := by rw [beq_eq_false_iff_ne]; exact he
  clear he
  obtain ⟨p, hpp⟩ : ∃ p : Int, p = ((4 * k : Nat) : Int) := ⟨_, rfl⟩
  have qq1 : p % 4 = 0 := by omega
  have qq2 : p / 4 = (k : Int) := by omega
  have p0 : 0 ≤ p := by omega
  have p1 : p ≤ 4294967295 := by omega
  have e3 : (p % 4 != 0) = false := by rw [bne_eq_false_iff_eq]; exact qq1
  have e4 : decide ((n : Int) ≤ p / 4) = false := decide_eq_false (by omega)
  have k0 : 0 ≤ p / 4 := by omega
  have k1 : p / 4 < (n : Int) := by omega
  have k2 : (p / 4).toNat = k := by omega
  rw [← hpp] at hp
  have HF := Lib.hid (Fr.refl (fun _ => False) w)
  clear hpp qq1
  go_enter Tryz.func17, Tryz.ntmps17
  go_wp2
  go_quiet (fail)
  go_wp2
  obtain ⟨w3, hw3⟩ : ∃ w3 : World, w3 = w.drewN nq := ⟨_, rfl⟩
  have HQ3 : Hid (Fr (fun _ => False) w w3) := by rw [hw3]; exact Lib.hid (HF.out.drewN nq)
  have d4 : w3.drew.cell? ⟨rb, 4, none⟩ = some (.int .i64 p) := by rw [hw3]; exact hp
  have d0 : w3.drew.cell? ⟨rb, 0, none⟩ = some (.slice (some ⟨cb, co, none⟩) n c) := by rw [hw3]; exact hc
  have du : w3.drew.cell? ⟨cb, co + k, none⟩ = some (.int .u32 u) := by rw [hw3]; exact hu
  rw [← hw3]
  clear hw3
  go_cut [2, 3] (fun s2 s3 wx => StepCut w 0 0 0 0 0 er s2 s3 wx)
  case first =>
    have t3 : IntKind.i64.wrap (k : Int) = k := by rw [IntKind.wrap_i64]; omega
    have t1 : p.tdiv 4 = (k : Int) := by rw [Int.tdiv_eq_ediv_of_nonneg p0]; omega
    have t4 : (0 : Int) ≤ k := by omega
    have t5 : (k : Int) < n := by omega
    have HB : Hid (Fr (fun _ => False) w ((w3.alloc (.cells #[.int .i64 0, .int .i64 0, .int .i64 0, .int .i64 0, .int .i64 0] 66)).drew)) := Lib.hid ((HQ3.out.trans (Fr.of_by0 (byAlloc (byRefl w3) _))).drewN 1)
    have hsz : Hid (w.heap.size ≤ w3.heap.size) := Lib.hid HQ3.out.size
    have hZ : Hid (Fr (fun _ => False) w (w3.alloc (.cells #[.int .i64 0, .int .i64 0, .int .i64 0, .int .i64 0, .int .i64 0] 66))) := Lib.hid (HQ3.out.trans (Fr.of_by0 (byAlloc (byRefl w3) _)))
    have dZ4 : (w3.alloc (.cells #[.int .i64 0, .int .i64 0, .int .i64 0, .int .i64 0, .int .i64 0] 66)).cell? ⟨rb, 4, none⟩ = some (.int .i64 p) := hZ.out.cell hp id
    have dZ0 : (w3.alloc (.cells #[.int .i64 0, .int .i64 0, .int .i64 0, .int .i64 0, .int .i64 0] 66)).cell? ⟨rb, 0, none⟩ = some (.slice (some ⟨cb, co, none⟩) n c) := hZ.out.cell hc id
    have dZu : (w3.alloc (.cells #[.int .i64 0, .int .i64 0, .int .i64 0, .int .i64 0, .int .i64 0] 66)).cell? ⟨cb, co + k, none⟩ = some (.int .u32 u) := hZ.out.cell hu id
    have l1 : rb < w3.heap.size := Nat.lt_of_lt_of_le (World.block_lt_of_cell? w _ hx) HQ3.out.size
    have l2 : cb < w3.heap.size := Nat.lt_of_lt_of_le (World.block_lt_of_cell? w _ hu) HQ3.out.size
    have n2 : cb ≠ w3.heap.size := by omega
    have HQ : Hid (Fr (fun _ => False) w w3.drew) := Lib.hid (HQ3.out.drewN 1)
    go_region_with (first | (go_at_call 31; (with_reducible refine (HD.out _ HB.out).mono ?_); rintro e w4 ⟨rfl, hg⟩; obtain ⟨b0, y0⟩ := box5 hg 0 (by decide); obtain ⟨b1, y1⟩ := box5 hg 1 (by decide); obtain ⟨b2, y2⟩ := box5 hg 2 (by decide); obtain ⟨b3, y3⟩ := box5 hg 3 (by decide); obtain ⟨b4, y4⟩ := box5 hg 4 (by decide); have HVa := Lib.hid (HB.out.trans hg); have g9 := HVa.out.cell hx id; have f9 := (HVa.out.frozen hx id).trans hf; clear hg) | (go_at_call 31; (with_reducible refine (HD.out _ HQ.out).mono ?_); rintro e w4 ⟨rfl, hg⟩; have HVb := Lib.hid (HQ.out.trans hg); have g9 := HVb.out.cell hx id; have f9 := (HVb.out.frozen hx id).trans hf; have l4 : rb < w4.heap.size := World.block_lt_of_cell? w4 _ g9; clear hg))
    all_goals
      go_wp2_with fail
      go_meet
      first
        | exact cutB HVb.out
        | exact cutA HVa.out hsz.out b0 b1 b2 b3 b4
  case rest =>
    obtain ⟨g, rfl, rfl, HW, c0, c1, c2, c3, c4⟩ := hcut
    have g9 := HW.out.cell hx id
    have f9 := (HW.out.frozen hx id).trans hf
    go_wp2
    exact bodyPost_ret (v := .tuple #[]) (results_none rfl _ _ _) rfl ⟨rfl, _, HW.out, rfl⟩
end Go.Proofs.YthhahfggbjegmaaGreat
