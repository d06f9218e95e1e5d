/-
  Frames (layer 25): awake.
-/
import Derived.Test.YtbldglnfadnkeaaFaG
namespace Go.Proofs.Ytbldglnfadnkeaa
open Go.RowKit
set_option linter.unusedVariables false
set_option linter.unusedSimpArgs false
theorem qd_api_Slot_1_2 (w : World) (p1_m0 : Int) (p2_m0 : Int) : (Instr.build 42 #[(1, .int .i64 p1_m0), (2, .int .i64 p2_m0)]).run Try.prog w = .ok (.agg #[.string ⟨#[]⟩, .int .i64 p1_m0, .int .i64 p2_m0, .int .i64 0]) w := by simp [go_sem]
theorem qv_s_api_Slot_1 (w : World) (u0_p0 : ByteArray) (u0_m1 : Int) (u0_m2 : Int) (u0_m3 : Int) : (Instr.buildSlice 22 1 #[(0, .agg #[.string u0_p0, .int .i64 u0_m1, .int .i64 u0_m2, .int .i64 u0_m3])]).run Try.prog w = .ok (.slice (some ⟨w.heap.size, 0, none⟩) 1 1) (w.alloc (.cells #[.string u0_p0, .int .i64 u0_m1, .int .i64 u0_m2, .int .i64 u0_m3] 42)) := by simp [go_sem]
theorem qd_api_Proc_3_4 (w : World) (p3_m0 : Int) (p4_p0 : Option Addr) (p4_k0 p4_l0 : Nat) : (Instr.build 25 #[(3, .int .i64 p3_m0), (4, .slice p4_p0 p4_k0 p4_l0)]).run Try.prog w = .ok (.agg #[.string ⟨#[]⟩, .bool false, .int .i64 0, .int .i64 p3_m0, .slice p4_p0 p4_k0 p4_l0, .slice none 0 0]) w := by simp [go_sem]
theorem qzR_api_Proc (w : World) : ∃ w', (Instr.alloc 25 true (.tuple #[])).run Try.prog w = .ok (.pointer (some ⟨w.heap.size, 0, none⟩)) w' ∧ (Fr (fun _ => False) w w' ∧ Bx w' w.heap.size #[.string ⟨#[]⟩, .bool false, .int .i64 0, .int .i64 0, .slice none 0 0, .slice none 0 0] 25) := ⟨w.alloc (.cells #[.string ⟨#[]⟩, .bool false, .int .i64 0, .int .i64 0, .slice none 0 0, .slice none 0 0] 25), by simp [go_sem], fr_al (Fr.refl _ _) _, Bx.new _ _ _⟩
theorem qsA_api_Proc (w : World) (g : Nat) (z0 z1 z2 z3 z4 z5 : Value) (up0 : ByteArray) (up1 : Bool) (um2 : Int) (um3 : Int) (up4 : Option Addr) (uk4 ul4 : Nat) (up5 : Option Addr) (uk5 ul5 : Nat) (h : Bx w g #[z0, z1, z2, z3, z4, z5] 25) : ∃ w', (Instr.storeAt 25 (.pointer (some ⟨g, 0, none⟩)) (.agg #[.string up0, .bool up1, .int .i64 um2, .int .i64 um3, .slice up4 uk4 ul4, .slice up5 uk5 ul5])).run Try.prog w = .ok () w' ∧ (Fr (fun q => q = g) w w' ∧ Bx w' g #[.string up0, .bool up1, .int .i64 um2, .int .i64 um3, .slice up4 uk4 ul4, .slice up5 uk5 ul5] 25) := h.store 25 #[.string up0, .bool up1, .int .i64 um2, .int .i64 um3, .slice up4 uk4 ul4, .slice up5 uk5 ul5] (by kernel_rfl) rfl (by simp [Value.oneCell'])
theorem qlB_api_Proc (w : World) (g : Nat) (up0 : ByteArray) (up1 : Bool) (um2 : Int) (um3 : Int) (up4 : Option Addr) (uk4 ul4 : Nat) (up5 : Option Addr) (uk5 ul5 : Nat) (tt : TypeId) (h : Bx w g #[.string up0, .bool up1, .int .i64 um2, .int .i64 um3, .slice up4 uk4 ul4, .slice up5 uk5 ul5] tt) : (Instr.loadAt 25 (.pointer (some ⟨g, 0, none⟩))).run Try.prog w = .ok (.agg #[.string up0, .bool up1, .int .i64 um2, .int .i64 um3, .slice up4 uk4 ul4, .slice up5 uk5 ul5]) w := by
  have c0 := h.cell (j := 0) rfl
  have c1 := h.cell (j := 1) rfl
  have c2 := h.cell (j := 2) rfl
  have c3 := h.cell (j := 3) rfl
  have c4 := h.cell (j := 4) rfl
  have c5 := h.cell (j := 5) rfl
  simp [go_sem, c0, c1, c2, c3, c4, c5]
theorem qd_api_Seat_0_1 (w : World) (p0_m0 : Int) (p1_m0 : Int) : (Instr.build 44 #[(0, .int .i64 p0_m0), (1, .int .i64 p1_m0)]).run Try.prog w = .ok (.agg #[.int .i64 p0_m0, .int .i64 p1_m0]) w := by simp [go_sem]
theorem qd_api_Seat_1 (w : World) (p1_m0 : Int) : (Instr.build 44 #[(1, .int .i64 p1_m0)]).run Try.prog w = .ok (.agg #[.int .i64 0, .int .i64 p1_m0]) w := by simp [go_sem]
theorem qv_s_api_Seat_3 (w : World) (u0_m0 : Int) (u0_m1 : Int) (u1_m0 : Int) (u1_m1 : Int) (u2_m0 : Int) (u2_m1 : Int) : (Instr.buildSlice 26 3 #[(0, .agg #[.int .i64 u0_m0, .int .i64 u0_m1]), (1, .agg #[.int .i64 u1_m0, .int .i64 u1_m1]), (2, .agg #[.int .i64 u2_m0, .int .i64 u2_m1])]).run Try.prog w = .ok (.slice (some ⟨w.heap.size, 0, none⟩) 3 3) (w.alloc (.cells #[.int .i64 u0_m0, .int .i64 u0_m1, .int .i64 u1_m0, .int .i64 u1_m1, .int .i64 u2_m0, .int .i64 u2_m1] 44)) := by simp [go_sem]
theorem qk_frame_Lay (w : World) (vs : Array Value) : (callFunc 7 vs).run Try.prog w = .ok (.enter 7 vs) w := by simp [go_sem]
theorem qb_eql_api_Errno (w : World) (x y : Operand) (m n : Int) : ((do eqGuard .eql 32 x y (.int .i64 m) (.int .i64 n); binOp .eql 32 (.int .i64 m) (.int .i64 n) : Sem Value)).run Try.prog w = .ok (.bool (m == n)) w := by simp [go_sem]
theorem qk_frame_Kept (w : World) (vs : Array Value) : (callFunc 10 vs).run Try.prog w = .ok (.enter 10 vs) w := by simp [go_sem]
theorem qk_frame_Slot (w : World) (vs : Array Value) : (callFunc 11 vs).run Try.prog w = .ok (.enter 11 vs) w := by simp [go_sem]
def exL : List (Int × Int) := [(9, -1), (8, -1), (0, 0)]
theorem ex_seats {w : World} {g : Nat} {t : TypeId} (h : Bx w g #[.int .i64 9, .int .i64 (-1), .int .i64 8, .int .i64 (-1), .int .i64 0, .int .i64 0] t) : SeatsAt w (some ⟨g, 0, none⟩) exL := fun k hk => by
  have hk : k < 3 := hk
  refine ⟨g, 0, rfl, ?_⟩
  match k, hk with
  | 0, _ => exact ⟨h.cell (j := 0) rfl, h.cell (j := 1) rfl⟩
  | 1, _ => exact ⟨h.cell (j := 2) rfl, h.cell (j := 3) rfl⟩
  | 2, _ => exact ⟨h.cell (j := 4) rfl, h.cell (j := 5) rfl⟩
theorem ex_slots {w : World} {g : Nat} {t : TypeId} {nm : ByteArray} {x y : Int} (h : Bx w g #[.string nm, .int .i64 5, .int .i64 x, .int .i64 y] t) : SlotsAt w (some ⟨g, 0, none⟩) [5] := fun k hk => by
  have hk : k < 1 := hk
  match k, hk with
  | 0, _ => exact ⟨g, 0, nm, x, y, rfl, h.cell (j := 0) rfl, h.cell (j := 1) rfl, h.cell (j := 2) rfl, h.cell (j := 3) rfl⟩
theorem ex_ok : SeatsOk exL := by unfold SeatsOk exL NM; decide
theorem ex_gvn : gvn exL = [8, 9] := by rw [gvn_svd ex_ok]; unfold svd exL NM hasR; decide
theorem ex_lay {w w' : World} {e : Ending} (h : LayP [5] 3 3 1 (gvn exL) w e w') : FrOk w w' e 24 [8, 9] 12 [16] := by
  rw [ex_gvn] at h
  unfold LayP at h
  rw [if_neg (by decide), if_neg (by unfold fstI; decide)] at h
  rw [show (24 : Int) = fstI [8, 9] 1 + offs [5] [5].length by unfold fstI; decide, show [(16 : Int)] = obsL [5] (fstI [8, 9] 1) [5].length by unfold fstI; decide]
  exact h
set_option maxRecDepth 100000 in
theorem t_awake (w : World) : Calls Try.prog 6 #[] w fun e w' => e = .returned (.bool true) ∧ Fr (fun _ => False) w w' := by
  have ff := Fr.refl (fun _ => False) w
  refine calls_tw Try.func6 rfl rfl (Nat.le_of_ble_eq_true rfl) ?_
  refine TW.sreg ?_
  refine WL.op rfl rfl rfl (Go.Proofs.Ytbldglnfadnkeaa.W.quiet_assign rfl rfl) ?_
  refine WL.nil ?_
  refine TW.sreg ?_
  refine O.bld rfl rfl rfl rfl rfl (qd_api_Slot_1_2 _ _ _) ?_
  have lw1 := ff.size
  refine O.bslR rfl rfl rfl rfl rfl (qv_s_api_Slot_1 w _ _ _ _) ?_
  rintro wa1 ⟨fa1, bx1⟩
  replace ff := ff.trans fa1
  refine O.bld rfl rfl rfl rfl rfl (qd_api_Proc_3_4 _ _ _ _ _) ?_
  have lt2_bx1 := bx1.lt
  have lw2 := ff.size
  refine O.allocR rfl rfl rfl rfl (qzR_api_Proc wa1) ?_
  rintro wa2 ⟨fa2, bx2⟩
  replace bx1 := bx1.fr fa2 id
  replace ff := ff.trans fa2
  refine O.storeR rfl rfl rfl rfl rfl (qsA_api_Proc wa2 _ _ _ _ _ _ _ _ _ _ _ _ _ _ _ _ _ bx2) ?_
  rintro wa3 ⟨fa3, bx2x⟩
  replace bx1 := bx1.fr fa3 (fun e => by omega)
  replace ff := ff.trans' fa3 (fun q hq e => by omega)
  clear bx2
  have bx2 := bx2x
  clear bx2x
  refine WL.nil ?_
  refine TW.sreg ?_
  refine WL.ld rfl rfl rfl rfl rfl (qlB_api_Proc _ _ _ _ _ _ _ _ _ _ _ _ _ bx2) ?_
  refine O.bld rfl rfl rfl rfl rfl (qd_api_Seat_0_1 _ _ _) ?_
  refine O.bld rfl rfl rfl rfl rfl (qd_api_Seat_0_1 _ _ _) ?_
  refine O.bld rfl rfl rfl rfl rfl (qd_api_Seat_1 _ _) ?_
  have lt3_bx1 := bx1.lt
  have lt3_bx2 := bx2.lt
  have lw3 := ff.size
  refine O.bslR rfl rfl rfl rfl rfl (qv_s_api_Seat_3 wa3 _ _ _ _ _ _) ?_
  rintro wa4 ⟨fa4, bx3⟩
  replace bx1 := bx1.fr fa4 id
  replace bx2 := bx2.fr fa4 id
  replace ff := ff.trans fa4
  refine WL.call (hr := (t_lay ⟨#[]⟩ false 0 3 1 _ _ [5] none 0 0 _ _ exL (by decide) (by decide) (fun k hk => (by have hk : k < 1 := hk; obtain rfl : k = 0 := (by omega); decide)) _ (ex_slots bx1) (ex_seats bx3)).mono fun e w' q => ex_lay q) rfl rfl rfl rfl rfl (fun W => qk_frame_Lay W _) ?_
  rintro e w5 ⟨a, cc, b, d, rfl, hA, hB, f5⟩
  refine ⟨_, rfl, ?_⟩
  replace bx1 := bx1.fr f5 id
  replace bx2 := bx2.fr f5 id
  replace bx3 := bx3.fr f5 id
  replace ff := ff.trans f5
  obtain ⟨ga, oa, rfl, ha0⟩ := hA 0 (by decide)
  obtain ⟨gb, ob, rfl, hb0⟩ := hB 0 (by decide)
  have ha0 : w5.cell? ⟨ga, oa + 0, none⟩ = some (.int .i64 8) := ha0
  have hb0 : w5.cell? ⟨gb, ob + 0, none⟩ = some (.int .i64 16) := hb0
  have lga : ga < w5.heap.size := World.block_lt_of_cell? _ _ ha0
  have lgb : gb < w5.heap.size := World.block_lt_of_cell? _ _ hb0
  refine WL.op rfl rfl rfl (Go.Proofs.Ytbldglnfadnkeaa.W.quiet_move rfl rfl) ?_
  refine O.ext rfl rfl rfl rfl rfl rfl ?_
  refine O.ext rfl rfl rfl rfl rfl rfl ?_
  have lt4_bx1 := bx1.lt
  have lt4_bx2 := bx2.lt
  have lt4_bx3 := bx3.lt
  have lw4 := ff.size
  refine O.allocR rfl rfl rfl rfl (qzR_api_Frame w5) ?_
  rintro wa5 ⟨fa5, bx4⟩
  replace bx1 := bx1.fr fa5 id
  replace bx2 := bx2.fr fa5 id
  replace bx3 := bx3.fr fa5 id
  replace ha0 := fa5.cell ha0 id
  replace hb0 := fa5.cell hb0 id
  replace ff := ff.trans fa5
  refine O.storeR rfl rfl rfl rfl rfl (qsA_api_Frame wa5 _ _ _ _ _ _ _ _ _ _ _ _ _ bx4) ?_
  rintro wa6 ⟨fa6, bx4x⟩
  replace bx1 := bx1.fr fa6 (fun e => by omega)
  replace bx2 := bx2.fr fa6 (fun e => by omega)
  replace bx3 := bx3.fr fa6 (fun e => by omega)
  replace ha0 := fa6.cell ha0 (fun e => by have e : ga = _ := e; omega)
  replace hb0 := fa6.cell hb0 (fun e => by have e : gb = _ := e; omega)
  replace ff := ff.trans' fa6 (fun q hq e => by omega)
  clear bx4
  have bx4 := bx4x
  clear bx4x
  refine WL.op rfl rfl rfl (Go.Proofs.Ytbldglnfadnkeaa.W.quiet_assign rfl rfl) ?_
  refine WL.nil ?_
  refine TW.sreg ?_
  refine WL.op rfl rfl rfl (Go.Proofs.Ytbldglnfadnkeaa.W.quiet_move rfl rfl) ?_
  refine WL.op rfl rfl rfl (Go.Proofs.Ytbldglnfadnkeaa.W.quiet_bin rfl rfl rfl (fun W => qb_eql_api_Errno W _ _ _ _)) ?_
  refine O.split (fun hb => ?_) (fun hb => by exfalso; revert hb; first | (simp; done) | (simp; omega))
  refine WL.op rfl rfl rfl (Go.Proofs.Ytbldglnfadnkeaa.W.quiet_move rfl rfl) ?_
  refine WL.op rfl rfl rfl (Go.Proofs.Ytbldglnfadnkeaa.W.quiet_field rfl rfl (fun W => (qa_api_Frame_0 W _ _))) ?_
  refine WL.ld rfl rfl rfl rfl rfl (ql_int _ _ _ (bx4.cell (j := 0) rfl)) ?_
  refine WL.op rfl rfl rfl (Go.Proofs.Ytbldglnfadnkeaa.W.quiet_bin rfl rfl rfl (fun W => qb_eql_int W _ _ _ _)) ?_
  refine O.split (fun hb => ?_) (fun hb => by exfalso; revert hb; first | (simp; done) | (simp; omega))
  refine WL.op rfl rfl rfl (Go.Proofs.Ytbldglnfadnkeaa.W.quiet_pick rfl rfl rfl) ?_
  refine WL.op rfl rfl rfl (Go.Proofs.Ytbldglnfadnkeaa.W.quiet_move rfl rfl) ?_
  refine WL.op rfl rfl rfl (Go.Proofs.Ytbldglnfadnkeaa.W.quiet_field rfl rfl (fun W => (qa_api_Frame_1 W _ _))) ?_
  refine WL.ld rfl rfl rfl rfl rfl (ql_s_int _ _ _ _ _ (bx4.cell (j := 1) rfl)) ?_
  refine O.len rfl rfl rfl rfl rfl (qn_s_int _ _ _ _) ?_
  refine WL.op rfl rfl rfl (Go.Proofs.Ytbldglnfadnkeaa.W.quiet_bin rfl rfl rfl (fun W => qb_eql_int W _ _ _ _)) ?_
  refine O.split (fun hb => ?_) (fun hb => by exfalso; revert hb; first | (simp; done) | (simp; omega))
  refine WL.op rfl rfl rfl (Go.Proofs.Ytbldglnfadnkeaa.W.quiet_pick rfl rfl rfl) ?_
  refine WL.op rfl rfl rfl (Go.Proofs.Ytbldglnfadnkeaa.W.quiet_move rfl rfl) ?_
  refine WL.op rfl rfl rfl (Go.Proofs.Ytbldglnfadnkeaa.W.quiet_field rfl rfl (fun W => (qa_api_Frame_1 W _ _))) ?_
  refine WL.ld rfl rfl rfl rfl rfl (ql_s_int _ _ _ _ _ (bx4.cell (j := 1) rfl)) ?_
  refine O.ixa rfl rfl rfl rfl rfl rfl (qi_s_int _ _ _ _ _ 0 (by decide)) ?_
  refine WL.ld rfl rfl rfl rfl rfl (ql_int _ _ _ ha0) ?_
  refine WL.op rfl rfl rfl (Go.Proofs.Ytbldglnfadnkeaa.W.quiet_bin rfl rfl rfl (fun W => qb_eql_int W _ _ _ _)) ?_
  refine O.split (fun hb => ?_) (fun hb => by exfalso; revert hb; first | (simp; done) | (simp; omega))
  refine WL.op rfl rfl rfl (Go.Proofs.Ytbldglnfadnkeaa.W.quiet_pick rfl rfl rfl) ?_
  refine WL.op rfl rfl rfl (Go.Proofs.Ytbldglnfadnkeaa.W.quiet_move rfl rfl) ?_
  refine WL.ld rfl rfl rfl rfl rfl (qlB_api_Frame _ _ _ _ _ _ _ _ _ _ _ bx4) ?_
  refine WL.call (hr := t_kept 24 _ _ _ 12 _ _ _ 1 (by decide) (by decide) _) rfl rfl rfl rfl rfl (fun W => qk_frame_Kept W _) ?_
  rintro e w6 ⟨rfl, f6⟩
  refine ⟨_, rfl, ?_⟩
  replace bx1 := bx1.fr f6 id
  replace bx2 := bx2.fr f6 id
  replace bx3 := bx3.fr f6 id
  replace bx4 := bx4.fr f6 id
  replace ha0 := f6.cell ha0 id
  replace hb0 := f6.cell hb0 id
  replace ff := ff.trans f6
  refine WL.op rfl rfl rfl (Go.Proofs.Ytbldglnfadnkeaa.W.quiet_bin rfl rfl rfl (fun W => qb_eql_int W _ _ _ _)) ?_
  refine O.split (fun hb => ?_) (fun hb => by exfalso; revert hb; first | (simp; done) | (simp; omega))
  refine WL.op rfl rfl rfl (Go.Proofs.Ytbldglnfadnkeaa.W.quiet_pick rfl rfl rfl) ?_
  refine WL.op rfl rfl rfl (Go.Proofs.Ytbldglnfadnkeaa.W.quiet_move rfl rfl) ?_
  refine WL.ld rfl rfl rfl rfl rfl (qlB_api_Frame _ _ _ _ _ _ _ _ _ _ _ bx4) ?_
  refine WL.call (hr := t_slot 24 _ _ _ 12 _ _ _ 0 (by decide) (by decide) (by decide) (by decide) _) rfl rfl rfl rfl rfl (fun W => qk_frame_Slot W _) ?_
  rintro e w7 ⟨rfl, f7⟩
  refine ⟨_, rfl, ?_⟩
  replace bx1 := bx1.fr f7 id
  replace bx2 := bx2.fr f7 id
  replace bx3 := bx3.fr f7 id
  replace bx4 := bx4.fr f7 id
  replace ha0 := f7.cell ha0 id
  replace hb0 := f7.cell hb0 id
  replace ff := ff.trans f7
  refine WL.op rfl rfl rfl (Go.Proofs.Ytbldglnfadnkeaa.W.quiet_bin rfl rfl rfl (fun W => qb_eql_int W _ _ _ _)) ?_
  refine O.split (fun hb => ?_) (fun hb => by exfalso; revert hb; first | (simp; done) | (simp; omega))
  refine WL.op rfl rfl rfl (Go.Proofs.Ytbldglnfadnkeaa.W.quiet_pick rfl rfl rfl) ?_
  refine WL.op rfl rfl rfl (Go.Proofs.Ytbldglnfadnkeaa.W.quiet_move rfl rfl) ?_
  refine WL.op rfl rfl rfl (Go.Proofs.Ytbldglnfadnkeaa.W.quiet_field rfl rfl (fun W => (qa_api_Frame_3 W _ _))) ?_
  refine WL.ld rfl rfl rfl rfl rfl (ql_s_int _ _ _ _ _ (bx4.cell (j := 3) rfl)) ?_
  refine O.len rfl rfl rfl rfl rfl (qn_s_int _ _ _ _) ?_
  refine WL.op rfl rfl rfl (Go.Proofs.Ytbldglnfadnkeaa.W.quiet_bin rfl rfl rfl (fun W => qb_eql_int W _ _ _ _)) ?_
  refine O.split (fun hb => ?_) (fun hb => by exfalso; revert hb; first | (simp; done) | (simp; omega))
  refine WL.op rfl rfl rfl (Go.Proofs.Ytbldglnfadnkeaa.W.quiet_pick rfl rfl rfl) ?_
  refine WL.op rfl rfl rfl (Go.Proofs.Ytbldglnfadnkeaa.W.quiet_move rfl rfl) ?_
  refine WL.op rfl rfl rfl (Go.Proofs.Ytbldglnfadnkeaa.W.quiet_field rfl rfl (fun W => (qa_api_Frame_3 W _ _))) ?_
  refine WL.ld rfl rfl rfl rfl rfl (ql_s_int _ _ _ _ _ (bx4.cell (j := 3) rfl)) ?_
  refine O.ixa rfl rfl rfl rfl rfl rfl (qi_s_int _ _ _ _ _ 0 (by decide)) ?_
  refine WL.ld rfl rfl rfl rfl rfl (ql_int _ _ _ hb0) ?_
  refine WL.op rfl rfl rfl (Go.Proofs.Ytbldglnfadnkeaa.W.quiet_bin rfl rfl rfl (fun W => qb_eql_int W _ _ _ _)) ?_
  refine O.split (fun hb => ?_) (fun hb => by exfalso; revert hb; first | (simp; done) | (simp; omega))
  refine WL.op rfl rfl rfl (Go.Proofs.Ytbldglnfadnkeaa.W.quiet_pick rfl rfl rfl) ?_
  refine WL.op rfl rfl rfl (Go.Proofs.Ytbldglnfadnkeaa.W.quiet_assign rfl rfl) ?_
  refine WL.nil ?_
  refine TW.rt ?_
  refine bodyw_ret rfl rfl ?_
  exact ⟨rfl, ff⟩
end Go.Proofs.Ytbldglnfadnkeaa
