/-
  Listing (layer 6): the line of any instruction, walked.
-/
import Derived.Test.YtlagdgkjpnocfaaGreatDoorQLtI
namespace Go.Proofs.YtlagdgkjpnocfaaGreatDoor
open Go.RowKit
set_option linter.unusedVariables false
set_option linter.unusedSimpArgs false
theorem qxR_api_Inst (w : World) (um0 : Int) (um1 : Int) (um2 : Int) (um3 : Int) (um4 : Int) : ∃ w', (Instr.box 23 (.agg #[.int .i64 um0, .int .i64 um1, .int .i64 um2, .int .i64 um3, .int .i64 um4])).run Tryz.prog w = .ok (.pointer (some ⟨w.heap.size, 0, none⟩)) w' ∧ (Fr (fun _ => False) w w' ∧ Bx w' w.heap.size #[.int .i64 um0, .int .i64 um1, .int .i64 um2, .int .i64 um3, .int .i64 um4] 23) := ⟨w.alloc (.cells #[.int .i64 um0, .int .i64 um1, .int .i64 um2, .int .i64 um3, .int .i64 um4] 23), by simp [go_sem], fr_al (Fr.refl _ _) _, Bx.new _ _ _⟩
theorem qk_rushlightref02_Right (w : World) (vs : Array Value) : (callFunc 9 vs).run Tryz.prog w = .ok (.enter 9 vs) w := by simp [go_sem]
theorem fits_lay {op rd r1 r2 imm : Int} (h : fitsB rd r1 r2 imm (fm (ix op)) = true) : 0 < (layT op).length := by
  obtain ⟨k0, hop, _⟩ := enc_back h
  have := lay_pos (ix_lt op) k0
  rwa [hop] at this
theorem N64.I {n : Int} (h : N64 n) : I64 n := ⟨by have := h.1; omega, h.2⟩
theorem line_len {op rd r1 r2 imm : Int} (h1 : I64 rd) (h2 : I64 r1) (h3 : I64 r2) (h4 : I64 imm) : (lineT op rd r1 r2 imm).length ≤ 1200 := by
  unfold lineT assT
  have := nmT_len op
  have hj := join_len3 ((layT op).map (opdT rd r1 r2 imm)) (by rw [List.length_map]; exact lay_len _) (fun x hx => by
    obtain ⟨o, _, rfl⟩ := List.mem_map.1 hx
    exact opd_len h1 h2 h3 h4 o)
  simp only [List.length_append, List.length_cons, List.length_nil]
  omega
theorem t_rright (op rd r1 r2 imm : Int) (w : World) : Calls Tryz.prog 9 #[.agg #[.int .i64 op, .int .i64 rd, .int .i64 r1, .int .i64 r2, .int .i64 imm]] w fun e w' => e = .returned (.bool (fitsB rd r1 r2 imm (fm (ix op)))) ∧ Fr (fun _ => False) w w' :=
  (rv15 op rd r1 r2 imm w).mono fun e w' q => ⟨q.1, Fr.of_grown q.2⟩
set_option maxRecDepth 100000 in
theorem walk_lines (op rd r1 r2 imm : Int) (h1 : I64 rd) (h2 : I64 r1) (h3 : I64 r2) (h4 : I64 imm) (w : World) (hL : LsLaid w) : Calls Tryz.prog 3 #[.agg #[.int .i64 op, .int .i64 rd, .int .i64 r1, .int .i64 r2, .int .i64 imm]] w fun e w' => e = .returned (.bool true) ∧ Fr (fun _ => False) w w' := by
  have hL0 := hL
  have KL := fun w hT => t_Line op rd r1 r2 imm h1 h2 h3 h4 w hT fits_lay
  have KR2 := t_rright op rd r1 r2 imm
  have ff := Fr.refl (fun _ => False) w
  refine calls_tw Tryz.func3 rfl rfl (Nat.le_of_ble_eq_true rfl) ?_
  cases hR : fitsB rd r1 r2 imm (fm (ix op))
  · rw [hR] at KL KR2
    refine TW.sreg ?_
    have lw1 := ff.size
    refine O.boxR rfl rfl rfl rfl rfl (qxR_api_Inst w _ _ _ _ _) ?_
    rintro wa1 ⟨fa1, bx1⟩
    replace ff := ff.trans fa1
    replace hL := hL0.fr ff
    refine WL.op rfl rfl rfl (Go.Proofs.YtlagdgkjpnocfaaGreatDoor.W.quiet_assign rfl rfl) ?_
    refine WL.nil ?_
    refine TW.sreg ?_
    refine WL.ld rfl rfl rfl rfl rfl (qlB_api_Inst _ _ _ _ _ _ _ _ bx1) ?_
    refine WL.call (hr := KL _ hL.tab) rfl rfl rfl rfl rfl (fun W => qk_listing_Line W _) ?_
    rintro e w1 ⟨rfl, f1⟩
    refine ⟨.tuple #[bts [], .int .i64 1], rfl, ?_⟩
    replace bx1 := bx1.fr f1 id
    replace ff := ff.trans f1
    replace hL := hL0.fr ff
    refine WL.op rfl rfl rfl (Go.Proofs.YtlagdgkjpnocfaaGreatDoor.W.quiet_move rfl rfl) ?_
    refine O.ext rfl rfl rfl rfl rfl rfl ?_
    refine O.ext rfl rfl rfl rfl rfl rfl ?_
    refine WL.op rfl rfl rfl (Go.Proofs.YtlagdgkjpnocfaaGreatDoor.W.quiet_assign rfl rfl) ?_
    refine WL.op rfl rfl rfl (Go.Proofs.YtlagdgkjpnocfaaGreatDoor.W.quiet_assign rfl rfl) ?_
    refine WL.nil ?_
    refine TW.seq ?_
    refine TW.sreg ?_
    refine WL.ld rfl rfl rfl rfl rfl (qlB_api_Inst _ _ _ _ _ _ _ _ bx1) ?_
    refine WL.call (hr := KR2 _) rfl rfl rfl rfl rfl (fun W => qk_rushlightref02_Right W _) ?_
    rintro e w2 ⟨rfl, f2⟩
    refine ⟨_, rfl, ?_⟩
    replace bx1 := bx1.fr f2 id
    replace ff := ff.trans f2
    replace hL := hL0.fr ff
    refine O.split (fun hb => by exfalso; revert hb; first | (simp; done) | (simp; omega)) (fun hb => ?_)
    refine WL.op rfl rfl rfl (Go.Proofs.YtlagdgkjpnocfaaGreatDoor.W.quiet_not rfl rfl) ?_
    refine WL.nil ?_
    refine TW.cond rfl (fun _ => ?_) (fun hb => by cases hb)
    refine TW.sreg ?_
    refine WL.call (hr := t_awk _ hL) rfl rfl rfl rfl rfl (fun W => qk_rushlightlaw06_awake W _) ?_
    rintro e w9 ⟨rfl, f9⟩
    refine ⟨_, rfl, ?_⟩
    replace bx1 := bx1.fr f9 id
    replace ff := ff.trans f9
    replace hL := hL0.fr ff
    refine O.split (fun hb => ?_) (fun hb => by exfalso; revert hb; first | (simp; done) | (simp; omega))
    refine WL.op rfl rfl rfl (Go.Proofs.YtlagdgkjpnocfaaGreatDoor.W.quiet_move rfl rfl) ?_
    refine WL.op rfl rfl rfl (Go.Proofs.YtlagdgkjpnocfaaGreatDoor.W.quiet_move rfl rfl) ?_
    refine WL.op rfl rfl rfl (Go.Proofs.YtlagdgkjpnocfaaGreatDoor.W.quiet_bin rfl rfl rfl (fun W => qb_eql_api_Errno W _ _ _ _)) ?_
    refine O.split (fun hb => ?_) (fun hb => by exfalso; revert hb; first | (simp; done) | (simp; omega))
    refine WL.op rfl rfl rfl (Go.Proofs.YtlagdgkjpnocfaaGreatDoor.W.quiet_pick rfl rfl rfl) ?_
    refine WL.op rfl rfl rfl (Go.Proofs.YtlagdgkjpnocfaaGreatDoor.W.quiet_move rfl rfl) ?_
    refine WL.op rfl rfl rfl (Go.Proofs.YtlagdgkjpnocfaaGreatDoor.W.quiet_move rfl rfl) ?_
    refine WL.op rfl rfl rfl (Go.Proofs.YtlagdgkjpnocfaaGreatDoor.W.quiet_bin rfl rfl rfl (fun W => bn_eqs W _ _ _ _)) ?_
    refine O.split (fun hb => ?_) (fun hb => by exfalso; revert hb; first | (simp; done) | (simp; omega))
    refine WL.op rfl rfl rfl (Go.Proofs.YtlagdgkjpnocfaaGreatDoor.W.quiet_pick rfl rfl rfl) ?_
    refine WL.op rfl rfl rfl (Go.Proofs.YtlagdgkjpnocfaaGreatDoor.W.quiet_assign rfl rfl) ?_
    refine WL.nil ?_
    refine TW.rt ?_
    refine Xw.thn (by simp) ?_
    refine bodyw_ret rfl rfl ?_
    exact ⟨rfl, ff⟩
  · obtain ⟨n1, n2, n3, n4, n5⟩ := fits_N hR
    have hrd := line_read hR
    have hll := line_len (op := op) n1.I n2.I n3.I n4.I
    rw [hR] at KL KR2
    refine TW.sreg ?_
    have lw2 := ff.size
    refine O.boxR rfl rfl rfl rfl rfl (qxR_api_Inst w _ _ _ _ _) ?_
    rintro wa2 ⟨fa2, bx2⟩
    replace ff := ff.trans fa2
    replace hL := hL0.fr ff
    refine WL.op rfl rfl rfl (Go.Proofs.YtlagdgkjpnocfaaGreatDoor.W.quiet_assign rfl rfl) ?_
    refine WL.nil ?_
    refine TW.sreg ?_
    refine WL.ld rfl rfl rfl rfl rfl (qlB_api_Inst _ _ _ _ _ _ _ _ bx2) ?_
    refine WL.call (hr := KL _ hL.tab) rfl rfl rfl rfl rfl (fun W => qk_listing_Line W _) ?_
    rintro e w1 ⟨rfl, f1⟩
    refine ⟨.tuple #[bts (lineT op rd r1 r2 imm), .int .i64 0], rfl, ?_⟩
    replace bx2 := bx2.fr f1 id
    replace ff := ff.trans f1
    replace hL := hL0.fr ff
    refine WL.op rfl rfl rfl (Go.Proofs.YtlagdgkjpnocfaaGreatDoor.W.quiet_move rfl rfl) ?_
    refine O.ext rfl rfl rfl rfl rfl rfl ?_
    refine O.ext rfl rfl rfl rfl rfl rfl ?_
    refine WL.op rfl rfl rfl (Go.Proofs.YtlagdgkjpnocfaaGreatDoor.W.quiet_assign rfl rfl) ?_
    refine WL.op rfl rfl rfl (Go.Proofs.YtlagdgkjpnocfaaGreatDoor.W.quiet_assign rfl rfl) ?_
    refine WL.nil ?_
    refine TW.seq ?_
    refine TW.sreg ?_
    refine WL.ld rfl rfl rfl rfl rfl (qlB_api_Inst _ _ _ _ _ _ _ _ bx2) ?_
    refine WL.call (hr := KR2 _) rfl rfl rfl rfl rfl (fun W => qk_rushlightref02_Right W _) ?_
    rintro e w2 ⟨rfl, f2⟩
    refine ⟨_, rfl, ?_⟩
    replace bx2 := bx2.fr f2 id
    replace ff := ff.trans f2
    replace hL := hL0.fr ff
    refine O.split (fun hb => ?_) (fun hb => by exfalso; revert hb; first | (simp; done) | (simp; omega))
    refine WL.op rfl rfl rfl (Go.Proofs.YtlagdgkjpnocfaaGreatDoor.W.quiet_not rfl rfl) ?_
    refine WL.nil ?_
    refine TW.cond rfl (fun hb => by cases hb) (fun _ => ?_)
    refine TW.skip ?_
    refine TW.sreg ?_
    refine WL.op rfl rfl rfl (Go.Proofs.YtlagdgkjpnocfaaGreatDoor.W.quiet_move rfl rfl) ?_
    refine WL.call (hr := t_read (lineT op rd r1 r2 imm) (by omega) _ hL.er hL.ml hL.tab) rfl rfl rfl rfl rfl (fun W => qk_listing_Read W _) ?_
    rintro e w3 ⟨rfl, f3⟩
    refine ⟨RdV (readT (lineT op rd r1 r2 imm)), rfl, ?_⟩
    replace bx2 := bx2.fr f3 id
    replace ff := ff.trans f3
    replace hL := hL0.fr ff
    rw [hrd, show RdV (some ⟨op, rd, r1, r2, imm⟩) = .tuple #[.agg #[.int .i64 op, .int .i64 rd, .int .i64 r1, .int .i64 r2, .int .i64 imm], .int .i64 0] from rfl]
    refine WL.op rfl rfl rfl (Go.Proofs.YtlagdgkjpnocfaaGreatDoor.W.quiet_move rfl rfl) ?_
    refine O.ext rfl rfl rfl rfl rfl rfl ?_
    refine O.ext rfl rfl rfl rfl rfl rfl ?_
    have lt3_bx2 := bx2.lt
    have lw3 := ff.size
    refine O.allocR rfl rfl rfl rfl (qzR_api_Inst w3) ?_
    rintro wa3 ⟨fa3, bx3⟩
    replace bx2 := bx2.fr fa3 id
    replace ff := ff.trans fa3
    replace hL := hL0.fr ff
    refine O.storeR rfl rfl rfl rfl rfl (qsA_api_Inst wa3 _ _ _ _ _ _ _ _ _ _ _ bx3) ?_
    rintro wa4 ⟨fa4, bx3x⟩
    replace bx2 := bx2.fr fa4 (fun e => by omega)
    replace ff := ff.trans' fa4 (fun q hq e => by omega)
    replace hL := hL0.fr ff
    clear bx3
    have bx3 := bx3x
    clear bx3x
    refine WL.op rfl rfl rfl (Go.Proofs.YtlagdgkjpnocfaaGreatDoor.W.quiet_assign rfl rfl) ?_
    refine WL.nil ?_
    refine TW.sreg ?_
    refine WL.call (hr := t_awk _ hL) rfl rfl rfl rfl rfl (fun W => qk_rushlightlaw06_awake W _) ?_
    rintro e w9 ⟨rfl, f9⟩
    refine ⟨_, rfl, ?_⟩
    replace bx2 := bx2.fr f9 id
    replace bx3 := bx3.fr f9 id
    replace ff := ff.trans f9
    replace hL := hL0.fr ff
    refine O.split (fun hb => ?_) (fun hb => by exfalso; revert hb; first | (simp; done) | (simp; omega))
    refine WL.op rfl rfl rfl (Go.Proofs.YtlagdgkjpnocfaaGreatDoor.W.quiet_move rfl rfl) ?_
    refine WL.op rfl rfl rfl (Go.Proofs.YtlagdgkjpnocfaaGreatDoor.W.quiet_move rfl rfl) ?_
    refine WL.op rfl rfl rfl (Go.Proofs.YtlagdgkjpnocfaaGreatDoor.W.quiet_bin rfl rfl rfl (fun W => qb_eql_api_Errno W _ _ _ _)) ?_
    refine O.split (fun hb => ?_) (fun hb => by exfalso; revert hb; first | (simp; done) | (simp; omega))
    refine WL.op rfl rfl rfl (Go.Proofs.YtlagdgkjpnocfaaGreatDoor.W.quiet_pick rfl rfl rfl) ?_
    refine WL.op rfl rfl rfl (Go.Proofs.YtlagdgkjpnocfaaGreatDoor.W.quiet_move rfl rfl) ?_
    refine WL.op rfl rfl rfl (Go.Proofs.YtlagdgkjpnocfaaGreatDoor.W.quiet_move rfl rfl) ?_
    refine WL.ld rfl rfl rfl rfl rfl (qlB_api_Inst _ _ _ _ _ _ _ _ bx2) ?_
    refine WL.call (hr := t_rline op rd r1 r2 imm n1 n2 n3 n4 n5 _) rfl rfl rfl rfl rfl (fun W => qk_rushlightref06_Line W _) ?_
    rintro e w7 ⟨rfl, f7⟩
    refine ⟨_, rfl, ?_⟩
    replace bx2 := bx2.fr f7 id
    replace bx3 := bx3.fr f7 id
    replace ff := ff.trans f7
    replace hL := hL0.fr ff
    refine WL.op rfl rfl rfl (Go.Proofs.YtlagdgkjpnocfaaGreatDoor.W.quiet_bin rfl rfl rfl (fun W => bn_eqs W _ _ _ _)) ?_
    refine O.split (fun hb => ?_) (fun hb => by exfalso; revert hb; first | (simp; done) | (simp; omega))
    refine WL.op rfl rfl rfl (Go.Proofs.YtlagdgkjpnocfaaGreatDoor.W.quiet_pick rfl rfl rfl) ?_
    refine WL.op rfl rfl rfl (Go.Proofs.YtlagdgkjpnocfaaGreatDoor.W.quiet_move rfl rfl) ?_
    refine WL.op rfl rfl rfl (Go.Proofs.YtlagdgkjpnocfaaGreatDoor.W.quiet_move rfl rfl) ?_
    refine WL.op rfl rfl rfl (Go.Proofs.YtlagdgkjpnocfaaGreatDoor.W.quiet_bin rfl rfl rfl (fun W => qb_eql_api_Errno W _ _ _ _)) ?_
    refine O.split (fun hb => ?_) (fun hb => by exfalso; revert hb; first | (simp; done) | (simp; omega))
    refine WL.op rfl rfl rfl (Go.Proofs.YtlagdgkjpnocfaaGreatDoor.W.quiet_pick rfl rfl rfl) ?_
    refine WL.op rfl rfl rfl (Go.Proofs.YtlagdgkjpnocfaaGreatDoor.W.quiet_move rfl rfl) ?_
    refine WL.ld rfl rfl rfl rfl rfl (qlB_api_Inst _ _ _ _ _ _ _ _ bx3) ?_
    refine WL.ld rfl rfl rfl rfl rfl (qlB_api_Inst _ _ _ _ _ _ _ _ bx2) ?_
    refine WL.op rfl rfl rfl (Go.Proofs.YtlagdgkjpnocfaaGreatDoor.W.quiet_bin rfl rfl rfl (fun W => bn_eqSame W _ _ _ _ _ _ _)) ?_
    refine O.split (fun hb => ?_) (fun hb => by exfalso; revert hb; first | (simp; done) | (simp; omega))
    refine WL.op rfl rfl rfl (Go.Proofs.YtlagdgkjpnocfaaGreatDoor.W.quiet_pick rfl rfl rfl) ?_
    refine WL.op rfl rfl rfl (Go.Proofs.YtlagdgkjpnocfaaGreatDoor.W.quiet_assign rfl rfl) ?_
    refine WL.nil ?_
    refine TW.rt ?_
    refine bodyw_ret rfl rfl ?_
    exact ⟨rfl, ff⟩
end Go.Proofs.YtlagdgkjpnocfaaGreatDoor
