/-
  Flow (layer 16): few.
-/
import Derived.Test.YtobibplilbchfaaFlP
namespace Go.Proofs.Ytobibplilbchfaa
open Go.RowKit
set_option linter.unusedVariables false
set_option linter.unusedSimpArgs false
theorem qxR_api_Module (w : World) (up0 : Option Addr) (uk0 ul0 : Nat) (up1 : Option Addr) (uk1 ul1 : Nat) (up2 : Option Addr) (uk2 ul2 : Nat) (um3 : Int) : ∃ w', (Instr.box 53 (.agg #[.slice up0 uk0 ul0, .slice up1 uk1 ul1, .slice up2 uk2 ul2, .int .i64 um3])).run Try.prog w = .ok (.pointer (some ⟨w.heap.size, 0, none⟩)) w' ∧ (Fr (fun _ => False) w w' ∧ Bx w' w.heap.size #[.slice up0 uk0 ul0, .slice up1 uk1 ul1, .slice up2 uk2 ul2, .int .i64 um3] 53) := ⟨w.alloc (.cells #[.slice up0 uk0 ul0, .slice up1 uk1 ul1, .slice up2 uk2 ul2, .int .i64 um3] 53), by simp [go_sem], fr_al (Fr.refl _ _) _, Bx.new _ _ _⟩
theorem qa_api_Module_2 (w : World) (b o : Nat) : (Instr.fieldAt 53 (.pointer (some ⟨b, o, none⟩)) 2).run Try.prog w = .ok (.pointer (some ⟨b, o + 2, none⟩)) w := by simp [go_sem]
theorem ql_s_api_Proc (w : World) (p : Option Addr) (k l : Nat) (d : Addr) (h : w.cell? d = some (.slice p k l)) : (Instr.loadAt 50 (.pointer (some d))).run Try.prog w = .ok (.slice p k l) w := by simp [go_sem, h]
theorem qn_s_api_Proc (w : World) (a : Option Addr) (k l : Nat) : (Builtin.len_ #[50] 3 #[.slice a k l]).run Try.prog w = .ok (.int .i64 k) w := by simp [go_sem]
theorem qa_api_Module_0 (w : World) (b o : Nat) : (Instr.fieldAt 53 (.pointer (some ⟨b, o, none⟩)) 0).run Try.prog w = .ok (.pointer (some ⟨b, o, none⟩)) w := by simp [go_sem]
theorem ql_s_api_Slot (w : World) (p : Option Addr) (k l : Nat) (d : Addr) (h : w.cell? d = some (.slice p k l)) : (Instr.loadAt 22 (.pointer (some d))).run Try.prog w = .ok (.slice p k l) w := by simp [go_sem, h]
theorem qn_s_api_Slot (w : World) (a : Option Addr) (k l : Nat) : (Builtin.len_ #[22] 3 #[.slice a k l]).run Try.prog w = .ok (.int .i64 k) w := by simp [go_sem]
theorem qa_api_Module_1 (w : World) (b o : Nat) : (Instr.fieldAt 53 (.pointer (some ⟨b, o, none⟩)) 1).run Try.prog w = .ok (.pointer (some ⟨b, o + 1, none⟩)) w := by simp [go_sem]
theorem ql_s_s_uint8 (w : World) (p : Option Addr) (k l : Nat) (d : Addr) (h : w.cell? d = some (.slice p k l)) : (Instr.loadAt 51 (.pointer (some d))).run Try.prog w = .ok (.slice p k l) w := by simp [go_sem, h]
theorem qn_s_s_uint8 (w : World) (a : Option Addr) (k l : Nat) : (Builtin.len_ #[51] 3 #[.slice a k l]).run Try.prog w = .ok (.int .i64 k) w := by simp [go_sem]
theorem qi_s_api_Proc (w : World) (b o n c j : Nat) (hj : j < n) : (Instr.indexAt 50 (.slice (some ⟨b, o, none⟩) n c) (.int .i64 (j : Int))).run Try.prog w = .ok (.pointer (some ⟨b, o + j * 6, none⟩)) w := by
  have h : (j : Int) < (n : Int) := by omega
  simp [go_sem, h, hj]
theorem qa_api_Proc_4 (w : World) (b o : Nat) : (Instr.fieldAt 25 (.pointer (some ⟨b, o, none⟩)) 4).run Try.prog w = .ok (.pointer (some ⟨b, o + 4, none⟩)) w := by simp [go_sem]
theorem qa_api_Block_0 (w : World) (b o : Nat) : (Instr.fieldAt 48 (.pointer (some ⟨b, o, none⟩)) 0).run Try.prog w = .ok (.pointer (some ⟨b, o, none⟩)) w := by simp [go_sem]
theorem ql_s_api_Ins (w : World) (p : Option Addr) (k l : Nat) (d : Addr) (h : w.cell? d = some (.slice p k l)) : (Instr.loadAt 46 (.pointer (some d))).run Try.prog w = .ok (.slice p k l) w := by simp [go_sem, h]
theorem qn_s_api_Ins (w : World) (a : Option Addr) (k l : Nat) : (Builtin.len_ #[46] 3 #[.slice a k l]).run Try.prog w = .ok (.int .i64 k) w := by simp [go_sem]
theorem qi_s_api_Ins (w : World) (b o n c j : Nat) (hj : j < n) : (Instr.indexAt 46 (.slice (some ⟨b, o, none⟩) n c) (.int .i64 (j : Int))).run Try.prog w = .ok (.pointer (some ⟨b, o + j * 11, none⟩)) w := by
  have h : (j : Int) < (n : Int) := by omega
  simp [go_sem, h, hj]
theorem ql_api_Ins (w : World) (b o : Nat) (u0 u1 u2 u3 u4 u5 u6 u7 u8 u9 u10 : Value) (h0 : w.cell? ⟨b, o, none⟩ = some u0) (h1 : w.cell? ⟨b, o + 1, none⟩ = some u1) (h2 : w.cell? ⟨b, o + 2, none⟩ = some u2) (h3 : w.cell? ⟨b, o + 3, none⟩ = some u3) (h4 : w.cell? ⟨b, o + 4, none⟩ = some u4) (h5 : w.cell? ⟨b, o + 5, none⟩ = some u5) (h6 : w.cell? ⟨b, o + 6, none⟩ = some u6) (h7 : w.cell? ⟨b, o + 7, none⟩ = some u7) (h8 : w.cell? ⟨b, o + 8, none⟩ = some u8) (h9 : w.cell? ⟨b, o + 9, none⟩ = some u9) (h10 : w.cell? ⟨b, o + 10, none⟩ = some u10) : (Instr.loadAt 69 (.pointer (some ⟨b, o, none⟩))).run Try.prog w = .ok (.agg #[u0, u1, u2, u3, u4, u5, u6, u7, u8, u9, u10]) w := by simp [go_sem, h0, h1, h2, h3, h4, h5, h6, h7, h8, h9, h10]
theorem qk_rushlightlaw13_ins (w : World) (vs : Array Value) : (callFunc 36 vs).run Try.prog w = .ok (.enter 36 vs) w := by simp [go_sem]
theorem qa_api_Proc_3 (w : World) (b o : Nat) : (Instr.fieldAt 25 (.pointer (some ⟨b, o, none⟩)) 3).run Try.prog w = .ok (.pointer (some ⟨b, o + 3, none⟩)) w := by simp [go_sem]
theorem qv_s_api_Proc_1 (w : World) (u0_p0 : ByteArray) (u0_p1 : Bool) (u0_m2 : Int) (u0_m3 : Int) (u0_p4 : Option Addr) (u0_k4 u0_l4 : Nat) (u0_p5 : Option Addr) (u0_k5 u0_l5 : Nat) : (Instr.buildSlice 50 1 #[(0, .agg #[.string u0_p0, .bool u0_p1, .int .i64 u0_m2, .int .i64 u0_m3, .slice u0_p4 u0_k4 u0_l4, .slice u0_p5 u0_k5 u0_l5])]).run Try.prog w = .ok (.slice (some ⟨w.heap.size, 0, none⟩) 1 1) (w.alloc (.cells #[.string u0_p0, .bool u0_p1, .int .i64 u0_m2, .int .i64 u0_m3, .slice u0_p4 u0_k4 u0_l4, .slice u0_p5 u0_k5 u0_l5] 25)) := by simp [go_sem]
theorem qd_api_Module_2 (w : World) (p2_p0 : Option Addr) (p2_k0 p2_l0 : Nat) : (Instr.build 53 #[(2, .slice p2_p0 p2_k0 p2_l0)]).run Try.prog w = .ok (.agg #[.slice none 0 0, .slice none 0 0, .slice p2_p0 p2_k0 p2_l0, .int .i64 0]) w := by simp [go_sem]
theorem qk_rushlightlaw13_Few (w : World) (vs : Array Value) : (callFunc 20 vs).run Try.prog w = .ok (.enter 20 vs) w := by simp [go_sem]
/-- Lengths that there can be. -/
structure Wd (bs : List Bk) : Prop where
  n : bs.length ≤ maxLen
  b : ∀ b ∈ bs, b.ins.length ≤ maxLen ∧ ∀ i ∈ b.ins, i.args.length ≤ maxLen
theorem getD_memB {l : List Bk} {k : Nat} (h : k < l.length) : l.getD k bk0 ∈ l := by
  rw [List.getD_eq_getElem?_getD, List.getElem?_eq_getElem h]; exact List.getElem_mem h
theorem getD_memI {l : List Inn} {k : Nat} (h : k < l.length) : l.getD k inn0 ∈ l := by
  rw [List.getD_eq_getElem?_getD, List.getElem?_eq_getElem h]; exact List.getElem_mem h
set_option maxRecDepth 100000 in
theorem t_few13 (nm : ByteArray) (vd : Bool) (pr R : Int) (oa : Option Addr) (on oc : Nat) (ba : Option Addr) (bs : List Bk) (bc : Nat) (gm : Nat) (hwd : Wd bs) (w : World) (hm : Bx w gm #[.string nm, .bool vd, .int .i64 pr, .int .i64 R, .slice oa on oc, .slice ba bs.length bc] 25) (hbl : BkL w ba bs) : Calls Try.prog 20 #[.agg #[.slice none 0 0, .slice none 0 0, .slice (some ⟨gm, 0, none⟩) 1 1, .int .i64 0]] w fun e w' => ∃ b, e = .returned (.bool b) ∧ (b = true → FewB bs) ∧ Fr (fun _ => False) w w' := by
  have ff := Fr.refl (fun _ => False) w
  refine calls_tw Try.func20 rfl rfl (Nat.le_of_ble_eq_true rfl) ?_
  refine TW.sreg ?_
  have lw1 := ff.size
  refine O.boxR rfl rfl rfl rfl rfl (qxR_api_Module w _ _ _ _ _ _ _ _ _ _) ?_
  rintro wa1 ⟨fa1, bx1⟩
  replace ff := ff.trans fa1
  replace hm := hm.fr fa1 id
  refine WL.op rfl rfl rfl (Go.Proofs.Ytobibplilbchfaa.W.quiet_assign rfl rfl) ?_
  refine WL.nil ?_
  refine TW.seq ?_
  refine TW.sreg ?_
  refine WL.op rfl rfl rfl (Go.Proofs.Ytobibplilbchfaa.W.quiet_field rfl rfl (fun W => (qa_api_Module_2 W _ _))) ?_
  refine WL.ld rfl rfl rfl rfl rfl (ql_s_api_Proc _ _ _ _ _ (bx1.cell (j := 2) rfl)) ?_
  refine O.len rfl rfl rfl rfl rfl (qn_s_api_Proc _ _ _ _) ?_
  refine WL.op rfl rfl rfl (Go.Proofs.Ytobibplilbchfaa.W.quiet_bin rfl rfl rfl (fun W => qb_gtr_int W _ _ _ _)) ?_
  refine O.split (fun hb => by exfalso; revert hb; first | (simp; done) | (simp; omega)) (fun hb => ?_)
  refine WL.op rfl rfl rfl (Go.Proofs.Ytobibplilbchfaa.W.quiet_move rfl rfl) ?_
  refine WL.op rfl rfl rfl (Go.Proofs.Ytobibplilbchfaa.W.quiet_field rfl rfl (fun W => (qa_api_Module_0 W _ _))) ?_
  refine WL.ld rfl rfl rfl rfl rfl (ql_s_api_Slot _ _ _ _ _ (bx1.cell (j := 0) rfl)) ?_
  refine O.len rfl rfl rfl rfl rfl (qn_s_api_Slot _ _ _ _) ?_
  refine WL.op rfl rfl rfl (Go.Proofs.Ytobibplilbchfaa.W.quiet_bin rfl rfl rfl (fun W => qb_gtr_int W _ _ _ _)) ?_
  refine O.split (fun hb => by exfalso; revert hb; first | (simp; done) | (simp; omega)) (fun hb => ?_)
  refine WL.op rfl rfl rfl (Go.Proofs.Ytobibplilbchfaa.W.quiet_pick rfl rfl rfl) ?_
  refine WL.op rfl rfl rfl (Go.Proofs.Ytobibplilbchfaa.W.quiet_move rfl rfl) ?_
  refine WL.op rfl rfl rfl (Go.Proofs.Ytobibplilbchfaa.W.quiet_field rfl rfl (fun W => (qa_api_Module_1 W _ _))) ?_
  refine WL.ld rfl rfl rfl rfl rfl (ql_s_s_uint8 _ _ _ _ _ (bx1.cell (j := 1) rfl)) ?_
  refine O.len rfl rfl rfl rfl rfl (qn_s_s_uint8 _ _ _ _) ?_
  refine WL.op rfl rfl rfl (Go.Proofs.Ytobibplilbchfaa.W.quiet_bin rfl rfl rfl (fun W => qb_gtr_int W _ _ _ _)) ?_
  refine O.split (fun hb => by exfalso; revert hb; first | (simp; done) | (simp; omega)) (fun hb => ?_)
  refine WL.op rfl rfl rfl (Go.Proofs.Ytobibplilbchfaa.W.quiet_pick rfl rfl rfl) ?_
  refine WL.nil ?_
  refine TW.cond rfl (fun hb => by cases hb) (fun _ => ?_)
  refine TW.skip ?_
  refine TW.seq ?_
  refine TW.sreg ?_
  refine WL.op rfl rfl rfl (Go.Proofs.Ytobibplilbchfaa.W.quiet_assign rfl rfl) ?_
  refine WL.nil ?_
  refine TW.block ?_
  refine O.loopG (n := 1) (fun a _ => (intOf (a.tmps.getD 3 undef)).toNat) (fun j a W => Kn Try.f20.ntmps [(1, .pointer (some ⟨w.heap.size, 0, none⟩)), (3, .int .i64 (j : Int))] a ∧ Fr (fun _ => False) w W ∧ Bx W w.heap.size #[.slice none 0 0, .slice none 0 0, .slice (some ⟨gm, 0, none⟩) 1 1, .int .i64 0] 53 ∧ Bx W gm #[.string nm, .bool vd, .int .i64 pr, .int .i64 R, .slice oa on oc, .slice ba bs.length bc] 25 ∧ (0 < j → FewB bs)) (fun j a W h => O.slotv h.1 rfl) 0 (Nat.zero_le _) (fun a k => ⟨(by (repeat (refine Kn.cons k rfl ?_)); exact k.base), ff, bx1, hm, fun h => absurd h (by omega)⟩) ?_
  rintro j a wj_ hj ⟨k, ff, bx1, hm, hj1⟩
  refine TW.app (s := [(1, .pointer (some ⟨w.heap.size, 0, none⟩)), (3, .int .i64 (j : Int))]) ?_ k
  refine TW.seq ?_
  refine TW.sreg ?_
  refine WL.op rfl rfl rfl (Go.Proofs.Ytobibplilbchfaa.W.quiet_move rfl rfl) ?_
  refine WL.op rfl rfl rfl (Go.Proofs.Ytobibplilbchfaa.W.quiet_field rfl rfl (fun W => (qa_api_Module_2 W _ _))) ?_
  refine WL.ld rfl rfl rfl rfl rfl (ql_s_api_Proc _ _ _ _ _ (bx1.cell (j := 2) rfl)) ?_
  refine O.len rfl rfl rfl rfl rfl (qn_s_api_Proc _ _ _ _) ?_
  refine WL.op rfl rfl rfl (Go.Proofs.Ytobibplilbchfaa.W.quiet_bin rfl rfl rfl (fun W => qb_lss_int W _ _ _ _)) ?_
  refine O.split (fun hbj => ?_) (fun hbj => ?_)
  · skip
    obtain rfl : j = 0 := by have := of_decide_eq_true hbj; omega
    refine WL.nil ?_
    refine TW.cond rfl (fun _ => ?_) (fun hb => by cases hb)
    refine TW.skip ?_
    refine TW.seq ?_
    refine TW.block ?_
    refine TW.seq ?_
    refine TW.sreg ?_
    refine WL.op rfl rfl rfl (Go.Proofs.Ytobibplilbchfaa.W.quiet_field rfl rfl (fun W => (qa_api_Module_2 W _ _))) ?_
    refine WL.ld rfl rfl rfl rfl rfl (ql_s_api_Proc _ _ _ _ _ (bx1.cell (j := 2) rfl)) ?_
    refine WL.op rfl rfl rfl (Go.Proofs.Ytobibplilbchfaa.W.quiet_move rfl rfl) ?_
    refine O.ixa rfl rfl rfl rfl rfl rfl (qi_s_api_Proc _ _ _ _ _ _ (by omega)) ?_
    refine WL.op rfl rfl rfl (Go.Proofs.Ytobibplilbchfaa.W.quiet_field rfl rfl (fun W => (qa_api_Proc_5 W _ _))) ?_
    refine WL.ld rfl rfl rfl rfl rfl (ql_s_api_Block _ _ _ _ _ (hm.cell (j := 5) rfl)) ?_
    refine O.len rfl rfl rfl rfl rfl (qn_s_api_Block _ _ _ _) ?_
    refine WL.op rfl rfl rfl (Go.Proofs.Ytobibplilbchfaa.W.quiet_bin rfl rfl rfl (fun W => qb_gtr_int W _ _ _ _)) ?_
    refine O.split (fun hb4 => ?_) (fun hb4 => ?_)
    · skip
      refine WL.op rfl rfl rfl (Go.Proofs.Ytobibplilbchfaa.W.quiet_move rfl rfl) ?_
      refine WL.skip rfl rfl rfl ?_
      refine WL.skip rfl rfl rfl ?_
      refine WL.skip rfl rfl rfl ?_
      refine WL.skip rfl rfl rfl ?_
      refine WL.skip rfl rfl rfl ?_
      refine WL.skip rfl rfl rfl ?_
      refine WL.skip rfl rfl rfl ?_
      refine WL.skip rfl rfl rfl ?_
      refine WL.op rfl rfl rfl (Go.Proofs.Ytobibplilbchfaa.W.quiet_pick rfl rfl rfl) ?_
      refine WL.nil ?_
      refine TW.cond rfl (fun _ => ?_) (fun hb => by cases hb)
      refine TW.sreg ?_
      refine WL.op rfl rfl rfl (Go.Proofs.Ytobibplilbchfaa.W.quiet_assign rfl rfl) ?_
      refine WL.nil ?_
      refine TW.rt ?_
      refine Xw.thn (by simp) ?_
      refine Xw.rblk ?_
      refine Xw.thn (by simp) ?_
      refine Xw.thn (by simp) ?_
      refine Xw.rblk ?_
      refine Xw.thn (by simp) ?_
      refine bodyw_ret rfl rfl ?_
      exact ⟨false, rfl, fun h => (by cases h), ff⟩
    · skip
      refine WL.op rfl rfl rfl (Go.Proofs.Ytobibplilbchfaa.W.quiet_move rfl rfl) ?_
      refine WL.op rfl rfl rfl (Go.Proofs.Ytobibplilbchfaa.W.quiet_field rfl rfl (fun W => (qa_api_Module_2 W _ _))) ?_
      refine WL.ld rfl rfl rfl rfl rfl (ql_s_api_Proc _ _ _ _ _ (bx1.cell (j := 2) rfl)) ?_
      refine WL.op rfl rfl rfl (Go.Proofs.Ytobibplilbchfaa.W.quiet_move rfl rfl) ?_
      refine O.ixa rfl rfl rfl rfl rfl rfl (qi_s_api_Proc _ _ _ _ _ _ (by omega)) ?_
      refine WL.op rfl rfl rfl (Go.Proofs.Ytobibplilbchfaa.W.quiet_field rfl rfl (fun W => (qa_api_Proc_4 W _ _))) ?_
      refine WL.ld rfl rfl rfl rfl rfl (ql_s_api_Slot _ _ _ _ _ (hm.cell (j := 4) rfl)) ?_
      refine O.len rfl rfl rfl rfl rfl (qn_s_api_Slot _ _ _ _) ?_
      refine WL.op rfl rfl rfl (Go.Proofs.Ytobibplilbchfaa.W.quiet_bin rfl rfl rfl (fun W => qb_gtr_int W _ _ _ _)) ?_
      refine O.split (fun hb5 => ?_) (fun hb5 => ?_)
      · skip
        refine WL.op rfl rfl rfl (Go.Proofs.Ytobibplilbchfaa.W.quiet_pick rfl rfl rfl) ?_
        refine WL.nil ?_
        refine TW.cond rfl (fun _ => ?_) (fun hb => by cases hb)
        refine TW.sreg ?_
        refine WL.op rfl rfl rfl (Go.Proofs.Ytobibplilbchfaa.W.quiet_assign rfl rfl) ?_
        refine WL.nil ?_
        refine TW.rt ?_
        refine Xw.thn (by simp) ?_
        refine Xw.rblk ?_
        refine Xw.thn (by simp) ?_
        refine Xw.thn (by simp) ?_
        refine Xw.rblk ?_
        refine Xw.thn (by simp) ?_
        refine bodyw_ret rfl rfl ?_
        exact ⟨false, rfl, fun h => (by cases h), ff⟩
      · skip
        have hbn : bs.length ≤ 40 := by have := of_decide_eq_false hb4; omega
        refine WL.op rfl rfl rfl (Go.Proofs.Ytobibplilbchfaa.W.quiet_pick rfl rfl rfl) ?_
        refine WL.nil ?_
        refine TW.cond rfl (fun hb => by cases hb) (fun _ => ?_)
        refine TW.skip ?_
        refine TW.sreg ?_
        refine WL.op rfl rfl rfl (Go.Proofs.Ytobibplilbchfaa.W.quiet_assign rfl rfl) ?_
        refine WL.nil ?_
        refine TW.block ?_
        refine O.loopG (n := bs.length) (fun a _ => (intOf (a.tmps.getD 4 undef)).toNat) (fun b a W => Kn Try.f20.ntmps [(1, .pointer (some ⟨w.heap.size, 0, none⟩)), (3, .int .i64 ((0 : Nat) : Int)), (4, .int .i64 (b : Int))] a ∧ Fr (fun _ => False) w W ∧ Bx W w.heap.size #[.slice none 0 0, .slice none 0 0, .slice (some ⟨gm, 0, none⟩) 1 1, .int .i64 0] 53 ∧ Bx W gm #[.string nm, .bool vd, .int .i64 pr, .int .i64 R, .slice oa on oc, .slice ba bs.length bc] 25 ∧ ∀ k, k < b → (bs.getD k bk0).ins.length ≤ 60 ∧ ∀ i ∈ (bs.getD k bk0).ins, InOk i) (fun b a W h => O.slotv h.1 rfl) 0 (Nat.zero_le _) (fun a k => ⟨(by (repeat (refine Kn.cons k rfl ?_)); exact k.base), ff, bx1, hm, fun k hk => absurd hk (by omega)⟩) ?_
        rintro b a wb_ hj ⟨k, ff, bx1, hm, hbb⟩
        refine TW.app (s := [(1, .pointer (some ⟨w.heap.size, 0, none⟩)), (3, .int .i64 ((0 : Nat) : Int)), (4, .int .i64 (b : Int))]) ?_ k
        refine TW.seq ?_
        refine TW.sreg ?_
        refine WL.op rfl rfl rfl (Go.Proofs.Ytobibplilbchfaa.W.quiet_move rfl rfl) ?_
        refine WL.op rfl rfl rfl (Go.Proofs.Ytobibplilbchfaa.W.quiet_field rfl rfl (fun W => (qa_api_Module_2 W _ _))) ?_
        refine WL.ld rfl rfl rfl rfl rfl (ql_s_api_Proc _ _ _ _ _ (bx1.cell (j := 2) rfl)) ?_
        refine WL.op rfl rfl rfl (Go.Proofs.Ytobibplilbchfaa.W.quiet_move rfl rfl) ?_
        refine O.ixa rfl rfl rfl rfl rfl rfl (qi_s_api_Proc _ _ _ _ _ _ (by omega)) ?_
        refine WL.op rfl rfl rfl (Go.Proofs.Ytobibplilbchfaa.W.quiet_field rfl rfl (fun W => (qa_api_Proc_5 W _ _))) ?_
        refine WL.ld rfl rfl rfl rfl rfl (ql_s_api_Block _ _ _ _ _ (hm.cell (j := 5) rfl)) ?_
        refine O.len rfl rfl rfl rfl rfl (qn_s_api_Block _ _ _ _) ?_
        refine WL.op rfl rfl rfl (Go.Proofs.Ytobibplilbchfaa.W.quiet_bin rfl rfl rfl (fun W => qb_lss_int W _ _ _ _)) ?_
        refine O.split (fun hbb_ => ?_) (fun hbb_ => ?_)
        · skip
          have hb2 : b < bs.length := by have := of_decide_eq_true hbb_; omega
          refine WL.nil ?_
          refine TW.cond rfl (fun _ => ?_) (fun hb => by cases hb)
          refine TW.skip ?_
          refine TW.seq ?_
          refine TW.block ?_
          refine TW.seq ?_
          refine TW.sreg ?_
          refine WL.op rfl rfl rfl (Go.Proofs.Ytobibplilbchfaa.W.quiet_field rfl rfl (fun W => (qa_api_Module_2 W _ _))) ?_
          refine WL.ld rfl rfl rfl rfl rfl (ql_s_api_Proc _ _ _ _ _ (bx1.cell (j := 2) rfl)) ?_
          refine WL.op rfl rfl rfl (Go.Proofs.Ytobibplilbchfaa.W.quiet_move rfl rfl) ?_
          refine O.ixa rfl rfl rfl rfl rfl rfl (qi_s_api_Proc _ _ _ _ _ _ (by omega)) ?_
          refine WL.op rfl rfl rfl (Go.Proofs.Ytobibplilbchfaa.W.quiet_field rfl rfl (fun W => (qa_api_Proc_5 W _ _))) ?_
          refine WL.ld rfl rfl rfl rfl rfl (ql_s_api_Block _ _ _ _ _ (hm.cell (j := 5) rfl)) ?_
          obtain ⟨gb, ob, hba, ⟨ia, ic, c0, cI⟩, _⟩ := (hbl.fr ff) b hb2
          subst hba
          refine WL.op rfl rfl rfl (Go.Proofs.Ytobibplilbchfaa.W.quiet_move rfl rfl) ?_
          refine O.ixa rfl rfl rfl rfl rfl rfl (qi_s_api_Block _ _ _ _ _ _ (by omega)) ?_
          refine WL.op rfl rfl rfl (Go.Proofs.Ytobibplilbchfaa.W.quiet_field rfl rfl (fun W => (qa_api_Block_0 W _ _))) ?_
          refine WL.ld rfl rfl rfl rfl rfl (ql_s_api_Ins _ _ _ _ _ c0) ?_
          refine O.len rfl rfl rfl rfl rfl (qn_s_api_Ins _ _ _ _) ?_
          refine WL.op rfl rfl rfl (Go.Proofs.Ytobibplilbchfaa.W.quiet_bin rfl rfl rfl (fun W => qb_gtr_int W _ _ _ _)) ?_
          refine O.split (fun hb6 => ?_) (fun hb6 => ?_)
          · skip
            refine WL.nil ?_
            refine TW.cond rfl (fun _ => ?_) (fun hb => by cases hb)
            refine TW.sreg ?_
            refine WL.op rfl rfl rfl (Go.Proofs.Ytobibplilbchfaa.W.quiet_assign rfl rfl) ?_
            refine WL.nil ?_
            refine TW.rt ?_
            refine Xw.thn (by simp) ?_
            refine Xw.rblk ?_
            refine Xw.thn (by simp) ?_
            refine Xw.thn (by simp) ?_
            refine Xw.rblk ?_
            refine Xw.rblk ?_
            refine Xw.thn (by simp) ?_
            refine Xw.thn (by simp) ?_
            refine Xw.rblk ?_
            refine Xw.thn (by simp) ?_
            refine bodyw_ret rfl rfl ?_
            exact ⟨false, rfl, fun h => (by cases h), ff⟩
          · skip
            have hil : (bs.getD b bk0).ins.length ≤ 60 := by have := of_decide_eq_false hb6; omega
            refine WL.nil ?_
            refine TW.cond rfl (fun hb => by cases hb) (fun _ => ?_)
            refine TW.skip ?_
            refine TW.sreg ?_
            refine WL.op rfl rfl rfl (Go.Proofs.Ytobibplilbchfaa.W.quiet_assign rfl rfl) ?_
            refine WL.nil ?_
            refine TW.block ?_
            refine O.loopG (n := (bs.getD b bk0).ins.length) (fun a _ => (intOf (a.tmps.getD 5 undef)).toNat) (fun q a W => Kn Try.f20.ntmps [(1, .pointer (some ⟨w.heap.size, 0, none⟩)), (3, .int .i64 ((0 : Nat) : Int)), (4, .int .i64 (b : Int)), (5, .int .i64 (q : Int))] a ∧ Fr (fun _ => False) w W ∧ Bx W w.heap.size #[.slice none 0 0, .slice none 0 0, .slice (some ⟨gm, 0, none⟩) 1 1, .int .i64 0] 53 ∧ Bx W gm #[.string nm, .bool vd, .int .i64 pr, .int .i64 R, .slice oa on oc, .slice (some ⟨gb, ob, none⟩) bs.length bc] 25 ∧ ∀ k, k < q → InOk ((bs.getD b bk0).ins.getD k inn0)) (fun q a W h => O.slotv h.1 rfl) 0 (Nat.zero_le _) (fun a k => ⟨(by (repeat (refine Kn.cons k rfl ?_)); exact k.base), ff, bx1, hm, fun k hk => absurd hk (by omega)⟩) ?_
            rintro q a wq_ hj ⟨k, ff, bx1, hm, hqq⟩
            refine TW.app (s := [(1, .pointer (some ⟨w.heap.size, 0, none⟩)), (3, .int .i64 ((0 : Nat) : Int)), (4, .int .i64 (b : Int)), (5, .int .i64 (q : Int))]) ?_ k
            refine TW.seq ?_
            refine TW.sreg ?_
            refine WL.op rfl rfl rfl (Go.Proofs.Ytobibplilbchfaa.W.quiet_move rfl rfl) ?_
            refine WL.op rfl rfl rfl (Go.Proofs.Ytobibplilbchfaa.W.quiet_field rfl rfl (fun W => (qa_api_Module_2 W _ _))) ?_
            refine WL.ld rfl rfl rfl rfl rfl (ql_s_api_Proc _ _ _ _ _ (bx1.cell (j := 2) rfl)) ?_
            refine WL.op rfl rfl rfl (Go.Proofs.Ytobibplilbchfaa.W.quiet_move rfl rfl) ?_
            refine O.ixa rfl rfl rfl rfl rfl rfl (qi_s_api_Proc _ _ _ _ _ _ (by omega)) ?_
            refine WL.op rfl rfl rfl (Go.Proofs.Ytobibplilbchfaa.W.quiet_field rfl rfl (fun W => (qa_api_Proc_5 W _ _))) ?_
            refine WL.ld rfl rfl rfl rfl rfl (ql_s_api_Block _ _ _ _ _ (hm.cell (j := 5) rfl)) ?_
            obtain ⟨_, _, hba2, ⟨ia, ic, c0, cI⟩, _⟩ := (hbl.fr ff) b hb2
            cases hba2
            refine WL.op rfl rfl rfl (Go.Proofs.Ytobibplilbchfaa.W.quiet_move rfl rfl) ?_
            refine O.ixa rfl rfl rfl rfl rfl rfl (qi_s_api_Block _ _ _ _ _ _ (by omega)) ?_
            refine WL.op rfl rfl rfl (Go.Proofs.Ytobibplilbchfaa.W.quiet_field rfl rfl (fun W => (qa_api_Block_0 W _ _))) ?_
            refine WL.ld rfl rfl rfl rfl rfl (ql_s_api_Ins _ _ _ _ _ c0) ?_
            refine O.len rfl rfl rfl rfl rfl (qn_s_api_Ins _ _ _ _) ?_
            refine WL.op rfl rfl rfl (Go.Proofs.Ytobibplilbchfaa.W.quiet_bin rfl rfl rfl (fun W => qb_lss_int W _ _ _ _)) ?_
            refine O.split (fun hbq => ?_) (fun hbq => ?_)
            · skip
              have hq2 : q < (bs.getD b bk0).ins.length := by have := of_decide_eq_true hbq; omega
              obtain ⟨gi, oi, hia, d0, d1, d2, d3, d4, d5, d6, d7, d8, ⟨aa, ac, d9, dA⟩, d10⟩ := cI q hq2
              refine WL.nil ?_
              refine TW.cond rfl (fun _ => ?_) (fun hb => by cases hb)
              refine TW.skip ?_
              refine TW.seq ?_
              refine TW.block ?_
              refine TW.sreg ?_
              refine WL.op rfl rfl rfl (Go.Proofs.Ytobibplilbchfaa.W.quiet_field rfl rfl (fun W => (qa_api_Module_2 W _ _))) ?_
              refine WL.ld rfl rfl rfl rfl rfl (ql_s_api_Proc _ _ _ _ _ (bx1.cell (j := 2) rfl)) ?_
              refine WL.op rfl rfl rfl (Go.Proofs.Ytobibplilbchfaa.W.quiet_move rfl rfl) ?_
              refine O.ixa rfl rfl rfl rfl rfl rfl (qi_s_api_Proc _ _ _ _ _ _ (by omega)) ?_
              refine WL.op rfl rfl rfl (Go.Proofs.Ytobibplilbchfaa.W.quiet_field rfl rfl (fun W => (qa_api_Proc_5 W _ _))) ?_
              refine WL.ld rfl rfl rfl rfl rfl (ql_s_api_Block _ _ _ _ _ (hm.cell (j := 5) rfl)) ?_
              refine WL.op rfl rfl rfl (Go.Proofs.Ytobibplilbchfaa.W.quiet_move rfl rfl) ?_
              refine O.ixa rfl rfl rfl rfl rfl rfl (qi_s_api_Block _ _ _ _ _ _ (by omega)) ?_
              refine WL.op rfl rfl rfl (Go.Proofs.Ytobibplilbchfaa.W.quiet_field rfl rfl (fun W => (qa_api_Block_0 W _ _))) ?_
              refine WL.ld rfl rfl rfl rfl rfl (ql_s_api_Ins _ _ _ _ _ c0) ?_
              subst hia
              refine WL.op rfl rfl rfl (Go.Proofs.Ytobibplilbchfaa.W.quiet_move rfl rfl) ?_
              refine O.ixa rfl rfl rfl rfl rfl rfl (qi_s_api_Ins _ _ _ _ _ _ (by omega)) ?_
              refine WL.ld rfl rfl rfl rfl rfl (ql_api_Ins _ _ _ _ _ _ _ _ _ _ _ _ _ _ d0 d1 d2 d3 d4 d5 d6 d7 d8 d9 d10) ?_
              refine WL.call (hr := t_insok ((bs.getD b bk0).ins.getD q inn0) aa ac _ dA ((hwd.b _ (getD_memB hb2)).2 _ (getD_memI hq2))) rfl rfl rfl rfl rfl (fun W => qk_rushlightlaw13_ins W _) ?_
              rintro e w1 ⟨b1, rfl, hi1, f1⟩
              refine ⟨_, rfl, ?_⟩
              replace bx1 := bx1.fr f1 id
              replace hm := hm.fr f1 id
              replace ff := ff.trans f1
              cases b1
              · skip
                refine WL.op rfl rfl rfl (Go.Proofs.Ytobibplilbchfaa.W.quiet_not rfl rfl) ?_
                refine O.split (fun hb => ?_) (fun hb => by exfalso; revert hb; first | (simp; done) | (simp; omega))
                refine WL.nil ?_
                refine TW.cond rfl (fun _ => ?_) (fun hb => by cases hb)
                refine TW.sreg ?_
                refine WL.op rfl rfl rfl (Go.Proofs.Ytobibplilbchfaa.W.quiet_assign rfl rfl) ?_
                refine WL.nil ?_
                refine TW.rt ?_
                refine Xw.rblk ?_
                refine Xw.thn (by simp) ?_
                refine Xw.thn (by simp) ?_
                refine Xw.rblk ?_
                refine Xw.rblk ?_
                refine Xw.thn (by simp) ?_
                refine Xw.thn (by simp) ?_
                refine Xw.rblk ?_
                refine Xw.rblk ?_
                refine Xw.thn (by simp) ?_
                refine Xw.thn (by simp) ?_
                refine Xw.rblk ?_
                refine Xw.thn (by simp) ?_
                refine bodyw_ret rfl rfl ?_
                exact ⟨false, rfl, fun h => (by cases h), ff⟩
              · skip
                refine WL.op rfl rfl rfl (Go.Proofs.Ytobibplilbchfaa.W.quiet_not rfl rfl) ?_
                refine O.split (fun hb => by exfalso; revert hb; first | (simp; done) | (simp; omega)) (fun hb => ?_)
                refine WL.nil ?_
                refine TW.cond rfl (fun hb => by cases hb) (fun _ => ?_)
                refine TW.skipx ?_
                refine Xw.nblk ?_
                refine Xw.nrm ?_
                refine TW.reg ?_
                refine WL.op rfl rfl rfl (Go.Proofs.Ytobibplilbchfaa.W.quiet_move rfl rfl) ?_
                refine WL.op rfl rfl rfl (Go.Proofs.Ytobibplilbchfaa.W.quiet_bin rfl rfl rfl (fun W => qb_add_int W _ _ _ _ (by omega) (by omega))) ?_
                refine WL.op rfl rfl rfl (Go.Proofs.Ytobibplilbchfaa.W.quiet_assign rfl rfl) ?_
                refine WL.end ?_
                refine Xw.any (fun a k => ?_)
                refine ⟨q + 1, by omega, by omega, (by (repeat (refine Kn.cons k rfl ?_)); exact k.base), ff, bx1, hm, fun k9 hk => ?_⟩
                by_cases e : k9 = q
                · rw [e]; exact hi1 rfl
                · exact hqq k9 (by omega)
            · skip
              refine WL.nil ?_
              refine TW.cond rfl (fun hb => by cases hb) (fun _ => ?_)
              refine TW.exit ?_
              refine Xw.thn (by simp) ?_
              refine Xw.thn (by simp) ?_
              refine Xw.hit ?_
              refine Xw.nblk ?_
              refine Xw.nrm ?_
              refine TW.reg ?_
              refine WL.op rfl rfl rfl (Go.Proofs.Ytobibplilbchfaa.W.quiet_move rfl rfl) ?_
              refine WL.op rfl rfl rfl (Go.Proofs.Ytobibplilbchfaa.W.quiet_bin rfl rfl rfl (fun W => qb_add_int W _ _ _ _ (by omega) (by omega))) ?_
              refine WL.op rfl rfl rfl (Go.Proofs.Ytobibplilbchfaa.W.quiet_assign rfl rfl) ?_
              refine WL.end ?_
              refine Xw.any (fun a k => ?_)
              have hje : (bs.getD b bk0).ins.length = q := by have := of_decide_eq_false hbq; omega
              subst hje
              refine ⟨b + 1, by omega, by omega, (by (repeat (refine Kn.cons k rfl ?_)); exact k.base), ff, bx1, hm, fun k9 hk => ?_⟩
              by_cases e : k9 = b
              · rw [e]; exact ⟨hil, fun i hi => by obtain ⟨q, hq, rfl⟩ := mem_of_getDi hi; exact hqq q hq⟩
              · exact hbb k9 (by omega)
        · skip
          refine WL.nil ?_
          refine TW.cond rfl (fun hb => by cases hb) (fun _ => ?_)
          refine TW.exit ?_
          refine Xw.thn (by simp) ?_
          refine Xw.thn (by simp) ?_
          refine Xw.hit ?_
          refine Xw.nblk ?_
          refine Xw.nrm ?_
          refine TW.reg ?_
          refine WL.op rfl rfl rfl (Go.Proofs.Ytobibplilbchfaa.W.quiet_move rfl rfl) ?_
          refine WL.op rfl rfl rfl (Go.Proofs.Ytobibplilbchfaa.W.quiet_bin rfl rfl rfl (fun W => qb_add_int W _ _ _ _ (by omega) (by omega))) ?_
          refine WL.op rfl rfl rfl (Go.Proofs.Ytobibplilbchfaa.W.quiet_assign rfl rfl) ?_
          refine WL.end ?_
          refine Xw.any (fun a k => ?_)
          have hje : bs.length = b := by have := of_decide_eq_false hbb_; omega
          subst hje
          refine ⟨0 + 1, by omega, by omega, (by (repeat (refine Kn.cons k rfl ?_)); exact k.base), ff, bx1, hm, fun _ => ⟨hbn, fun b9 hb9 => by obtain ⟨q, hq, rfl⟩ := mem_of_getDb hb9; exact hbb q hq⟩⟩
  · skip
    refine WL.nil ?_
    refine TW.cond rfl (fun hb => by cases hb) (fun _ => ?_)
    refine TW.exit ?_
    refine Xw.thn (by simp) ?_
    refine Xw.thn (by simp) ?_
    refine Xw.hit ?_
    refine Xw.nrm ?_
    refine TW.sreg ?_
    refine WL.op rfl rfl rfl (Go.Proofs.Ytobibplilbchfaa.W.quiet_assign rfl rfl) ?_
    refine WL.nil ?_
    refine TW.rt ?_
    refine bodyw_ret rfl rfl ?_
    exact ⟨true, rfl, fun _ => hj1 (by have := of_decide_eq_false hbj; omega), ff⟩
set_option maxRecDepth 100000 in
theorem t_few (nm : ByteArray) (vd : Bool) (pr R : Int) (oa : Option Addr) (on oc : Nat) (ba : Option Addr) (bs : List Bk) (bc : Nat) (hwd : Wd bs) (w : World) (hbl : BkL w ba bs) : Calls Try.prog 6 #[.agg #[.string nm, .bool vd, .int .i64 pr, .int .i64 R, .slice oa on oc, .slice ba bs.length bc]] w fun e w' => ∃ b, e = .returned (.bool b) ∧ (b = true → FewP R bs) ∧ Fr (fun _ => False) w w' := by
  have ff := Fr.refl (fun _ => False) w
  refine calls_tw Try.func6 rfl rfl (Nat.le_of_ble_eq_true rfl) ?_
  refine TW.sreg ?_
  have lw1 := ff.size
  refine O.boxR rfl rfl rfl rfl rfl (qxR_api_Proc w _ _ _ _ _ _ _ _ _ _) ?_
  rintro wa1 ⟨fa1, bx1⟩
  replace ff := ff.trans fa1
  refine WL.op rfl rfl rfl (Go.Proofs.Ytobibplilbchfaa.W.quiet_assign rfl rfl) ?_
  refine WL.nil ?_
  refine TW.sreg ?_
  refine WL.op rfl rfl rfl (Go.Proofs.Ytobibplilbchfaa.W.quiet_field rfl rfl (fun W => (qa_api_Proc_3 W _ _))) ?_
  refine WL.ld rfl rfl rfl rfl rfl (ql_int _ _ _ (bx1.cell (j := 3) rfl)) ?_
  refine WL.op rfl rfl rfl (Go.Proofs.Ytobibplilbchfaa.W.quiet_bin rfl rfl rfl (fun W => qb_leq_int W _ _ _ _)) ?_
  refine O.split (fun hbr => ?_) (fun hbr => ?_)
  · skip
    refine WL.op rfl rfl rfl (Go.Proofs.Ytobibplilbchfaa.W.quiet_move rfl rfl) ?_
    refine WL.ld rfl rfl rfl rfl rfl (qlB_api_Proc _ _ _ _ _ _ _ _ _ _ _ _ _ bx1) ?_
    have lt2_bx1 := bx1.lt
    have lw2 := ff.size
    refine O.bslR rfl rfl rfl rfl rfl (qv_s_api_Proc_1 wa1 _ _ _ _ _ _ _ _ _ _) ?_
    rintro wa2 ⟨fa2, bx2⟩
    replace bx1 := bx1.fr fa2 id
    replace ff := ff.trans fa2
    refine O.bld rfl rfl rfl rfl rfl (qd_api_Module_2 _ _ _ _) ?_
    refine WL.call (hr := t_few13 nm vd pr R oa on oc ba bs bc _ hwd _ bx2 (hbl.fr ff)) rfl rfl rfl rfl rfl (fun W => qk_rushlightlaw13_Few W _) ?_
    rintro e w1 ⟨b1, rfl, hb1, f1⟩
    refine ⟨_, rfl, ?_⟩
    replace bx1 := bx1.fr f1 id
    replace bx2 := bx2.fr f1 id
    replace ff := ff.trans f1
    refine WL.op rfl rfl rfl (Go.Proofs.Ytobibplilbchfaa.W.quiet_pick rfl rfl rfl) ?_
    refine WL.op rfl rfl rfl (Go.Proofs.Ytobibplilbchfaa.W.quiet_assign rfl rfl) ?_
    refine WL.nil ?_
    refine TW.rt ?_
    refine bodyw_ret rfl rfl ?_
    exact ⟨b1, rfl, fun h => ⟨of_decide_eq_true hbr, (hb1 h).1, (hb1 h).2⟩, ff⟩
  · skip
    refine WL.op rfl rfl rfl (Go.Proofs.Ytobibplilbchfaa.W.quiet_move rfl rfl) ?_
    refine WL.skip rfl rfl rfl ?_
    refine WL.skip rfl rfl rfl ?_
    refine WL.skip rfl rfl rfl ?_
    refine WL.skip rfl rfl rfl ?_
    refine WL.op rfl rfl rfl (Go.Proofs.Ytobibplilbchfaa.W.quiet_pick rfl rfl rfl) ?_
    refine WL.op rfl rfl rfl (Go.Proofs.Ytobibplilbchfaa.W.quiet_assign rfl rfl) ?_
    refine WL.nil ?_
    refine TW.rt ?_
    refine bodyw_ret rfl rfl ?_
    exact ⟨false, rfl, fun h => (by cases h), ff⟩
end Go.Proofs.Ytobibplilbchfaa
