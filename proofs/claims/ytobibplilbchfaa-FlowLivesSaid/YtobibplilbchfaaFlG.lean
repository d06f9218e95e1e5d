/-
  Flow (layer 16): the traversal of a procedure.
-/
import Derived.Test.YtobibplilbchfaaFlF
namespace Go.Proofs.Ytobibplilbchfaa
open Go.RowKit
set_option linter.unusedVariables false
set_option linter.unusedSimpArgs false
set_option linter.unnecessarySimpa false
theorem qzR_flow_traversal (w : World) : ∃ w', (Instr.alloc 56 true (.tuple #[])).run Try.prog w = .ok (.pointer (some ⟨w.heap.size, 0, none⟩)) w' ∧ (Fr (fun _ => False) w w' ∧ Bx w' w.heap.size #[.slice none 0 0, .slice none 0 0, .slice none 0 0, .slice none 0 0] 56) := ⟨w.alloc (.cells #[.slice none 0 0, .slice none 0 0, .slice none 0 0, .slice none 0 0] 56), by simp [go_sem], fr_al (Fr.refl _ _) _, Bx.new _ _ _⟩
theorem qd_flow_traversal_0 (w : World) (p0_p0 : Option Addr) (p0_k0 p0_l0 : Nat) : (Instr.build 56 #[(0, .slice p0_p0 p0_k0 p0_l0)]).run Try.prog w = .ok (.agg #[.slice p0_p0 p0_k0 p0_l0, .slice none 0 0, .slice none 0 0, .slice none 0 0]) w := by simp [go_sem]
theorem qsA_flow_traversal (w : World) (g : Nat) (z0 z1 z2 z3 : Value) (up0 : Option Addr) (uk0 ul0 : Nat) (up1 : Option Addr) (uk1 ul1 : Nat) (up2 : Option Addr) (uk2 ul2 : Nat) (up3 : Option Addr) (uk3 ul3 : Nat) (h : Bx w g #[z0, z1, z2, z3] 56) : ∃ w', (Instr.storeAt 56 (.pointer (some ⟨g, 0, none⟩)) (.agg #[.slice up0 uk0 ul0, .slice up1 uk1 ul1, .slice up2 uk2 ul2, .slice up3 uk3 ul3])).run Try.prog w = .ok () w' ∧ (Fr (fun q => q = g) w w' ∧ Bx w' g #[.slice up0 uk0 ul0, .slice up1 uk1 ul1, .slice up2 uk2 ul2, .slice up3 uk3 ul3] 56) := h.store 56 #[.slice up0 uk0 ul0, .slice up1 uk1 ul1, .slice up2 uk2 ul2, .slice up3 uk3 ul3] (by kernel_rfl) rfl (by simp [Value.oneCell'])
theorem qb_gtr_int (w : World) (x y : Operand) (m n : Int) : ((do eqGuard .gtr 3 x y (.int .i64 m) (.int .i64 n); binOp .gtr 3 (.int .i64 m) (.int .i64 n) : Sem Value)).run Try.prog w = .ok (.bool (decide (n < m))) w := by simp [go_sem]
theorem qk_flow_traversal_enter (w : World) (vs : Array Value) : (callFunc 40 vs).run Try.prog w = .ok (.enter 40 vs) w := by simp [go_sem]
theorem qi_s_flow_visit (w : World) (b o n c j : Nat) (hj : j < n) : (Instr.indexAt 54 (.slice (some ⟨b, o, none⟩) n c) (.int .i64 (j : Int))).run Try.prog w = .ok (.pointer (some ⟨b, o + j * 2, none⟩)) w := by
  have h : (j : Int) < (n : Int) := by omega
  simp [go_sem, h, hj]
theorem qa_flow_visit_1 (w : World) (b o : Nat) : (Instr.fieldAt 81 (.pointer (some ⟨b, o, none⟩)) 1).run Try.prog w = .ok (.pointer (some ⟨b, o + 1, none⟩)) w := by simp [go_sem]
theorem qa_flow_visit_0 (w : World) (b o : Nat) : (Instr.fieldAt 81 (.pointer (some ⟨b, o, none⟩)) 0).run Try.prog w = .ok (.pointer (some ⟨b, o, none⟩)) w := by simp [go_sem]
theorem qk_flow_traversal_leave (w : World) (vs : Array Value) : (callFunc 41 vs).run Try.prog w = .ok (.enter 41 vs) w := by simp [go_sem]
theorem qa_flow_traversal_3 (w : World) (b o : Nat) : (Instr.fieldAt 56 (.pointer (some ⟨b, o, none⟩)) 3).run Try.prog w = .ok (.pointer (some ⟨b, o + 3, none⟩)) w := by simp [go_sem]
theorem ql_s_2_int (w : World) (p : Option Addr) (k l : Nat) (d : Addr) (h : w.cell? d = some (.slice p k l)) : (Instr.loadAt 32 (.pointer (some d))).run Try.prog w = .ok (.slice p k l) w := by simp [go_sem, h]
theorem qd_2_int_0_1 (w : World) (p0_m0 : Int) (p1_m0 : Int) : (Instr.build 41 #[(0, .int .i64 p0_m0), (1, .int .i64 p1_m0)]).run Try.prog w = .ok (.agg #[.int .i64 p0_m0, .int .i64 p1_m0]) w := by simp [go_sem]
theorem qv_s_2_int_1 (w : World) (u0_m0 : Int) (u0_m1 : Int) : (Instr.buildSlice 32 1 #[(0, .agg #[.int .i64 u0_m0, .int .i64 u0_m1])]).run Try.prog w = .ok (.slice (some ⟨w.heap.size, 0, none⟩) 1 1) (w.alloc (.cells #[.int .i64 u0_m0, .int .i64 u0_m1] 41)) := by simp [go_sem]
theorem qsF_s_2_int (w : World) (g j : Nat) (z : Array Value) (tt : TypeId) (y : Value) (up0 : Option Addr) (uk0 ul0 : Nat) (h : Bx w g z tt) (hj : z[j]? = some y) : ∃ w', (Instr.storeAt 32 (.pointer (some ⟨g, j, none⟩)) (.slice up0 uk0 ul0)).run Try.prog w = .ok () w' ∧ (Fr (fun q => q = g) w w' ∧ Bx w' g (z.setIfInBounds j (.slice up0 uk0 ul0)) tt) := by
  have c0 := h.cell hj
  have e0 := h.free j
  exact ⟨w.setCell ⟨g, j, none⟩ (.slice up0 uk0 ul0), by simp [go_sem, c0, e0], Fr.setCell _ _ _ rfl, h.set j _⟩
theorem ql_flow_traversal (w : World) (b o : Nat) (u0 u1 u2 u3 : Value) (h0 : w.cell? ⟨b, o, none⟩ = some u0) (h1 : w.cell? ⟨b, o + 1, none⟩ = some u1) (h2 : w.cell? ⟨b, o + 2, none⟩ = some u2) (h3 : w.cell? ⟨b, o + 3, none⟩ = some u3) : (Instr.loadAt 56 (.pointer (some ⟨b, o, none⟩))).run Try.prog w = .ok (.agg #[u0, u1, u2, u3]) w := by simp [go_sem, h0, h1, h2, h3]
set_option maxRecDepth 100000 in
theorem t_traverse (nm : ByteArray) (vd : Bool) (pr R : Int) (oa : Option Addr) (on oc : Nat) (ba : Option Addr) (bs : List Bk) (bc : Nat) (hnb : bs.length ≤ 1000) (N : Nat) (hN : (iterC bs N (initC bs)).path.length = 0) (hN2 : N ≤ 50000) (w : World) (hbl : BkL w ba bs) : Calls Try.prog 22 #[.agg #[.string nm, .bool vd, .int .i64 pr, .int .i64 R, .slice oa on oc, .slice ba bs.length bc]] w fun e w' => ∃ v0 v1 vl vb, e = .returned (.agg #[v0, v1, vl, vb]) ∧ Ints w.heap.size w' vl (iterC bs N (initC bs)).left ∧ Row w.heap.size 41 2 pC w' vb (iterC bs N (initC bs)).back ∧ Fr (fun _ => False) w w' := by
  have ff := Fr.refl (fun _ => False) w
  refine calls_tw Try.func22 rfl rfl (Nat.le_of_ble_eq_true rfl) ?_
  refine TW.sreg ?_
  have lw1 := ff.size
  refine O.boxR rfl rfl rfl rfl rfl (qxR_api_Proc w _ _ _ _ _ _ _ _ _ _) ?_
  rintro wa1 ⟨fa1, bx1⟩
  replace ff := ff.trans fa1
  have lt2_bx1 := bx1.lt
  have lw2 := ff.size
  refine O.allocR rfl rfl rfl rfl (qzR_flow_traversal wa1) ?_
  rintro wa2 ⟨fa2, bx2⟩
  replace bx1 := bx1.fr fa2 id
  replace ff := ff.trans fa2
  have ffa := ff
  have bx1s := bx1
  have bx2s := bx2
  have f0 := Fr.refl (fun _ => False) wa2
  refine WL.nil ?_
  refine TW.sreg ?_
  refine WL.op rfl rfl rfl (Go.Proofs.Ytobibplilbchfaa.W.quiet_field rfl rfl (fun W => (qa_api_Proc_5 W _ _))) ?_
  refine WL.ld rfl rfl rfl rfl rfl (ql_s_api_Block _ _ _ _ _ (bx1.cell (j := 5) rfl)) ?_
  refine O.len rfl rfl rfl rfl rfl (qn_s_api_Block _ _ _ _) ?_
  have lt3_bx1 := bx1.lt
  have lt3_bx2 := bx2.lt
  have lw3 := ff.size
  refine O.mkR rfl rfl rfl rfl rfl rfl (mk_i bs.length (by omega) _) ?_
  rintro wa3 ⟨fa3, bx3⟩
  replace bx1 := bx1.fr fa3 id
  replace bx2 := bx2.fr fa3 id
  replace f0 := f0.trans fa3
  replace ff := ff.trans fa3
  refine O.bld rfl rfl rfl rfl rfl (qd_flow_traversal_0 _ _ _ _) ?_
  have lt4_bx1 := bx1.lt
  have lt4_bx2 := bx2.lt
  have lt4_bx3 := bx3.lt
  have lw4 := ff.size
  refine O.allocR rfl rfl rfl rfl (qzR_flow_traversal wa3) ?_
  rintro wa4 ⟨fa4, bx4⟩
  replace bx1 := bx1.fr fa4 id
  replace bx2 := bx2.fr fa4 id
  replace bx3 := bx3.fr fa4 id
  replace f0 := f0.trans fa4
  replace ff := ff.trans fa4
  refine O.storeR rfl rfl rfl rfl rfl (qsA_flow_traversal wa4 _ _ _ _ _ _ _ _ _ _ _ _ _ _ _ _ _ bx4) ?_
  rintro wa5 ⟨fa5, bx4x⟩
  replace bx1 := bx1.fr fa5 (fun e => by omega)
  replace bx2 := bx2.fr fa5 (fun e => by omega)
  replace bx3 := bx3.fr fa5 (fun e => by omega)
  replace f0 := f0.trans' fa5 (fun q hq e => by omega)
  replace ff := ff.trans' fa5 (fun q hq e => by omega)
  clear bx4
  have bx4 := bx4x
  clear bx4x
  have hT : Trv wa2.heap.size wa3.heap.size wa2.heap.size bs.length wa5 (.slice none 0 0) (.slice none 0 0) (.slice none 0 0) [] [] (List.replicate bs.length 0) [] [] := ⟨bx4, ints_made bx3 (Nat.le_refl _) (by omega), Row.nil _ _ _ _ _, Row.nil _ _ _ _ _, Row.nil _ _ _ _ _, (fun e => by cases e), (by have := fa3.size; omega), ⟨rfl, fun k hk => by simp at hk⟩⟩
  have ltb2 : wa1.heap.size < wa2.heap.size := by omega
  refine WL.nil ?_
  refine TW.seq ?_
  refine TW.sreg ?_
  refine WL.op rfl rfl rfl (Go.Proofs.Ytobibplilbchfaa.W.quiet_field rfl rfl (fun W => (qa_api_Proc_5 W _ _))) ?_
  refine WL.ld rfl rfl rfl rfl rfl (ql_s_api_Block _ _ _ _ _ (bx1.cell (j := 5) rfl)) ?_
  refine O.len rfl rfl rfl rfl rfl (qn_s_api_Block _ _ _ _) ?_
  refine WL.op rfl rfl rfl (Go.Proofs.Ytobibplilbchfaa.W.quiet_bin rfl rfl rfl (fun W => qb_gtr_int W _ _ _ _)) ?_
  refine O.split (fun hb1 => ?_) (fun hb1 => ?_)
  · skip
    refine WL.nil ?_
    refine TW.cond rfl (fun _ => ?_) (fun hb => by cases hb)
    refine TW.reg ?_
    refine WL.ld rfl rfl rfl rfl rfl (qlB_api_Proc _ _ _ _ _ _ _ _ _ _ _ _ _ bx1) ?_
    refine WL.call (hr := t_enter nm vd pr R oa on oc ba bs bc 0 (by have := of_decide_eq_true hb1; omega) wa2.heap.size wa3.heap.size wa2.heap.size _ _ _ _ _ _ _ _ (by simp) wa2 _ (Nat.le_refl _) f0 hT (hbl.fr ffa)) rfl rfl rfl rfl rfl (fun W => qk_flow_traversal_enter W _) ?_
    rintro e w6 ⟨rfl, ⟨vp2, ms2, hT2⟩, hf2⟩
    refine ⟨_, rfl, ?_⟩
    replace f0 := hf2
    replace hT : Trv wa2.heap.size wa3.heap.size wa2.heap.size bs.length w6 vp2 (.slice none 0 0) (.slice none 0 0) ms2 (initC bs).path (initC bs).st (initC bs).left (initC bs).back := by unfold initC; rw [if_neg (by have := of_decide_eq_true hb1; omega)]; exact hT2
    refine WL.nil ?_
    refine TW.seq ?_
    refine TW.block ?_
    refine O.loopX (n := N) (fun j a W => ∃ (vp vl vb : Value) (ms : List Vs), Kn Try.f22.ntmps [(1, .pointer (some ⟨w.heap.size, 0, none⟩)), (2, .pointer (some ⟨wa1.heap.size, 0, none⟩)), (3, .pointer (some ⟨wa3.heap.size, 0, none⟩))] a ∧ Fr (fun _ => False) wa2 W ∧ Trv wa2.heap.size wa3.heap.size wa2.heap.size bs.length W vp vl vb ms (iterC bs j (initC bs)).path (iterC bs j (initC bs)).st (iterC bs j (initC bs)).left (iterC bs j (initC bs)).back) 0 (Nat.zero_le _) (fun a k => ⟨_, _, _, _, (by (repeat (refine Kn.cons k rfl ?_)); exact k.base), f0, hT⟩) ?_
    rintro j a wl hj ⟨vp, vl, vb, ms, k, f0, hT⟩
    refine TW.app (s := [(1, .pointer (some ⟨w.heap.size, 0, none⟩)), (2, .pointer (some ⟨wa1.heap.size, 0, none⟩)), (3, .pointer (some ⟨wa3.heap.size, 0, none⟩))]) ?_ k
    obtain ⟨pa0, pc0, rfl⟩ := Row.form hT.hp
    obtain ⟨hst, _, _⟩ := Row.capLe hT.hs
    have hms := hT.rel.1
    have hok := ok_iter bs j
    obtain ⟨c, hcj⟩ : ∃ c, (iterC bs j (initC bs)) = c := ⟨_, rfl⟩
    rw [hcj] at hT hms hok hst
    have hok1 := hok.lp
    have hok2 := hok.ll
    have hok3 := hok.lb
    refine TW.seq ?_
    refine TW.sreg ?_
    refine WL.op rfl rfl rfl (Go.Proofs.Ytobibplilbchfaa.W.quiet_field rfl rfl (fun W => (qa_flow_traversal_1 W _ _))) ?_
    refine WL.ld rfl rfl rfl rfl rfl (ql_s_flow_visit _ _ _ _ _ (hT.bx.cell (j := 1) rfl)) ?_
    refine O.len rfl rfl rfl rfl rfl (qn_s_flow_visit _ _ _ _) ?_
    refine WL.op rfl rfl rfl (Go.Proofs.Ytobibplilbchfaa.W.quiet_bin rfl rfl rfl (fun W => qb_gtr_int W _ _ _ _)) ?_
    refine O.split (fun hb4 => ?_) (fun hb4 => ?_)
    · skip
      have hp : 0 < c.path.length := by have := of_decide_eq_true hb4; omega
      have hjN : j < N := Nat.lt_of_not_le (fun e => by obtain rfl : j = N := (by omega); rw [hcj] at hN; omega)
      have hA := hT.aps
      obtain ⟨gp, pcap, he, hpo⟩ := Row.own hT.hp (by omega)
      cases he
      obtain ⟨hv0, hv1⟩ := vs_cells hT.hp (k := c.path.length - 1) (by omega)
      obtain ⟨hx1, hx2, hx4, hx3⟩ := hT.rel.2 (c.path.length - 1) (by omega)
      rw [show c.path.getD (c.path.length - 1) (0, []) = c.top from rfl] at hx1 hx2 hx3
      generalize hxg : ms.getD (c.path.length - 1) vs0 = x at *
      rw [hx1] at hv0
      obtain ⟨hr1, hr2⟩ := hok.rg _ (top_mem hp)
      unfold InB at hr1 hr2
      refine WL.nil ?_
      refine TW.cond rfl (fun _ => ?_) (fun hb => by cases hb)
      refine TW.skip ?_
      refine TW.block ?_
      refine TW.sreg ?_
      refine WL.op rfl rfl rfl (Go.Proofs.Ytobibplilbchfaa.W.quiet_field rfl rfl (fun W => (qa_flow_traversal_1 W _ _))) ?_
      refine WL.ld rfl rfl rfl rfl rfl (ql_s_flow_visit _ _ _ _ _ (hT.bx.cell (j := 1) rfl)) ?_
      refine WL.op rfl rfl rfl (Go.Proofs.Ytobibplilbchfaa.W.quiet_field rfl rfl (fun W => (qa_flow_traversal_1 W _ _))) ?_
      refine WL.ld rfl rfl rfl rfl rfl (ql_s_flow_visit _ _ _ _ _ (hT.bx.cell (j := 1) rfl)) ?_
      refine O.len rfl rfl rfl rfl rfl (qn_s_flow_visit _ _ _ _) ?_
      refine WL.op rfl rfl rfl (Go.Proofs.Ytobibplilbchfaa.W.quiet_bin rfl rfl rfl (fun W => (qb_sub_int W _ _ _ _ (by omega) (by omega)).trans (by rw [show ((ms.length : Int) - 1) = ((c.path.length - 1 : Nat) : Int) by omega]))) ?_
      refine O.ixa rfl rfl rfl rfl rfl rfl (qi_s_flow_visit _ _ _ _ _ _ (by omega)) ?_
      refine WL.op rfl rfl rfl (Go.Proofs.Ytobibplilbchfaa.W.quiet_assign rfl rfl) ?_
      refine WL.nil ?_
      refine TW.seq ?_
      refine TW.sreg ?_
      refine WL.op rfl rfl rfl (Go.Proofs.Ytobibplilbchfaa.W.quiet_move rfl rfl) ?_
      refine O.nck rfl rfl rfl rfl rfl ?_
      refine WL.op rfl rfl rfl (Go.Proofs.Ytobibplilbchfaa.W.quiet_field rfl rfl (fun W => (qa_flow_visit_1 W _ _))) ?_
      refine WL.ld rfl rfl rfl rfl rfl (ql_s_int _ _ _ _ _ hv1) ?_
      refine O.len rfl rfl rfl rfl rfl (qn_s_int _ _ _ _) ?_
      refine WL.op rfl rfl rfl (Go.Proofs.Ytobibplilbchfaa.W.quiet_bin rfl rfl rfl (fun W => qb_eql_int W _ _ _ _)) ?_
      refine O.split (fun hb6 => ?_) (fun hb6 => ?_)
      · skip
        refine WL.nil ?_
        refine TW.cond rfl (fun _ => ?_) (fun hb => by cases hb)
        refine TW.sreg ?_
        refine WL.op rfl rfl rfl (Go.Proofs.Ytobibplilbchfaa.W.quiet_move rfl rfl) ?_
        refine O.nck rfl rfl rfl rfl rfl ?_
        refine WL.op rfl rfl rfl (Go.Proofs.Ytobibplilbchfaa.W.quiet_field rfl rfl (fun W => (qa_flow_visit_0 W _ _))) ?_
        refine WL.ld rfl rfl rfl rfl rfl (ql_int _ _ _ hv0) ?_
        obtain ⟨tn, htn⟩ : ∃ tn : Nat, c.top.1 = (tn : Int) := ⟨c.top.1.toNat, by omega⟩
        rw [htn]
        refine WL.call (hr := t_leave bs.length tn (by omega) wa2.heap.size wa3.heap.size wa2.heap.size _ _ _ _ _ _ _ _ (by omega) wa2 _ (Nat.le_refl _) f0 hT (by omega) hp) rfl rfl rfl rfl rfl (fun W => qk_flow_traversal_leave W _) ?_
        rintro e w2 ⟨rfl, ⟨vp2, vl2, ms2, hT2⟩, hf2⟩
        refine ⟨_, rfl, ?_⟩
        refine WL.nil ?_
        refine TW.exit ?_
        refine Xw.thn (by simp) ?_
        refine Xw.hit ?_
        refine Xw.any (fun a k => ?_)
        have hT := hT2
        have f0 := hf2
        have hxk : (x.k : Int) = 0 := by simpa using hb6
        have htop : c.top.2 = [] := List.eq_nil_of_length_eq_zero (by omega)
        refine ⟨j + 1, by omega, by omega, ?_, ?_, ?_, ?_, (by (repeat (refine Kn.cons k rfl ?_)); exact k.base), f0, ?_⟩
        rotate_left 4
        show Trv _ _ _ _ _ _ _ _ _ (stepC bs (iterC bs j (initC bs))).path (stepC bs (iterC bs j (initC bs))).st (stepC bs (iterC bs j (initC bs))).left (stepC bs (iterC bs j (initC bs))).back
        rw [hcj, step_leave hp htop, show c.top.1.toNat = tn by omega, htn]
        exact hT
      · skip
        have hxk : ¬ (x.k : Int) = 0 := by simpa using hb6
        obtain ⟨y, r, hyr⟩ : ∃ y r, c.top.2 = y :: r := (by cases h : c.top.2 with | nil => (rw [h] at hx2; simp at hx2; omega) | cons y r => exact ⟨y, r, rfl⟩)
        rw [hyr] at hx2 hx3 hr2
        have hy := hr2 y (by simp)
        obtain ⟨gr, or_, hxa, hc0, hg1, hg2, hg3⟩ := hx3 0 (by simp)
        simp only [List.getD_cons_zero] at hc0
        have hxl : x.k = r.length + 1 := by simpa using hx2
        refine WL.nil ?_
        refine TW.cond rfl (fun hb => by cases hb) (fun _ => ?_)
        refine TW.skip ?_
        refine TW.sreg ?_
        refine WL.op rfl rfl rfl (Go.Proofs.Ytobibplilbchfaa.W.quiet_move rfl rfl) ?_
        refine O.nck rfl rfl rfl rfl rfl ?_
        refine WL.op rfl rfl rfl (Go.Proofs.Ytobibplilbchfaa.W.quiet_field rfl rfl (fun W => (qa_flow_visit_1 W _ _))) ?_
        refine WL.ld rfl rfl rfl rfl rfl (ql_s_int _ _ _ _ _ hv1) ?_
        rw [hxa]
        refine O.ixa rfl rfl rfl rfl rfl rfl (qi_s_int _ gr or_ x.k x.c 0 (by omega)) ?_
        refine WL.ld rfl rfl rfl rfl rfl (ql_int _ _ _ hc0) ?_
        refine WL.op rfl rfl rfl (Go.Proofs.Ytobibplilbchfaa.W.quiet_assign rfl rfl) ?_
        refine WL.nil ?_
        refine TW.sreg ?_
        refine WL.op rfl rfl rfl (Go.Proofs.Ytobibplilbchfaa.W.quiet_move rfl rfl) ?_
        refine WL.op rfl rfl rfl (Go.Proofs.Ytobibplilbchfaa.W.quiet_move rfl rfl) ?_
        refine O.nck rfl rfl rfl rfl rfl ?_
        refine WL.op rfl rfl rfl (Go.Proofs.Ytobibplilbchfaa.W.quiet_field rfl rfl (fun W => (qa_flow_visit_1 W _ _))) ?_
        refine WL.ld rfl rfl rfl rfl rfl (ql_s_int _ _ _ _ _ hv1) ?_
        rw [hxa]
        refine O.sl1 rfl rfl rfl rfl rfl rfl (sl_from _ gr or_ x.k x.c 1 (by omega)) ?_
        refine O.nck rfl rfl rfl rfl rfl ?_
        refine WL.op rfl rfl rfl (Go.Proofs.Ytobibplilbchfaa.W.quiet_field rfl rfl (fun W => (qa_flow_visit_1 W _ _))) ?_
        refine O.storeR rfl rfl rfl rfl rfl (vs_store hT.hp (k := c.path.length - 1) (by omega) _ _ _) ?_
        rintro w5 ⟨hR, hF1⟩
        rw [hxg] at hR
        rw [hxa] at hx3
        have hrest := RestA.tail (n := x.k) (c := x.c) hx3 (by omega)
        replace f0 := f0.trans' hF1 (fun q hq e => by have := (hA.xp gp hpo).1; omega)
        replace hT := hT.top (ms' := ms.set (c.path.length - 1) ⟨x.n, some ⟨gr, if x.c = 1 then or_ else or_ + 1, none⟩, x.k - 1, x.c - 1⟩) (path' := c.path.set (c.path.length - 1) (c.top.1, r)) hR (hF1.mono (fun q _ e => by rw [e]; exact hpo)) (hT.rel.set hx1 (by show x.k - 1 = r.length; omega) (by show x.k - 1 ≤ x.c - 1; omega) hrest)
        have hA := hT.aps
        obtain ⟨hv0, _⟩ := vs_cells hT.hp (k := c.path.length - 1) (by rw [List.length_set]; omega)
        rw [getD_set (by omega)] at hv0
        replace hv0 : w5.cell? ⟨gp, 0 + (c.path.length - 1) * 2, none⟩ = some (.int .i64 c.top.1) := by rw [← hx1]; exact hv0
        obtain ⟨yn, hyn⟩ : ∃ yn : Nat, y = (yn : Int) := ⟨y.toNat, by omega⟩
        have hytn : y.toNat = yn := by omega
        rw [hyn]
        refine WL.nil ?_
        refine TW.sreg ?_
        refine WL.op rfl rfl rfl (Go.Proofs.Ytobibplilbchfaa.W.quiet_field rfl rfl (fun W => (qa_flow_traversal_0 W _ _))) ?_
        refine WL.ld rfl rfl rfl rfl rfl (ql_s_int _ _ _ _ _ (hT.bx.cell (j := 0) rfl)) ?_
        refine WL.op rfl rfl rfl (Go.Proofs.Ytobibplilbchfaa.W.quiet_move rfl rfl) ?_
        refine O.ixa rfl rfl rfl rfl rfl rfl (qi_s_int _ _ _ _ _ _ (by omega)) ?_
        refine WL.ld rfl rfl rfl rfl rfl (ql_int _ _ _ (hT.hs.cell (k := yn) (by omega))) ?_
        refine WL.nil ?_
        refine TW.block ?_
        refine TW.sreg ?_
        refine WL.op rfl rfl rfl (Go.Proofs.Ytobibplilbchfaa.W.quiet_bin rfl rfl rfl (fun W => qb_eql_int W _ _ _ _)) ?_
        refine O.split (fun hb7 => ?_) (fun hb7 => ?_)
        · skip
          refine WL.op rfl rfl rfl (Go.Proofs.Ytobibplilbchfaa.W.quiet_assign rfl rfl) ?_
          refine WL.nil ?_
          refine TW.cond rfl (fun _ => ?_) (fun hb => by cases hb)
          refine TW.reg ?_
          refine WL.ld rfl rfl rfl rfl rfl (qlB_api_Proc _ _ _ _ _ _ _ _ _ _ _ _ _ (bx1s.fr f0 id)) ?_
          refine WL.op rfl rfl rfl (Go.Proofs.Ytobibplilbchfaa.W.quiet_move rfl rfl) ?_
          refine WL.call (hr := t_enter nm vd pr R oa on oc ba bs bc yn (by omega) wa2.heap.size wa3.heap.size wa2.heap.size _ _ _ _ _ _ _ _ (by rw [List.length_set]; omega) wa2 _ (Nat.le_refl _) f0 hT (hbl.fr ffa)) rfl rfl rfl rfl rfl (fun W => qk_flow_traversal_enter W _) ?_
          rintro e w7 ⟨rfl, ⟨vp2, ms2, hT2⟩, hf2⟩
          refine ⟨_, rfl, ?_⟩
          refine WL.end ?_
          refine Xw.nblk ?_
          refine Xw.nblk ?_
          refine Xw.any (fun a k => ?_)
          have hT := hT2
          have f0 := hf2
          have h3 : c.st.getD y.toNat 0 = 0 := by rw [hytn]; simpa using hb7
          refine ⟨j + 1, by omega, by omega, ?_, ?_, ?_, ?_, (by (repeat (refine Kn.cons k rfl ?_)); exact k.base), f0, ?_⟩
          rotate_left 4
          show Trv _ _ _ _ _ _ _ _ _ (stepC bs (iterC bs j (initC bs))).path (stepC bs (iterC bs j (initC bs))).st (stepC bs (iterC bs j (initC bs))).left (stepC bs (iterC bs j (initC bs))).back
          rw [hcj, step_enter hp hyr h3, hytn, hyn]
          exact hT
        · skip
          have h3 : c.st.getD y.toNat 0 ≠ 0 := by rw [hytn]; simpa using hb7
          refine WL.op rfl rfl rfl (Go.Proofs.Ytobibplilbchfaa.W.quiet_assign rfl rfl) ?_
          refine WL.nil ?_
          refine TW.cond rfl (fun hb => by cases hb) (fun _ => ?_)
          refine TW.sreg ?_
          refine WL.op rfl rfl rfl (Go.Proofs.Ytobibplilbchfaa.W.quiet_bin rfl rfl rfl (fun W => qb_eql_int W _ _ _ _)) ?_
          refine O.split (fun hb8 => ?_) (fun hb8 => ?_)
          · skip
            have h4 : c.st.getD y.toNat 0 = 1 := by rw [hytn]; simpa using hb8
            obtain ⟨ba2, bc2, rfl⟩ := Row.form hT.hb
            have hgt : ¬ gp = wa3.heap.size := fun e => hA.pt (by rw [← e]; exact hpo)
            have hgb : ¬ (Value.slice ba2 c.back.length bc2).ownBlock = some gp := fun e => hA.pb gp hpo e
            refine WL.op rfl rfl rfl (Go.Proofs.Ytobibplilbchfaa.W.quiet_assign rfl rfl) ?_
            refine WL.nil ?_
            refine TW.cond rfl (fun _ => ?_) (fun hb => by cases hb)
            refine TW.regH (fun W => Fr (fun q => q = wa3.heap.size ∨ (Value.slice ba2 c.back.length bc2).ownBlock = some q) w5 W) (by kernel_rfl) ?_
            have fd : Fr (fun _ => False) w5 w5.drew := (Fr.refl _ _).drewN 1
            have HW : Fr (fun q => q = wa3.heap.size ∨ (Value.slice ba2 c.back.length bc2).ownBlock = some q) w5 w5.drew := (Fr.refl _ _).drewN 1
            replace hT := hT.fr fd
            replace f0 := f0.trans fd
            generalize hV : w5.drew = V1 at *
            clear hV
            refine WH.take 0 rfl (by kernel_rfl) (by kernel_rfl) (by kernel_rfl) (fun _ _ _ _ _ h => h) rfl rfl rfl HW (RH.field rfl rfl (fun W => qa_flow_traversal_3 W _ _)) ?_
            refine WH.take 2 rfl (by kernel_rfl) (by kernel_rfl) (by kernel_rfl) (fun _ _ _ _ _ h => h) rfl rfl rfl HW (RH.move rfl rfl) ?_
            refine WH.take 3 rfl (by kernel_rfl) (by kernel_rfl) (by kernel_rfl) (fun _ _ _ _ _ h => h) rfl rfl rfl HW (RH.nck rfl rfl) ?_
            refine WH.take 4 rfl (by kernel_rfl) (by kernel_rfl) (by kernel_rfl) (fun _ _ _ _ _ h => h) rfl rfl rfl HW (RH.field rfl rfl (fun W => qa_flow_visit_0 W _ _)) ?_
            refine WH.take 5 rfl (by kernel_rfl) (by kernel_rfl) (by kernel_rfl) (fun _ _ _ _ _ h => h) rfl rfl rfl HW (RH.load rfl rfl (fun W hW => ql_int _ _ _ (hW.cell hv0 (fun e => by rcases e with e | e; exact hgt e; exact hgb e)))) ?_
            refine WH.take 6 rfl (by kernel_rfl) (by kernel_rfl) (by kernel_rfl) (fun _ _ _ _ _ h => h) rfl rfl rfl HW (RH.move rfl rfl) ?_
            refine WH.two 1 7 (by kernel_rfl) rfl rfl ?_ ?_ 
            · skip
              refine WL.ld rfl rfl rfl rfl rfl (ql_s_2_int _ _ _ _ _ (by first | exact hT.bx.cell (j := 3) rfl | exact (hT.bx.fr (fr_al (Fr.refl (fun _ => False) _) _) id).cell (j := 3) rfl)) ?_
              refine WL.fin HW ?_
              refine WH.one 7 (by kernel_rfl) rfl ?_ 
              refine O.bld rfl rfl rfl rfl rfl (qd_2_int_0_1 _ _ _) ?_
              refine WL.fin HW ?_
              refine WH.one 8 (by kernel_rfl) rfl ?_ 
              refine O.bsl rfl rfl rfl rfl rfl (qv_s_2_int_1 _ _ _) ?_
              refine WL.fin (fr_al HW _) ?_
              refine WH.one 9 (by kernel_rfl) rfl ?_ 
              refine WL.append rfl rfl rfl rfl rfl rfl (pr_app (c.top.1, (yn : Int)) _ hT.hb (by have := hT.aps.xt; omega) (by omega)) ?_
              rintro vq wq ⟨hR, hF1, hn1⟩
              -- world wq
              replace HW := HW.trans' hF1 (fun q hq e => by first | exact e | exact Or.inl e | exact Or.inr e | omega)
              refine WL.fin HW ?_
              refine WH.take 10 rfl (by kernel_rfl) (by kernel_rfl) (by kernel_rfl) (fun _ _ _ _ _ h => h) rfl rfl rfl HW (RH.field rfl rfl (fun W => qa_flow_traversal_3 W _ _)) ?_
              refine WH.one 11 (by kernel_rfl) rfl ?_ 
              obtain ⟨qa, qc, rfl⟩ := Row.form hR
              refine O.storeR rfl rfl rfl rfl rfl (qsF_s_2_int _ wa3.heap.size 3 _ _ _ _ _ _ (hT.bx.fr hF1 (fun e => hT.aps.bt e)) rfl) ?_
              rintro w9 ⟨hF2, hbx2⟩
              replace HW := HW.trans' hF2 (fun q hq e => by first | exact e | exact Or.inl e | exact Or.inr e | omega)
              refine WL.fin HW ?_
              refine WH.end (by kernel_rfl) ?_
              refine Xw.nblk ?_
              refine Xw.nblk ?_
              refine Xw.any (fun a k => ?_)
              have hT := hT.setB (back' := c.back ++ [(c.top.1, y)]) (by rw [hyn]; exact hR) hF1 hbx2 hF2
              have f0 := (f0.trans' hF1 (fun q hq e => by have := (hA.xb q e).1; omega)).trans' hF2 (fun q hq e => by have := hA.xt; omega)
              refine ⟨j + 1, by omega, by omega, ?_, ?_, ?_, ?_, (by (repeat (refine Kn.cons k rfl ?_)); exact k.base), f0, ?_⟩
              rotate_left 4
              show Trv _ _ _ _ _ _ _ _ _ (stepC bs (iterC bs j (initC bs))).path (stepC bs (iterC bs j (initC bs))).st (stepC bs (iterC bs j (initC bs))).left (stepC bs (iterC bs j (initC bs))).back
              rw [hcj, step_back hp hyr h4]
              exact hT
            · skip
              refine O.bld rfl rfl rfl rfl rfl (qd_2_int_0_1 _ _ _) ?_
              refine WL.fin HW ?_
              refine WH.two 1 8 (by kernel_rfl) rfl rfl ?_ ?_ 
              · skip
                refine WL.ld rfl rfl rfl rfl rfl (ql_s_2_int _ _ _ _ _ (by first | exact hT.bx.cell (j := 3) rfl | exact (hT.bx.fr (fr_al (Fr.refl (fun _ => False) _) _) id).cell (j := 3) rfl)) ?_
                refine WL.fin HW ?_
                refine WH.one 8 (by kernel_rfl) rfl ?_ 
                refine O.bsl rfl rfl rfl rfl rfl (qv_s_2_int_1 _ _ _) ?_
                refine WL.fin (fr_al HW _) ?_
                refine WH.one 9 (by kernel_rfl) rfl ?_ 
                refine WL.append rfl rfl rfl rfl rfl rfl (pr_app (c.top.1, (yn : Int)) _ hT.hb (by have := hT.aps.xt; omega) (by omega)) ?_
                rintro vq wq ⟨hR, hF1, hn1⟩
                -- world wq
                replace HW := HW.trans' hF1 (fun q hq e => by first | exact e | exact Or.inl e | exact Or.inr e | omega)
                refine WL.fin HW ?_
                refine WH.take 10 rfl (by kernel_rfl) (by kernel_rfl) (by kernel_rfl) (fun _ _ _ _ _ h => h) rfl rfl rfl HW (RH.field rfl rfl (fun W => qa_flow_traversal_3 W _ _)) ?_
                refine WH.one 11 (by kernel_rfl) rfl ?_ 
                obtain ⟨qa, qc, rfl⟩ := Row.form hR
                refine O.storeR rfl rfl rfl rfl rfl (qsF_s_2_int _ wa3.heap.size 3 _ _ _ _ _ _ (hT.bx.fr hF1 (fun e => hT.aps.bt e)) rfl) ?_
                rintro w9 ⟨hF2, hbx2⟩
                replace HW := HW.trans' hF2 (fun q hq e => by first | exact e | exact Or.inl e | exact Or.inr e | omega)
                refine WL.fin HW ?_
                refine WH.end (by kernel_rfl) ?_
                refine Xw.nblk ?_
                refine Xw.nblk ?_
                refine Xw.any (fun a k => ?_)
                have hT := hT.setB (back' := c.back ++ [(c.top.1, y)]) (by rw [hyn]; exact hR) hF1 hbx2 hF2
                have f0 := (f0.trans' hF1 (fun q hq e => by have := (hA.xb q e).1; omega)).trans' hF2 (fun q hq e => by have := hA.xt; omega)
                refine ⟨j + 1, by omega, by omega, ?_, ?_, ?_, ?_, (by (repeat (refine Kn.cons k rfl ?_)); exact k.base), f0, ?_⟩
                rotate_left 4
                show Trv _ _ _ _ _ _ _ _ _ (stepC bs (iterC bs j (initC bs))).path (stepC bs (iterC bs j (initC bs))).st (stepC bs (iterC bs j (initC bs))).left (stepC bs (iterC bs j (initC bs))).back
                rw [hcj, step_back hp hyr h4]
                exact hT
              · skip
                refine O.bsl rfl rfl rfl rfl rfl (qv_s_2_int_1 _ _ _) ?_
                refine WL.fin (fr_al HW _) ?_
                refine WH.one 1 (by kernel_rfl) rfl ?_ 
                refine WL.ld rfl rfl rfl rfl rfl (ql_s_2_int _ _ _ _ _ (by first | exact hT.bx.cell (j := 3) rfl | exact (hT.bx.fr (fr_al (Fr.refl (fun _ => False) _) _) id).cell (j := 3) rfl)) ?_
                refine WL.fin (fr_al HW _) ?_
                refine WH.one 9 (by kernel_rfl) rfl ?_ 
                refine WL.append rfl rfl rfl rfl rfl rfl (pr_app (c.top.1, (yn : Int)) _ hT.hb (by have := hT.aps.xt; omega) (by omega)) ?_
                rintro vq wq ⟨hR, hF1, hn1⟩
                -- world wq
                replace HW := HW.trans' hF1 (fun q hq e => by first | exact e | exact Or.inl e | exact Or.inr e | omega)
                refine WL.fin HW ?_
                refine WH.take 10 rfl (by kernel_rfl) (by kernel_rfl) (by kernel_rfl) (fun _ _ _ _ _ h => h) rfl rfl rfl HW (RH.field rfl rfl (fun W => qa_flow_traversal_3 W _ _)) ?_
                refine WH.one 11 (by kernel_rfl) rfl ?_ 
                obtain ⟨qa, qc, rfl⟩ := Row.form hR
                refine O.storeR rfl rfl rfl rfl rfl (qsF_s_2_int _ wa3.heap.size 3 _ _ _ _ _ _ (hT.bx.fr hF1 (fun e => hT.aps.bt e)) rfl) ?_
                rintro w9 ⟨hF2, hbx2⟩
                replace HW := HW.trans' hF2 (fun q hq e => by first | exact e | exact Or.inl e | exact Or.inr e | omega)
                refine WL.fin HW ?_
                refine WH.end (by kernel_rfl) ?_
                refine Xw.nblk ?_
                refine Xw.nblk ?_
                refine Xw.any (fun a k => ?_)
                have hT := hT.setB (back' := c.back ++ [(c.top.1, y)]) (by rw [hyn]; exact hR) hF1 hbx2 hF2
                have f0 := (f0.trans' hF1 (fun q hq e => by have := (hA.xb q e).1; omega)).trans' hF2 (fun q hq e => by have := hA.xt; omega)
                refine ⟨j + 1, by omega, by omega, ?_, ?_, ?_, ?_, (by (repeat (refine Kn.cons k rfl ?_)); exact k.base), f0, ?_⟩
                rotate_left 4
                show Trv _ _ _ _ _ _ _ _ _ (stepC bs (iterC bs j (initC bs))).path (stepC bs (iterC bs j (initC bs))).st (stepC bs (iterC bs j (initC bs))).left (stepC bs (iterC bs j (initC bs))).back
                rw [hcj, step_back hp hyr h4]
                exact hT
          · skip
            refine WL.op rfl rfl rfl (Go.Proofs.Ytobibplilbchfaa.W.quiet_assign rfl rfl) ?_
            refine WL.nil ?_
            refine TW.cond rfl (fun hb => by cases hb) (fun _ => ?_)
            refine TW.skipx ?_
            refine Xw.nblk ?_
            refine Xw.nblk ?_
            refine Xw.any (fun a k => ?_)
            have h4 : c.st.getD y.toNat 0 ≠ 1 := by rw [hytn]; simpa using hb8
            refine ⟨j + 1, by omega, by omega, ?_, ?_, ?_, ?_, (by (repeat (refine Kn.cons k rfl ?_)); exact k.base), f0, ?_⟩
            rotate_left 4
            show Trv _ _ _ _ _ _ _ _ _ (stepC bs (iterC bs j (initC bs))).path (stepC bs (iterC bs j (initC bs))).st (stepC bs (iterC bs j (initC bs))).left (stepC bs (iterC bs j (initC bs))).back
            rw [hcj, step_skip hp hyr h3 h4]
            exact hT
    · skip
      obtain ⟨la, lc, rfl⟩ := Row.form hT.hl
      obtain ⟨ba2, bc2, rfl⟩ := Row.form hT.hb
      have hend : c.path.length = 0 := by have := of_decide_eq_false hb4; omega
      have hcN : iterC bs N (initC bs) = c := by obtain ⟨d, rfl⟩ := Nat.exists_eq_add_of_le hj; rw [← hcj]; exact iter_end (by rw [hcj]; exact hend) d
      have bx2 := bx2s.fr f0 id
      have hw2 := ffa.size
      refine WL.nil ?_
      refine TW.cond rfl (fun hb => by cases hb) (fun _ => ?_)
      refine TW.exit ?_
      refine Xw.thn (by simp) ?_
      refine Xw.thn (by simp) ?_
      refine Xw.hit ?_
      refine Xw.nrm ?_
      refine TW.sreg ?_
      refine WL.ld rfl rfl rfl rfl rfl (ql_flow_traversal _ _ _ _ _ _ _ (hT.bx.cell (j := 0) rfl) (hT.bx.cell (j := 1) rfl) (hT.bx.cell (j := 2) rfl) (hT.bx.cell (j := 3) rfl)) ?_
      refine O.storeR rfl rfl rfl rfl rfl (qsA_flow_traversal wl _ _ _ _ _ _ _ _ _ _ _ _ _ _ _ _ _ bx2) ?_
      rintro wa6 ⟨fa6, bx2x⟩
      clear bx2
      have bx2 := bx2x
      clear bx2x
      refine WL.nil ?_
      refine TW.rt ?_
      refine O.retc1 rfl rfl (run_loadVar_row _ _ _ 56 _ _ _ bx2 Try.underlying56 rfl (by kernel_rfl)) ?_
      have hlt := bx2.lt
      refine ⟨_, _, _, _, rfl, ?_, ?_, (ffa.trans f0).trans' fa6 (fun q hq e => by omega)⟩
      · rw [hcN]; exact (Row.base hT.hl (fun k hk => by have := (Row.lt hT.hl k hk).1; omega)).fr fa6 (fun k hk e => by have := (Row.lt hT.hl k hk).1; have := ltb2; omega)
      · rw [hcN]; exact Row.fr (Row.base hT.hb (fun k hk => by have := (Row.lt hT.hb k hk).1; omega)) fa6 (fun k hk e => by have := (Row.lt hT.hb k hk).1; have := ltb2; omega)
  · skip
    have hz : bs.length = 0 := by have := of_decide_eq_false hb1; omega
    replace hT : Trv wa2.heap.size wa3.heap.size wa2.heap.size bs.length wa5 (.slice none 0 0) (.slice none 0 0) (.slice none 0 0) [] (initC bs).path (initC bs).st (initC bs).left (initC bs).back := by unfold initC; rw [if_pos hz]; rw [hz] at hT ⊢; exact hT
    refine WL.nil ?_
    refine TW.cond rfl (fun hb => by cases hb) (fun _ => ?_)
    refine TW.skip ?_
    refine TW.seq ?_
    refine TW.block ?_
    refine O.loopX (n := N) (fun j a W => ∃ (vp vl vb : Value) (ms : List Vs), Kn Try.f22.ntmps [(1, .pointer (some ⟨w.heap.size, 0, none⟩)), (2, .pointer (some ⟨wa1.heap.size, 0, none⟩)), (3, .pointer (some ⟨wa3.heap.size, 0, none⟩))] a ∧ Fr (fun _ => False) wa2 W ∧ Trv wa2.heap.size wa3.heap.size wa2.heap.size bs.length W vp vl vb ms (iterC bs j (initC bs)).path (iterC bs j (initC bs)).st (iterC bs j (initC bs)).left (iterC bs j (initC bs)).back) 0 (Nat.zero_le _) (fun a k => ⟨_, _, _, _, (by (repeat (refine Kn.cons k rfl ?_)); exact k.base), f0, hT⟩) ?_
    rintro j a wl hj ⟨vp, vl, vb, ms, k, f0, hT⟩
    refine TW.app (s := [(1, .pointer (some ⟨w.heap.size, 0, none⟩)), (2, .pointer (some ⟨wa1.heap.size, 0, none⟩)), (3, .pointer (some ⟨wa3.heap.size, 0, none⟩))]) ?_ k
    obtain ⟨pa0, pc0, rfl⟩ := Row.form hT.hp
    obtain ⟨hst, _, _⟩ := Row.capLe hT.hs
    have hms := hT.rel.1
    have hok := ok_iter bs j
    obtain ⟨c, hcj⟩ : ∃ c, (iterC bs j (initC bs)) = c := ⟨_, rfl⟩
    rw [hcj] at hT hms hok hst
    have hok1 := hok.lp
    have hok2 := hok.ll
    have hok3 := hok.lb
    refine TW.seq ?_
    refine TW.sreg ?_
    refine WL.op rfl rfl rfl (Go.Proofs.Ytobibplilbchfaa.W.quiet_field rfl rfl (fun W => (qa_flow_traversal_1 W _ _))) ?_
    refine WL.ld rfl rfl rfl rfl rfl (ql_s_flow_visit _ _ _ _ _ (hT.bx.cell (j := 1) rfl)) ?_
    refine O.len rfl rfl rfl rfl rfl (qn_s_flow_visit _ _ _ _) ?_
    refine WL.op rfl rfl rfl (Go.Proofs.Ytobibplilbchfaa.W.quiet_bin rfl rfl rfl (fun W => qb_gtr_int W _ _ _ _)) ?_
    refine O.split (fun hb4 => ?_) (fun hb4 => ?_)
    · skip
      have hp : 0 < c.path.length := by have := of_decide_eq_true hb4; omega
      have hjN : j < N := Nat.lt_of_not_le (fun e => by obtain rfl : j = N := (by omega); rw [hcj] at hN; omega)
      have hA := hT.aps
      obtain ⟨gp, pcap, he, hpo⟩ := Row.own hT.hp (by omega)
      cases he
      obtain ⟨hv0, hv1⟩ := vs_cells hT.hp (k := c.path.length - 1) (by omega)
      obtain ⟨hx1, hx2, hx4, hx3⟩ := hT.rel.2 (c.path.length - 1) (by omega)
      rw [show c.path.getD (c.path.length - 1) (0, []) = c.top from rfl] at hx1 hx2 hx3
      generalize hxg : ms.getD (c.path.length - 1) vs0 = x at *
      rw [hx1] at hv0
      obtain ⟨hr1, hr2⟩ := hok.rg _ (top_mem hp)
      unfold InB at hr1 hr2
      refine WL.nil ?_
      refine TW.cond rfl (fun _ => ?_) (fun hb => by cases hb)
      refine TW.skip ?_
      refine TW.block ?_
      refine TW.sreg ?_
      refine WL.op rfl rfl rfl (Go.Proofs.Ytobibplilbchfaa.W.quiet_field rfl rfl (fun W => (qa_flow_traversal_1 W _ _))) ?_
      refine WL.ld rfl rfl rfl rfl rfl (ql_s_flow_visit _ _ _ _ _ (hT.bx.cell (j := 1) rfl)) ?_
      refine WL.op rfl rfl rfl (Go.Proofs.Ytobibplilbchfaa.W.quiet_field rfl rfl (fun W => (qa_flow_traversal_1 W _ _))) ?_
      refine WL.ld rfl rfl rfl rfl rfl (ql_s_flow_visit _ _ _ _ _ (hT.bx.cell (j := 1) rfl)) ?_
      refine O.len rfl rfl rfl rfl rfl (qn_s_flow_visit _ _ _ _) ?_
      refine WL.op rfl rfl rfl (Go.Proofs.Ytobibplilbchfaa.W.quiet_bin rfl rfl rfl (fun W => (qb_sub_int W _ _ _ _ (by omega) (by omega)).trans (by rw [show ((ms.length : Int) - 1) = ((c.path.length - 1 : Nat) : Int) by omega]))) ?_
      refine O.ixa rfl rfl rfl rfl rfl rfl (qi_s_flow_visit _ _ _ _ _ _ (by omega)) ?_
      refine WL.op rfl rfl rfl (Go.Proofs.Ytobibplilbchfaa.W.quiet_assign rfl rfl) ?_
      refine WL.nil ?_
      refine TW.seq ?_
      refine TW.sreg ?_
      refine WL.op rfl rfl rfl (Go.Proofs.Ytobibplilbchfaa.W.quiet_move rfl rfl) ?_
      refine O.nck rfl rfl rfl rfl rfl ?_
      refine WL.op rfl rfl rfl (Go.Proofs.Ytobibplilbchfaa.W.quiet_field rfl rfl (fun W => (qa_flow_visit_1 W _ _))) ?_
      refine WL.ld rfl rfl rfl rfl rfl (ql_s_int _ _ _ _ _ hv1) ?_
      refine O.len rfl rfl rfl rfl rfl (qn_s_int _ _ _ _) ?_
      refine WL.op rfl rfl rfl (Go.Proofs.Ytobibplilbchfaa.W.quiet_bin rfl rfl rfl (fun W => qb_eql_int W _ _ _ _)) ?_
      refine O.split (fun hb6 => ?_) (fun hb6 => ?_)
      · skip
        refine WL.nil ?_
        refine TW.cond rfl (fun _ => ?_) (fun hb => by cases hb)
        refine TW.sreg ?_
        refine WL.op rfl rfl rfl (Go.Proofs.Ytobibplilbchfaa.W.quiet_move rfl rfl) ?_
        refine O.nck rfl rfl rfl rfl rfl ?_
        refine WL.op rfl rfl rfl (Go.Proofs.Ytobibplilbchfaa.W.quiet_field rfl rfl (fun W => (qa_flow_visit_0 W _ _))) ?_
        refine WL.ld rfl rfl rfl rfl rfl (ql_int _ _ _ hv0) ?_
        obtain ⟨tn, htn⟩ : ∃ tn : Nat, c.top.1 = (tn : Int) := ⟨c.top.1.toNat, by omega⟩
        rw [htn]
        refine WL.call (hr := t_leave bs.length tn (by omega) wa2.heap.size wa3.heap.size wa2.heap.size _ _ _ _ _ _ _ _ (by omega) wa2 _ (Nat.le_refl _) f0 hT (by omega) hp) rfl rfl rfl rfl rfl (fun W => qk_flow_traversal_leave W _) ?_
        rintro e w2 ⟨rfl, ⟨vp2, vl2, ms2, hT2⟩, hf2⟩
        refine ⟨_, rfl, ?_⟩
        refine WL.nil ?_
        refine TW.exit ?_
        refine Xw.thn (by simp) ?_
        refine Xw.hit ?_
        refine Xw.any (fun a k => ?_)
        have hT := hT2
        have f0 := hf2
        have hxk : (x.k : Int) = 0 := by simpa using hb6
        have htop : c.top.2 = [] := List.eq_nil_of_length_eq_zero (by omega)
        refine ⟨j + 1, by omega, by omega, ?_, ?_, ?_, ?_, (by (repeat (refine Kn.cons k rfl ?_)); exact k.base), f0, ?_⟩
        rotate_left 4
        show Trv _ _ _ _ _ _ _ _ _ (stepC bs (iterC bs j (initC bs))).path (stepC bs (iterC bs j (initC bs))).st (stepC bs (iterC bs j (initC bs))).left (stepC bs (iterC bs j (initC bs))).back
        rw [hcj, step_leave hp htop, show c.top.1.toNat = tn by omega, htn]
        exact hT
      · skip
        have hxk : ¬ (x.k : Int) = 0 := by simpa using hb6
        obtain ⟨y, r, hyr⟩ : ∃ y r, c.top.2 = y :: r := (by cases h : c.top.2 with | nil => (rw [h] at hx2; simp at hx2; omega) | cons y r => exact ⟨y, r, rfl⟩)
        rw [hyr] at hx2 hx3 hr2
        have hy := hr2 y (by simp)
        obtain ⟨gr, or_, hxa, hc0, hg1, hg2, hg3⟩ := hx3 0 (by simp)
        simp only [List.getD_cons_zero] at hc0
        have hxl : x.k = r.length + 1 := by simpa using hx2
        refine WL.nil ?_
        refine TW.cond rfl (fun hb => by cases hb) (fun _ => ?_)
        refine TW.skip ?_
        refine TW.sreg ?_
        refine WL.op rfl rfl rfl (Go.Proofs.Ytobibplilbchfaa.W.quiet_move rfl rfl) ?_
        refine O.nck rfl rfl rfl rfl rfl ?_
        refine WL.op rfl rfl rfl (Go.Proofs.Ytobibplilbchfaa.W.quiet_field rfl rfl (fun W => (qa_flow_visit_1 W _ _))) ?_
        refine WL.ld rfl rfl rfl rfl rfl (ql_s_int _ _ _ _ _ hv1) ?_
        rw [hxa]
        refine O.ixa rfl rfl rfl rfl rfl rfl (qi_s_int _ gr or_ x.k x.c 0 (by omega)) ?_
        refine WL.ld rfl rfl rfl rfl rfl (ql_int _ _ _ hc0) ?_
        refine WL.op rfl rfl rfl (Go.Proofs.Ytobibplilbchfaa.W.quiet_assign rfl rfl) ?_
        refine WL.nil ?_
        refine TW.sreg ?_
        refine WL.op rfl rfl rfl (Go.Proofs.Ytobibplilbchfaa.W.quiet_move rfl rfl) ?_
        refine WL.op rfl rfl rfl (Go.Proofs.Ytobibplilbchfaa.W.quiet_move rfl rfl) ?_
        refine O.nck rfl rfl rfl rfl rfl ?_
        refine WL.op rfl rfl rfl (Go.Proofs.Ytobibplilbchfaa.W.quiet_field rfl rfl (fun W => (qa_flow_visit_1 W _ _))) ?_
        refine WL.ld rfl rfl rfl rfl rfl (ql_s_int _ _ _ _ _ hv1) ?_
        rw [hxa]
        refine O.sl1 rfl rfl rfl rfl rfl rfl (sl_from _ gr or_ x.k x.c 1 (by omega)) ?_
        refine O.nck rfl rfl rfl rfl rfl ?_
        refine WL.op rfl rfl rfl (Go.Proofs.Ytobibplilbchfaa.W.quiet_field rfl rfl (fun W => (qa_flow_visit_1 W _ _))) ?_
        refine O.storeR rfl rfl rfl rfl rfl (vs_store hT.hp (k := c.path.length - 1) (by omega) _ _ _) ?_
        rintro w5 ⟨hR, hF1⟩
        rw [hxg] at hR
        rw [hxa] at hx3
        have hrest := RestA.tail (n := x.k) (c := x.c) hx3 (by omega)
        replace f0 := f0.trans' hF1 (fun q hq e => by have := (hA.xp gp hpo).1; omega)
        replace hT := hT.top (ms' := ms.set (c.path.length - 1) ⟨x.n, some ⟨gr, if x.c = 1 then or_ else or_ + 1, none⟩, x.k - 1, x.c - 1⟩) (path' := c.path.set (c.path.length - 1) (c.top.1, r)) hR (hF1.mono (fun q _ e => by rw [e]; exact hpo)) (hT.rel.set hx1 (by show x.k - 1 = r.length; omega) (by show x.k - 1 ≤ x.c - 1; omega) hrest)
        have hA := hT.aps
        obtain ⟨hv0, _⟩ := vs_cells hT.hp (k := c.path.length - 1) (by rw [List.length_set]; omega)
        rw [getD_set (by omega)] at hv0
        replace hv0 : w5.cell? ⟨gp, 0 + (c.path.length - 1) * 2, none⟩ = some (.int .i64 c.top.1) := by rw [← hx1]; exact hv0
        obtain ⟨yn, hyn⟩ : ∃ yn : Nat, y = (yn : Int) := ⟨y.toNat, by omega⟩
        have hytn : y.toNat = yn := by omega
        rw [hyn]
        refine WL.nil ?_
        refine TW.sreg ?_
        refine WL.op rfl rfl rfl (Go.Proofs.Ytobibplilbchfaa.W.quiet_field rfl rfl (fun W => (qa_flow_traversal_0 W _ _))) ?_
        refine WL.ld rfl rfl rfl rfl rfl (ql_s_int _ _ _ _ _ (hT.bx.cell (j := 0) rfl)) ?_
        refine WL.op rfl rfl rfl (Go.Proofs.Ytobibplilbchfaa.W.quiet_move rfl rfl) ?_
        refine O.ixa rfl rfl rfl rfl rfl rfl (qi_s_int _ _ _ _ _ _ (by omega)) ?_
        refine WL.ld rfl rfl rfl rfl rfl (ql_int _ _ _ (hT.hs.cell (k := yn) (by omega))) ?_
        refine WL.nil ?_
        refine TW.block ?_
        refine TW.sreg ?_
        refine WL.op rfl rfl rfl (Go.Proofs.Ytobibplilbchfaa.W.quiet_bin rfl rfl rfl (fun W => qb_eql_int W _ _ _ _)) ?_
        refine O.split (fun hb7 => ?_) (fun hb7 => ?_)
        · skip
          refine WL.op rfl rfl rfl (Go.Proofs.Ytobibplilbchfaa.W.quiet_assign rfl rfl) ?_
          refine WL.nil ?_
          refine TW.cond rfl (fun _ => ?_) (fun hb => by cases hb)
          refine TW.reg ?_
          refine WL.ld rfl rfl rfl rfl rfl (qlB_api_Proc _ _ _ _ _ _ _ _ _ _ _ _ _ (bx1s.fr f0 id)) ?_
          refine WL.op rfl rfl rfl (Go.Proofs.Ytobibplilbchfaa.W.quiet_move rfl rfl) ?_
          refine WL.call (hr := t_enter nm vd pr R oa on oc ba bs bc yn (by omega) wa2.heap.size wa3.heap.size wa2.heap.size _ _ _ _ _ _ _ _ (by rw [List.length_set]; omega) wa2 _ (Nat.le_refl _) f0 hT (hbl.fr ffa)) rfl rfl rfl rfl rfl (fun W => qk_flow_traversal_enter W _) ?_
          rintro e w7 ⟨rfl, ⟨vp2, ms2, hT2⟩, hf2⟩
          refine ⟨_, rfl, ?_⟩
          refine WL.end ?_
          refine Xw.nblk ?_
          refine Xw.nblk ?_
          refine Xw.any (fun a k => ?_)
          have hT := hT2
          have f0 := hf2
          have h3 : c.st.getD y.toNat 0 = 0 := by rw [hytn]; simpa using hb7
          refine ⟨j + 1, by omega, by omega, ?_, ?_, ?_, ?_, (by (repeat (refine Kn.cons k rfl ?_)); exact k.base), f0, ?_⟩
          rotate_left 4
          show Trv _ _ _ _ _ _ _ _ _ (stepC bs (iterC bs j (initC bs))).path (stepC bs (iterC bs j (initC bs))).st (stepC bs (iterC bs j (initC bs))).left (stepC bs (iterC bs j (initC bs))).back
          rw [hcj, step_enter hp hyr h3, hytn, hyn]
          exact hT
        · skip
          have h3 : c.st.getD y.toNat 0 ≠ 0 := by rw [hytn]; simpa using hb7
          refine WL.op rfl rfl rfl (Go.Proofs.Ytobibplilbchfaa.W.quiet_assign rfl rfl) ?_
          refine WL.nil ?_
          refine TW.cond rfl (fun hb => by cases hb) (fun _ => ?_)
          refine TW.sreg ?_
          refine WL.op rfl rfl rfl (Go.Proofs.Ytobibplilbchfaa.W.quiet_bin rfl rfl rfl (fun W => qb_eql_int W _ _ _ _)) ?_
          refine O.split (fun hb8 => ?_) (fun hb8 => ?_)
          · skip
            have h4 : c.st.getD y.toNat 0 = 1 := by rw [hytn]; simpa using hb8
            obtain ⟨ba2, bc2, rfl⟩ := Row.form hT.hb
            have hgt : ¬ gp = wa3.heap.size := fun e => hA.pt (by rw [← e]; exact hpo)
            have hgb : ¬ (Value.slice ba2 c.back.length bc2).ownBlock = some gp := fun e => hA.pb gp hpo e
            refine WL.op rfl rfl rfl (Go.Proofs.Ytobibplilbchfaa.W.quiet_assign rfl rfl) ?_
            refine WL.nil ?_
            refine TW.cond rfl (fun _ => ?_) (fun hb => by cases hb)
            refine TW.regH (fun W => Fr (fun q => q = wa3.heap.size ∨ (Value.slice ba2 c.back.length bc2).ownBlock = some q) w5 W) (by kernel_rfl) ?_
            have fd : Fr (fun _ => False) w5 w5.drew := (Fr.refl _ _).drewN 1
            have HW : Fr (fun q => q = wa3.heap.size ∨ (Value.slice ba2 c.back.length bc2).ownBlock = some q) w5 w5.drew := (Fr.refl _ _).drewN 1
            replace hT := hT.fr fd
            replace f0 := f0.trans fd
            generalize hV : w5.drew = V2 at *
            clear hV
            refine WH.take 0 rfl (by kernel_rfl) (by kernel_rfl) (by kernel_rfl) (fun _ _ _ _ _ h => h) rfl rfl rfl HW (RH.field rfl rfl (fun W => qa_flow_traversal_3 W _ _)) ?_
            refine WH.take 2 rfl (by kernel_rfl) (by kernel_rfl) (by kernel_rfl) (fun _ _ _ _ _ h => h) rfl rfl rfl HW (RH.move rfl rfl) ?_
            refine WH.take 3 rfl (by kernel_rfl) (by kernel_rfl) (by kernel_rfl) (fun _ _ _ _ _ h => h) rfl rfl rfl HW (RH.nck rfl rfl) ?_
            refine WH.take 4 rfl (by kernel_rfl) (by kernel_rfl) (by kernel_rfl) (fun _ _ _ _ _ h => h) rfl rfl rfl HW (RH.field rfl rfl (fun W => qa_flow_visit_0 W _ _)) ?_
            refine WH.take 5 rfl (by kernel_rfl) (by kernel_rfl) (by kernel_rfl) (fun _ _ _ _ _ h => h) rfl rfl rfl HW (RH.load rfl rfl (fun W hW => ql_int _ _ _ (hW.cell hv0 (fun e => by rcases e with e | e; exact hgt e; exact hgb e)))) ?_
            refine WH.take 6 rfl (by kernel_rfl) (by kernel_rfl) (by kernel_rfl) (fun _ _ _ _ _ h => h) rfl rfl rfl HW (RH.move rfl rfl) ?_
            refine WH.two 1 7 (by kernel_rfl) rfl rfl ?_ ?_ 
            · skip
              refine WL.ld rfl rfl rfl rfl rfl (ql_s_2_int _ _ _ _ _ (by first | exact hT.bx.cell (j := 3) rfl | exact (hT.bx.fr (fr_al (Fr.refl (fun _ => False) _) _) id).cell (j := 3) rfl)) ?_
              refine WL.fin HW ?_
              refine WH.one 7 (by kernel_rfl) rfl ?_ 
              refine O.bld rfl rfl rfl rfl rfl (qd_2_int_0_1 _ _ _) ?_
              refine WL.fin HW ?_
              refine WH.one 8 (by kernel_rfl) rfl ?_ 
              refine O.bsl rfl rfl rfl rfl rfl (qv_s_2_int_1 _ _ _) ?_
              refine WL.fin (fr_al HW _) ?_
              refine WH.one 9 (by kernel_rfl) rfl ?_ 
              refine WL.append rfl rfl rfl rfl rfl rfl (pr_app (c.top.1, (yn : Int)) _ hT.hb (by have := hT.aps.xt; omega) (by omega)) ?_
              rintro vq wq ⟨hR, hF1, hn1⟩
              -- world wq
              replace HW := HW.trans' hF1 (fun q hq e => by first | exact e | exact Or.inl e | exact Or.inr e | omega)
              refine WL.fin HW ?_
              refine WH.take 10 rfl (by kernel_rfl) (by kernel_rfl) (by kernel_rfl) (fun _ _ _ _ _ h => h) rfl rfl rfl HW (RH.field rfl rfl (fun W => qa_flow_traversal_3 W _ _)) ?_
              refine WH.one 11 (by kernel_rfl) rfl ?_ 
              obtain ⟨qa, qc, rfl⟩ := Row.form hR
              refine O.storeR rfl rfl rfl rfl rfl (qsF_s_2_int _ wa3.heap.size 3 _ _ _ _ _ _ (hT.bx.fr hF1 (fun e => hT.aps.bt e)) rfl) ?_
              rintro w9 ⟨hF2, hbx2⟩
              replace HW := HW.trans' hF2 (fun q hq e => by first | exact e | exact Or.inl e | exact Or.inr e | omega)
              refine WL.fin HW ?_
              refine WH.end (by kernel_rfl) ?_
              refine Xw.nblk ?_
              refine Xw.nblk ?_
              refine Xw.any (fun a k => ?_)
              have hT := hT.setB (back' := c.back ++ [(c.top.1, y)]) (by rw [hyn]; exact hR) hF1 hbx2 hF2
              have f0 := (f0.trans' hF1 (fun q hq e => by have := (hA.xb q e).1; omega)).trans' hF2 (fun q hq e => by have := hA.xt; omega)
              refine ⟨j + 1, by omega, by omega, ?_, ?_, ?_, ?_, (by (repeat (refine Kn.cons k rfl ?_)); exact k.base), f0, ?_⟩
              rotate_left 4
              show Trv _ _ _ _ _ _ _ _ _ (stepC bs (iterC bs j (initC bs))).path (stepC bs (iterC bs j (initC bs))).st (stepC bs (iterC bs j (initC bs))).left (stepC bs (iterC bs j (initC bs))).back
              rw [hcj, step_back hp hyr h4]
              exact hT
            · skip
              refine O.bld rfl rfl rfl rfl rfl (qd_2_int_0_1 _ _ _) ?_
              refine WL.fin HW ?_
              refine WH.two 1 8 (by kernel_rfl) rfl rfl ?_ ?_ 
              · skip
                refine WL.ld rfl rfl rfl rfl rfl (ql_s_2_int _ _ _ _ _ (by first | exact hT.bx.cell (j := 3) rfl | exact (hT.bx.fr (fr_al (Fr.refl (fun _ => False) _) _) id).cell (j := 3) rfl)) ?_
                refine WL.fin HW ?_
                refine WH.one 8 (by kernel_rfl) rfl ?_ 
                refine O.bsl rfl rfl rfl rfl rfl (qv_s_2_int_1 _ _ _) ?_
                refine WL.fin (fr_al HW _) ?_
                refine WH.one 9 (by kernel_rfl) rfl ?_ 
                refine WL.append rfl rfl rfl rfl rfl rfl (pr_app (c.top.1, (yn : Int)) _ hT.hb (by have := hT.aps.xt; omega) (by omega)) ?_
                rintro vq wq ⟨hR, hF1, hn1⟩
                -- world wq
                replace HW := HW.trans' hF1 (fun q hq e => by first | exact e | exact Or.inl e | exact Or.inr e | omega)
                refine WL.fin HW ?_
                refine WH.take 10 rfl (by kernel_rfl) (by kernel_rfl) (by kernel_rfl) (fun _ _ _ _ _ h => h) rfl rfl rfl HW (RH.field rfl rfl (fun W => qa_flow_traversal_3 W _ _)) ?_
                refine WH.one 11 (by kernel_rfl) rfl ?_ 
                obtain ⟨qa, qc, rfl⟩ := Row.form hR
                refine O.storeR rfl rfl rfl rfl rfl (qsF_s_2_int _ wa3.heap.size 3 _ _ _ _ _ _ (hT.bx.fr hF1 (fun e => hT.aps.bt e)) rfl) ?_
                rintro w9 ⟨hF2, hbx2⟩
                replace HW := HW.trans' hF2 (fun q hq e => by first | exact e | exact Or.inl e | exact Or.inr e | omega)
                refine WL.fin HW ?_
                refine WH.end (by kernel_rfl) ?_
                refine Xw.nblk ?_
                refine Xw.nblk ?_
                refine Xw.any (fun a k => ?_)
                have hT := hT.setB (back' := c.back ++ [(c.top.1, y)]) (by rw [hyn]; exact hR) hF1 hbx2 hF2
                have f0 := (f0.trans' hF1 (fun q hq e => by have := (hA.xb q e).1; omega)).trans' hF2 (fun q hq e => by have := hA.xt; omega)
                refine ⟨j + 1, by omega, by omega, ?_, ?_, ?_, ?_, (by (repeat (refine Kn.cons k rfl ?_)); exact k.base), f0, ?_⟩
                rotate_left 4
                show Trv _ _ _ _ _ _ _ _ _ (stepC bs (iterC bs j (initC bs))).path (stepC bs (iterC bs j (initC bs))).st (stepC bs (iterC bs j (initC bs))).left (stepC bs (iterC bs j (initC bs))).back
                rw [hcj, step_back hp hyr h4]
                exact hT
              · skip
                refine O.bsl rfl rfl rfl rfl rfl (qv_s_2_int_1 _ _ _) ?_
                refine WL.fin (fr_al HW _) ?_
                refine WH.one 1 (by kernel_rfl) rfl ?_ 
                refine WL.ld rfl rfl rfl rfl rfl (ql_s_2_int _ _ _ _ _ (by first | exact hT.bx.cell (j := 3) rfl | exact (hT.bx.fr (fr_al (Fr.refl (fun _ => False) _) _) id).cell (j := 3) rfl)) ?_
                refine WL.fin (fr_al HW _) ?_
                refine WH.one 9 (by kernel_rfl) rfl ?_ 
                refine WL.append rfl rfl rfl rfl rfl rfl (pr_app (c.top.1, (yn : Int)) _ hT.hb (by have := hT.aps.xt; omega) (by omega)) ?_
                rintro vq wq ⟨hR, hF1, hn1⟩
                -- world wq
                replace HW := HW.trans' hF1 (fun q hq e => by first | exact e | exact Or.inl e | exact Or.inr e | omega)
                refine WL.fin HW ?_
                refine WH.take 10 rfl (by kernel_rfl) (by kernel_rfl) (by kernel_rfl) (fun _ _ _ _ _ h => h) rfl rfl rfl HW (RH.field rfl rfl (fun W => qa_flow_traversal_3 W _ _)) ?_
                refine WH.one 11 (by kernel_rfl) rfl ?_ 
                obtain ⟨qa, qc, rfl⟩ := Row.form hR
                refine O.storeR rfl rfl rfl rfl rfl (qsF_s_2_int _ wa3.heap.size 3 _ _ _ _ _ _ (hT.bx.fr hF1 (fun e => hT.aps.bt e)) rfl) ?_
                rintro w9 ⟨hF2, hbx2⟩
                replace HW := HW.trans' hF2 (fun q hq e => by first | exact e | exact Or.inl e | exact Or.inr e | omega)
                refine WL.fin HW ?_
                refine WH.end (by kernel_rfl) ?_
                refine Xw.nblk ?_
                refine Xw.nblk ?_
                refine Xw.any (fun a k => ?_)
                have hT := hT.setB (back' := c.back ++ [(c.top.1, y)]) (by rw [hyn]; exact hR) hF1 hbx2 hF2
                have f0 := (f0.trans' hF1 (fun q hq e => by have := (hA.xb q e).1; omega)).trans' hF2 (fun q hq e => by have := hA.xt; omega)
                refine ⟨j + 1, by omega, by omega, ?_, ?_, ?_, ?_, (by (repeat (refine Kn.cons k rfl ?_)); exact k.base), f0, ?_⟩
                rotate_left 4
                show Trv _ _ _ _ _ _ _ _ _ (stepC bs (iterC bs j (initC bs))).path (stepC bs (iterC bs j (initC bs))).st (stepC bs (iterC bs j (initC bs))).left (stepC bs (iterC bs j (initC bs))).back
                rw [hcj, step_back hp hyr h4]
                exact hT
          · skip
            refine WL.op rfl rfl rfl (Go.Proofs.Ytobibplilbchfaa.W.quiet_assign rfl rfl) ?_
            refine WL.nil ?_
            refine TW.cond rfl (fun hb => by cases hb) (fun _ => ?_)
            refine TW.skipx ?_
            refine Xw.nblk ?_
            refine Xw.nblk ?_
            refine Xw.any (fun a k => ?_)
            have h4 : c.st.getD y.toNat 0 ≠ 1 := by rw [hytn]; simpa using hb8
            refine ⟨j + 1, by omega, by omega, ?_, ?_, ?_, ?_, (by (repeat (refine Kn.cons k rfl ?_)); exact k.base), f0, ?_⟩
            rotate_left 4
            show Trv _ _ _ _ _ _ _ _ _ (stepC bs (iterC bs j (initC bs))).path (stepC bs (iterC bs j (initC bs))).st (stepC bs (iterC bs j (initC bs))).left (stepC bs (iterC bs j (initC bs))).back
            rw [hcj, step_skip hp hyr h3 h4]
            exact hT
    · skip
      obtain ⟨la, lc, rfl⟩ := Row.form hT.hl
      obtain ⟨ba2, bc2, rfl⟩ := Row.form hT.hb
      have hend : c.path.length = 0 := by have := of_decide_eq_false hb4; omega
      have hcN : iterC bs N (initC bs) = c := by obtain ⟨d, rfl⟩ := Nat.exists_eq_add_of_le hj; rw [← hcj]; exact iter_end (by rw [hcj]; exact hend) d
      have bx2 := bx2s.fr f0 id
      have hw2 := ffa.size
      refine WL.nil ?_
      refine TW.cond rfl (fun hb => by cases hb) (fun _ => ?_)
      refine TW.exit ?_
      refine Xw.thn (by simp) ?_
      refine Xw.thn (by simp) ?_
      refine Xw.hit ?_
      refine Xw.nrm ?_
      refine TW.sreg ?_
      refine WL.ld rfl rfl rfl rfl rfl (ql_flow_traversal _ _ _ _ _ _ _ (hT.bx.cell (j := 0) rfl) (hT.bx.cell (j := 1) rfl) (hT.bx.cell (j := 2) rfl) (hT.bx.cell (j := 3) rfl)) ?_
      refine O.storeR rfl rfl rfl rfl rfl (qsA_flow_traversal wl _ _ _ _ _ _ _ _ _ _ _ _ _ _ _ _ _ bx2) ?_
      rintro wa7 ⟨fa7, bx2x⟩
      clear bx2
      have bx2 := bx2x
      clear bx2x
      refine WL.nil ?_
      refine TW.rt ?_
      refine O.retc1 rfl rfl (run_loadVar_row _ _ _ 56 _ _ _ bx2 Try.underlying56 rfl (by kernel_rfl)) ?_
      have hlt := bx2.lt
      refine ⟨_, _, _, _, rfl, ?_, ?_, (ffa.trans f0).trans' fa7 (fun q hq e => by omega)⟩
      · rw [hcN]; exact (Row.base hT.hl (fun k hk => by have := (Row.lt hT.hl k hk).1; omega)).fr fa7 (fun k hk e => by have := (Row.lt hT.hl k hk).1; have := ltb2; omega)
      · rw [hcN]; exact Row.fr (Row.base hT.hb (fun k hk => by have := (Row.lt hT.hb k hk).1; omega)) fa7 (fun k hk e => by have := (Row.lt hT.hb k hk).1; have := ltb2; omega)
end Go.Proofs.Ytobibplilbchfaa
