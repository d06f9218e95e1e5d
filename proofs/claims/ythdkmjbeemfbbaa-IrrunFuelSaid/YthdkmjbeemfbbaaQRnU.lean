/-
  Runs (layer 14): a run of any module.
-/
import Derived.Test.YthdkmjbeemfbbaaQRnT
namespace Go.Proofs.Ythdkmjbeemfbbaa
open Go.RowKit
set_option linter.unusedVariables false
set_option linter.unusedSimpArgs false
set_option linter.unnecessarySimpa false
theorem qlB_api_Module (w : World) (g : Nat) (up0 : Option Addr) (uk0 ul0 : Nat) (up1 : Option Addr) (uk1 ul1 : Nat) (up2 : Option Addr) (uk2 ul2 : Nat) (um3 : Int) (tt : TypeId) (h : Bx w g #[.slice up0 uk0 ul0, .slice up1 uk1 ul1, .slice up2 uk2 ul2, .int .i64 um3] tt) : (Instr.loadAt 26 (.pointer (some ⟨g, 0, none⟩))).run Try.prog w = .ok (.agg #[.slice up0 uk0 ul0, .slice up1 uk1 ul1, .slice up2 uk2 ul2, .int .i64 um3]) w := by
  have c0 := h.cell (j := 0) rfl
  have c1 := h.cell (j := 1) rfl
  have c2 := h.cell (j := 2) rfl
  have c3 := h.cell (j := 3) rfl
  simp [go_sem, c0, c1, c2, c3]
theorem ql_api_Proc (w : World) (b o : Nat) (u0 u1 u2 u3 u4 u5 : Value) (h0 : w.cell? ⟨b, o, none⟩ = some u0) (h1 : w.cell? ⟨b, o + 1, none⟩ = some u1) (h2 : w.cell? ⟨b, o + 2, none⟩ = some u2) (h3 : w.cell? ⟨b, o + 3, none⟩ = some u3) (h4 : w.cell? ⟨b, o + 4, none⟩ = some u4) (h5 : w.cell? ⟨b, o + 5, none⟩ = some u5) : (Instr.loadAt 41 (.pointer (some ⟨b, o, none⟩))).run Try.prog w = .ok (.agg #[u0, u1, u2, u3, u4, u5]) w := by simp [go_sem, h0, h1, h2, h3, h4, h5]
theorem ql_api_Outcome (w : World) (b o : Nat) (u0 u1 u2 u3 : Value) (h0 : w.cell? ⟨b, o, none⟩ = some u0) (h1 : w.cell? ⟨b, o + 1, none⟩ = some u1) (h2 : w.cell? ⟨b, o + 2, none⟩ = some u2) (h3 : w.cell? ⟨b, o + 3, none⟩ = some u3) : (Instr.loadAt 34 (.pointer (some ⟨b, o, none⟩))).run Try.prog w = .ok (.agg #[u0, u1, u2, u3]) w := by simp [go_sem, h0, h1, h2, h3]
theorem qxR_api_Module (w : World) (up0 : Option Addr) (uk0 ul0 : Nat) (up1 : Option Addr) (uk1 ul1 : Nat) (up2 : Option Addr) (uk2 ul2 : Nat) (um3 : Int) : ∃ w', (Instr.box 26 (.agg #[.slice up0 uk0 ul0, .slice up1 uk1 ul1, .slice up2 uk2 ul2, .int .i64 um3])).run Try.prog w = .ok (.pointer (some ⟨w.heap.size, 0, none⟩)) w' ∧ (Fr (fun _ => False) w w' ∧ Bx w' w.heap.size #[.slice up0 uk0 ul0, .slice up1 uk1 ul1, .slice up2 uk2 ul2, .int .i64 um3] 26) := ⟨w.alloc (.cells #[.slice up0 uk0 ul0, .slice up1 uk1 ul1, .slice up2 uk2 ul2, .int .i64 um3] 26), by simp [go_sem], fr_al (Fr.refl _ _) _, Bx.new _ _ _⟩
theorem qzR_api_Outcome (w : World) : ∃ w', (Instr.alloc 34 true (.tuple #[])).run Try.prog w = .ok (.pointer (some ⟨w.heap.size, 0, none⟩)) w' ∧ (Fr (fun _ => False) w w' ∧ Bx w' w.heap.size #[.slice none 0 0, .int .i64 0, .int .u32 0, .int .i64 0] 34) := ⟨w.alloc (.cells #[.slice none 0 0, .int .i64 0, .int .u32 0, .int .i64 0] 34), by simp [go_sem], fr_al (Fr.refl _ _) _, Bx.new _ _ _⟩
theorem qk_ir_Check (w : World) (vs : Array Value) : (callFunc 10 vs).run Try.prog w = .ok (.enter 10 vs) w := by simp [go_sem]
theorem qb_neq_api_Errno (w : World) (x y : Operand) (m n : Int) : ((do eqGuard .neq 32 x y (.int .i64 m) (.int .i64 n); binOp .neq 32 (.int .i64 m) (.int .i64 n) : Sem Value)).run Try.prog w = .ok (.bool (m != n)) w := by simp [go_sem]
theorem qd_api_Outcome_3 (w : World) (p3_m0 : Int) : (Instr.build 34 #[(3, .int .i64 p3_m0)]).run Try.prog w = .ok (.agg #[.slice none 0 0, .int .i64 0, .int .u32 0, .int .i64 p3_m0]) w := by simp [go_sem]
theorem qsA_api_Outcome (w : World) (g : Nat) (z0 z1 z2 z3 : Value) (up0 : Option Addr) (uk0 ul0 : Nat) (um1 : Int) (um2 : Int) (um3 : Int) (h : Bx w g #[z0, z1, z2, z3] 34) : ∃ w', (Instr.storeAt 34 (.pointer (some ⟨g, 0, none⟩)) (.agg #[.slice up0 uk0 ul0, .int .i64 um1, .int .u32 um2, .int .i64 um3])).run Try.prog w = .ok () w' ∧ (Fr (fun q => q = g) w w' ∧ Bx w' g #[.slice up0 uk0 ul0, .int .i64 um1, .int .u32 um2, .int .i64 um3] 34) := h.store 34 #[.slice up0 uk0 ul0, .int .i64 um1, .int .u32 um2, .int .i64 um3] (by kernel_rfl) rfl (by simp [Value.oneCell'])
theorem qd_irrun_machine_1_2_3_4 (w : World) (p1_p0 : Option Addr) (p1_k0 p1_l0 : Nat) (p1_p1 : Option Addr) (p1_k1 p1_l1 : Nat) (p1_p2 : Option Addr) (p1_k2 p1_l2 : Nat) (p1_m3 : Int) (p2_p0 : Option Addr) (p2_k0 p2_l0 : Nat) (p3_m0 : Int) (p4_p0 : Option Addr) (p4_k0 p4_l0 : Nat) : (Instr.build 55 #[(1, .agg #[.slice p1_p0 p1_k0 p1_l0, .slice p1_p1 p1_k1 p1_l1, .slice p1_p2 p1_k2 p1_l2, .int .i64 p1_m3]), (2, .slice p2_p0 p2_k0 p2_l0), (3, .int .i64 p3_m0), (4, .slice p4_p0 p4_k0 p4_l0)]).run Try.prog w = .ok (.agg #[.slice none 0 0, .int .i64 0, .int .u32 0, .int .i64 0, .slice p1_p0 p1_k0 p1_l0, .slice p1_p1 p1_k1 p1_l1, .slice p1_p2 p1_k2 p1_l2, .int .i64 p1_m3, .slice p2_p0 p2_k0 p2_l0, .int .i64 p3_m0, .slice p4_p0 p4_k0 p4_l0, .slice none 0 0, .int .i64 0, .slice none 0 0, .slice none 0 0]) w := by simp [go_sem]
theorem qxR_irrun_machine (w : World) (up0 : Option Addr) (uk0 ul0 : Nat) (um1 : Int) (um2 : Int) (um3 : Int) (up4 : Option Addr) (uk4 ul4 : Nat) (up5 : Option Addr) (uk5 ul5 : Nat) (up6 : Option Addr) (uk6 ul6 : Nat) (um7 : Int) (up8 : Option Addr) (uk8 ul8 : Nat) (um9 : Int) (up10 : Option Addr) (uk10 ul10 : Nat) (up11 : Option Addr) (uk11 ul11 : Nat) (um12 : Int) (up13 : Option Addr) (uk13 ul13 : Nat) (up14 : Option Addr) (uk14 ul14 : Nat) : ∃ w', (Instr.box 55 (.agg #[.slice up0 uk0 ul0, .int .i64 um1, .int .u32 um2, .int .i64 um3, .slice up4 uk4 ul4, .slice up5 uk5 ul5, .slice up6 uk6 ul6, .int .i64 um7, .slice up8 uk8 ul8, .int .i64 um9, .slice up10 uk10 ul10, .slice up11 uk11 ul11, .int .i64 um12, .slice up13 uk13 ul13, .slice up14 uk14 ul14])).run Try.prog w = .ok (.pointer (some ⟨w.heap.size, 0, none⟩)) w' ∧ (Fr (fun _ => False) w w' ∧ Bx w' w.heap.size #[.slice up0 uk0 ul0, .int .i64 um1, .int .u32 um2, .int .i64 um3, .slice up4 uk4 ul4, .slice up5 uk5 ul5, .slice up6 uk6 ul6, .int .i64 um7, .slice up8 uk8 ul8, .int .i64 um9, .slice up10 uk10 ul10, .slice up11 uk11 ul11, .int .i64 um12, .slice up13 uk13 ul13, .slice up14 uk14 ul14] 55) := ⟨w.alloc (.cells #[.slice up0 uk0 ul0, .int .i64 um1, .int .u32 um2, .int .i64 um3, .slice up4 uk4 ul4, .slice up5 uk5 ul5, .slice up6 uk6 ul6, .int .i64 um7, .slice up8 uk8 ul8, .int .i64 um9, .slice up10 uk10 ul10, .slice up11 uk11 ul11, .int .i64 um12, .slice up13 uk13 ul13, .slice up14 uk14 ul14] 55), by simp [go_sem], fr_al (Fr.refl _ _) _, Bx.new _ _ _⟩
theorem qn_s_api_Proc (w : World) (a : Option Addr) (k l : Nat) : (Builtin.len_ #[24] 3 #[.slice a k l]).run Try.prog w = .ok (.int .i64 k) w := by simp [go_sem]
theorem qzR_api_Proc (w : World) : ∃ w', (Instr.alloc 41 true (.tuple #[])).run Try.prog w = .ok (.pointer (some ⟨w.heap.size, 0, none⟩)) w' ∧ (Fr (fun _ => False) w w' ∧ Bx w' w.heap.size #[.string ⟨#[]⟩, .bool false, .int .i64 0, .int .i64 0, .slice none 0 0, .slice none 0 0] 41) := ⟨w.alloc (.cells #[.string ⟨#[]⟩, .bool false, .int .i64 0, .int .i64 0, .slice none 0 0, .slice none 0 0] 41), by simp [go_sem], fr_al (Fr.refl _ _) _, Bx.new _ _ _⟩
theorem qsA_api_Proc (w : World) (g : Nat) (z0 z1 z2 z3 z4 z5 : Value) (up0 : ByteArray) (up1 : Bool) (um2 : Int) (um3 : Int) (up4 : Option Addr) (uk4 ul4 : Nat) (up5 : Option Addr) (uk5 ul5 : Nat) (h : Bx w g #[z0, z1, z2, z3, z4, z5] 41) : ∃ w', (Instr.storeAt 41 (.pointer (some ⟨g, 0, none⟩)) (.agg #[.string up0, .bool up1, .int .i64 um2, .int .i64 um3, .slice up4 uk4 ul4, .slice up5 uk5 ul5])).run Try.prog w = .ok () w' ∧ (Fr (fun q => q = g) w w' ∧ Bx w' g #[.string up0, .bool up1, .int .i64 um2, .int .i64 um3, .slice up4 uk4 ul4, .slice up5 uk5 ul5] 41) := h.store 41 #[.string up0, .bool up1, .int .i64 um2, .int .i64 um3, .slice up4 uk4 ul4, .slice up5 uk5 ul5] (by kernel_rfl) rfl (by simp [Value.oneCell'])
theorem qa_api_Proc_4 (w : World) (b o : Nat) : (Instr.fieldAt 41 (.pointer (some ⟨b, o, none⟩)) 4).run Try.prog w = .ok (.pointer (some ⟨b, o + 4, none⟩)) w := by simp [go_sem]
theorem qd_irrun_frame_0_1 (w : World) (p0_p0 : Option Addr) (p0_k0 p0_l0 : Nat) (p1_m0 : Int) : (Instr.build 59 #[(0, .slice p0_p0 p0_k0 p0_l0), (1, .int .i64 p1_m0)]).run Try.prog w = .ok (.agg #[.slice p0_p0 p0_k0 p0_l0, .int .i64 p1_m0]) w := by simp [go_sem]
theorem qv_s_irrun_frame_1 (w : World) (u0_p0 : Option Addr) (u0_k0 u0_l0 : Nat) (u0_m1 : Int) : (Instr.buildSlice 52 1 #[(0, .agg #[.slice u0_p0 u0_k0 u0_l0, .int .i64 u0_m1])]).run Try.prog w = .ok (.slice (some ⟨w.heap.size, 0, none⟩) 1 1) (w.alloc (.cells #[.slice u0_p0 u0_k0 u0_l0, .int .i64 u0_m1] 59)) := by simp [go_sem]
theorem qsF_s_irrun_frame (w : World) (g j : Nat) (z : Array Value) (tt : TypeId) (y : Value) (up0 : Option Addr) (uk0 ul0 : Nat) (h : Bx w g z tt) (hj : z[j]? = some y) : ∃ w', (Instr.storeAt 52 (.pointer (some ⟨g, j, none⟩)) (.slice up0 uk0 ul0)).run Try.prog w = .ok () w' ∧ (Fr (fun q => q = g) w w' ∧ Bx w' g (z.setIfInBounds j (.slice up0 uk0 ul0)) tt) := by
  have c0 := h.cell hj
  have e0 := h.free j
  exact ⟨w.setCell ⟨g, j, none⟩ (.slice up0 uk0 ul0), by simp [go_sem, c0, e0], Fr.setCell _ _ _ rfl, h.set j _⟩
theorem qk_irrun_machine_placeGlobals (w : World) (vs : Array Value) : (callFunc 12 vs).run Try.prog w = .ok (.enter 12 vs) w := by simp [go_sem]
theorem qk_irrun_machine_run (w : World) (vs : Array Value) : (callFunc 14 vs).run Try.prog w = .ok (.enter 14 vs) w := by simp [go_sem]
theorem qa_api_Module_3 (w : World) (b o : Nat) : (Instr.fieldAt 26 (.pointer (some ⟨b, o, none⟩)) 3).run Try.prog w = .ok (.pointer (some ⟨b, o + 3, none⟩)) w := by simp [go_sem]
theorem rFin_big {m : Mdl} {dat : List (List Int)} {inp : List Int} {f : Nat} (hf : MdlF m) (hb : 61440 < offs (slS m.gl) m.gl.length) : rFin m dat inp f = (⟨(rMe (slS m.gl) dat (fun _ => 0) m.gl.length), fun _ => ⟨fun _ => 0, 0, 0, 0, 0, -1⟩, 0, [], 0, 0, 8⟩ : RSt) := by
  unfold rFin rBeg
  rw [if_pos hf, if_pos hb]
  exact rRun_off (fun q => by cases q.1) f
theorem rFin_small {m : Mdl} {dat : List (List Int)} {inp : List Int} {f : Nat} (hf : MdlF m) (hb : ¬ 61440 < offs (slS m.gl) m.gl.length) : rFin m dat inp f = rRun m inp f (rEnter m (⟨(rMe (slS m.gl) dat (fun _ => 0) m.gl.length), fun _ => ⟨fun _ => 0, 0, 0, 0, 0, -1⟩, 0, [], 0, 0, 0⟩ : RSt) m.mn.toNat [] (-1)) := by
  unfold rFin rBeg
  rw [if_pos hf, if_neg hb]
theorem rwf0 {m : Mdl} {me : Nat → Int} (h : ∀ k, 0 ≤ me k ∧ me k ≤ 255) : RWf m 0 (⟨me, fun _ => ⟨fun _ => 0, 0, 0, 0, 0, -1⟩, 0, [], 0, 0, 0⟩ : RSt) :=
  ⟨Nat.zero_le _, h, fun y hy => (by cases hy), Nat.le_refl _, by show (0 : Int) ≤ 0; omega, by show (0 : Int) ≤ _; omega, fun k hk => absurd hk (Nat.not_lt_zero _), by show (0 : Int) ≤ 0; omega, by show (0 : Int) ≤ 16; omega, by show (0 : Int) ≤ 0; omega, by show (0 : Int) ≤ 255; omega⟩
theorem r0_enter {m : Mdl} {me : Nat → Int} {n : Nat} : R0 (rEnter m (⟨me, fun _ => ⟨fun _ => 0, 0, 0, 0, 0, -1⟩, 0, [], 0, 0, 0⟩ : RSt) n [] (-1)) := by
  intro hd
  unfold rEnter at *
  split
  · rfl
  · exact congrArg RCl.rd (rupd_same _ _ _)
theorem rMe_in {s : List Int} {dat : List (List Int)} (h : ∀ k j, 0 ≤ (dat.getD k []).getD j 0 ∧ (dat.getD k []).getD j 0 ≤ 255) : ∀ n k, 0 ≤ rMe s dat (fun _ => 0) n k ∧ rMe s dat (fun _ => 0) n k ≤ 255
  | 0, k => ⟨by show (0 : Int) ≤ 0; omega, by show (0 : Int) ≤ 255; omega⟩
  | n + 1, k => by
    show 0 ≤ rCopyB _ _ _ k ∧ rCopyB _ _ _ k ≤ 255
    unfold rCopyB
    split
    · exact h n _
    · exact rMe_in h n k
theorem frm_of {B M mb : Nat} {w : World} {fa : Option Addr} {fc : Nat} {m : Mdl} {xs : List FrE} {zM zb : Array Value} (hl : xs.length = m.pr.length) (h : Row B 59 2 frC w (.slice fa m.pr.length fc) xs) (hfo : ∀ q, q < m.pr.length → FrOk B w m (xs.getD q frE0) q) (hM : Bx w M zM 55) (hb : Bx w mb zb 5) : FrmAt w fa M mb m := fun n hn => by
  obtain ⟨g, cap, e, hg⟩ := Row.own h (by omega)
  injection e with e1 _ e3
  subst e1 e3
  obtain ⟨h1, h2, h3⟩ := hfo n hn
  have hx : xs[n]? = some (xs.getD n frE0) := by rw [List.getD_eq_getElem?_getD, List.getElem?_eq_getElem (by omega)]; rfl
  have c0 := Row.cell frC_len h hx (j := 0) (u := .slice (xs.getD n frE0).a (xs.getD n frE0).n (xs.getD n frE0).k) rfl (q := n * 2) (by omega)
  have c1 := Row.cell frC_len h hx (j := 1) (u := .int .i64 (xs.getD n frE0).z) rfl (q := n * 2 + 1) (by omega)
  rw [h1] at c0
  rw [h2] at c1
  refine ⟨g, (xs.getD n frE0).a, (xs.getD n frE0).k, rfl, fun e => Row.apart_typ h hM (by decide) (hg.trans (congrArg some e)), fun e => Row.apart_typ h hb (by decide) (hg.trans (congrArg some e)), c0, c1, fun j hj => ?_⟩
  obtain ⟨g2, ha, _, hc2, _⟩ := IR.cell h3 (k := j) (by rw [offL_len]; exact hj)
  rw [show (offL (slS (rPr m n).ob) (rPr m n).ob.length).getD j 0 = offs (slS (rPr m n).ob) j by simp [offL, List.getD_eq_getElem?_getD, List.getElem?_range, hj], Nat.zero_add] at hc2
  have hown : (Value.slice (xs.getD n frE0).a (xs.getD n frE0).n (xs.getD n frE0).k).ownBlock = some g2 := by rw [ha]; rfl
  exact ⟨g2, ha, fun e => Row.apart_typ h3 hM (by decide) (hown.trans (congrArg some e)), fun e => Row.apart_typ h3 hb (by decide) (hown.trans (congrArg some e)), hc2⟩
set_option maxRecDepth 100000 in
set_option maxHeartbeats 1000000 in
theorem t_Run (m : Mdl) (dat : List (List Int)) (inp : List Int) (ga da pa ia : Option Addr) (gc dc pc ic : Nat) (fuel : Int) (f : Nat) (hfu : max fuel 0 = (f : Int)) (hf6 : f ≤ 9000) (hfew : m.few) (hwd : m.wide) (hdm : ∀ y ∈ m.da, y ≤ maxLen) (hdl0 : dat.length = m.da.length) (hdl : ∀ k, k < m.da.length → (dat.getD k []).length = m.da.getD k 0) (hinu : ∀ y ∈ inp, U32 y) (hinl : inp.length ≤ 40) (hdu : ∀ k j, 0 ≤ (dat.getD k []).getD j 0 ∧ (dat.getD k []).getD j 0 ≤ 255) (w : World) (hm : MdlAt w ga da pa m) (hdat : DatB w da dat) (hin : InpAt w ia inp) : Calls Try.prog 6 #[.agg #[.slice ga m.gl.length gc, .slice da m.da.length dc, .slice pa m.pr.length pc, .int .i64 m.mn], .slice ia inp.length ic, .int .i64 fuel] w (RunP (rFin m dat inp f) w) := by
  have ff := Fr.refl (fun _ => False) w
  refine calls_tw Try.func6 rfl rfl (Nat.le_of_ble_eq_true rfl) ?_
  refine TW.sreg ?_
  have lw1 := ff.size
  refine O.boxR rfl rfl rfl rfl rfl (qxR_api_Module w _ _ _ _ _ _ _ _ _ _) ?_
  rintro wa1 ⟨fa1, bx1⟩
  replace ff := ff.trans fa1
  have lt2_bx1 := bx1.lt
  have lw2 := ff.size
  refine O.allocR rfl rfl rfl rfl (qzR_api_Outcome wa1) ?_
  rintro wa2 ⟨fa2, bx2⟩
  replace bx1 := bx1.fr fa2 id
  replace ff := ff.trans fa2
  refine WL.nil ?_
  refine TW.seq ?_
  refine TW.sreg ?_
  refine WL.ld rfl rfl rfl rfl rfl (qlB_api_Module _ _ _ _ _ _ _ _ _ _ _ _ _ bx1) ?_
  refine WL.call (hr := (check_any ga da pa _ _ _ gc dc pc _ m rfl rfl rfl rfl hfew hwd hdm _ (hm.fr ff))) rfl rfl rfl rfl rfl (fun W => qk_ir_Check W _) ?_
  rintro e w1 ⟨rfl, f1⟩
  refine ⟨_, rfl, ?_⟩
  replace bx1 := bx1.fr f1 id
  replace bx2 := bx2.fr f1 id
  replace ff := ff.trans f1
  refine WL.op rfl rfl rfl (Go.Proofs.Ythdkmjbeemfbbaa.W.quiet_assign rfl rfl) ?_
  refine WL.nil ?_
  refine TW.sreg ?_
  refine WL.op rfl rfl rfl (Go.Proofs.Ythdkmjbeemfbbaa.W.quiet_move rfl rfl) ?_
  refine WL.op rfl rfl rfl (Go.Proofs.Ythdkmjbeemfbbaa.W.quiet_bin rfl rfl rfl (fun W => qb_neq_api_Errno W _ _ _ _)) ?_
  refine O.split (fun hb => ?_) (fun hb => ?_)
  · skip
    have hnf : ¬MdlF m := fun q => by rw [checkI_ok q] at hb; cases hb
    refine WL.nil ?_
    refine TW.cond rfl (fun _ => ?_) (fun hb => by cases hb)
    refine TW.sreg ?_
    refine WL.op rfl rfl rfl (Go.Proofs.Ythdkmjbeemfbbaa.W.quiet_move rfl rfl) ?_
    refine O.bld rfl rfl rfl rfl rfl (qd_api_Outcome_3 _ _) ?_
    refine O.storeR rfl rfl rfl rfl rfl (qsA_api_Outcome w1 _ _ _ _ _ _ _ _ _ _ _ bx2) ?_
    rintro wa3 ⟨fa3, bx2x⟩
    replace bx1 := bx1.fr fa3 (fun e => by omega)
    replace ff := ff.trans' fa3 (fun q hq e => by omega)
    clear bx2
    have bx2 := bx2x
    clear bx2x
    refine WL.nil ?_
    refine TW.rt ?_
    refine Xw.thn (by simp) ?_
    refine O.retc1 rfl rfl (run_loadVar_row _ _ _ 34 _ _ _ bx2 Try.underlying34 rfl (by kernel_rfl)) ?_
    refine ⟨none, 0, ?_, ?_, ff⟩
    · unfold rFin
      rw [if_neg hnf, checkI_bad hnf]
      rfl
    · unfold rFin
      rw [if_neg hnf]
      exact Row.nil _ _ _ _ _
  · skip
    have hf : MdlF m := Classical.byContradiction (fun q => by rw [checkI_bad q] at hb; cases hb)
    clear hb
    have hmp := mdlP_of hfew hf
    refine WL.nil ?_
    refine TW.cond rfl (fun hb => by cases hb) (fun _ => ?_)
    refine TW.skip ?_
    have bx1p := bx1
    refine TW.sregH (fun W => Fr (fun _ => False) w1 W) (by kernel_rfl) ?_
    have fd : Fr (fun _ => False) w1 w1.drew := (Fr.refl _ _).drewN 1
    have HW : Fr (fun _ => False) w1 w1.drew := (Fr.refl _ _).drewN 1
    replace bx1 := bx1.fr fd id
    replace bx2 := bx2.fr fd id
    replace ff := ff.trans fd
    generalize hV : w1.drew = V1 at *
    clear hV
    refine WH.take 0 rfl (by kernel_rfl) (by kernel_rfl) (by kernel_rfl) (fun _ _ _ _ _ h => h) rfl rfl rfl HW (RH.load rfl rfl (fun W hW => (qlB_api_Module _ _ _ _ _ _ _ _ _ _ _ _ _ (bx1p.fr hW id)))) ?_
    refine WH.take 1 rfl (by kernel_rfl) (by kernel_rfl) (by kernel_rfl) (fun _ _ _ _ _ h => h) rfl rfl rfl HW (RH.move rfl rfl) ?_
    refine WH.take 2 rfl (by kernel_rfl) (by kernel_rfl) (by kernel_rfl) (fun _ _ _ _ _ h => h) rfl rfl rfl HW (RH.move rfl rfl) ?_
    refine WH.take 3 rfl (by kernel_rfl) (by kernel_rfl) (by kernel_rfl) (fun _ _ _ _ _ h => h) rfl rfl rfl HW (RH.bmax rfl rfl rfl (fun W => bmax_f _ f hfu W _)) ?_
    refine WH.take 4 rfl (by kernel_rfl) (by kernel_rfl) (by kernel_rfl) (fun _ _ _ _ _ h => h) rfl rfl rfl HW (RH.bmin rfl rfl rfl (fun W => bmin_f f (by omega) W _)) ?_
    refine WH.one 5 (by kernel_rfl) rfl ?_ 
    have lt3_bx1 := bx1.lt
    have lt3_bx2 := bx2.lt
    have lw3 := ff.size
    refine O.mkR rfl rfl rfl rfl rfl rfl (mk_mem _) ?_
    rintro wa4 ⟨fa4, bx3⟩
    replace bx1 := bx1.fr fa4 id
    replace bx2 := bx2.fr fa4 id
    replace HW := HW.trans' fa4 (fun q hq e => e.elim)
    replace ff := ff.trans fa4
    refine WL.fin HW ?_
    refine WH.one 6 (by kernel_rfl) rfl ?_ 
    refine O.bld rfl rfl rfl rfl rfl (qd_irrun_machine_1_2_3_4 _ _ _ _ _ _ _ _ _ _ _ _ _ _ _ _ _ _) ?_
    refine WL.fin HW ?_
    refine WH.one 7 (by kernel_rfl) rfl ?_ 
    have lt4_bx1 := bx1.lt
    have lt4_bx2 := bx2.lt
    have lt4_bx3 := bx3.lt
    have lw4 := ff.size
    refine O.boxR rfl rfl rfl rfl rfl (qxR_irrun_machine wa4 _ _ _ _ _ _ _ _ _ _ _ _ _ _ _ _ _ _ _ _ _ _ _ _ _ _ _ _ _ _ _ _ _) ?_
    rintro wa5 ⟨fa5, bx4⟩
    replace bx1 := bx1.fr fa5 id
    replace bx2 := bx2.fr fa5 id
    replace bx3 := bx3.fr fa5 id
    replace HW := HW.trans' fa5 (fun q hq e => e.elim)
    replace ff := ff.trans fa5
    refine WL.fin HW ?_
    refine WH.take 8 rfl (by kernel_rfl) (by kernel_rfl) (by kernel_rfl) (fun _ _ _ _ _ h => h) rfl rfl rfl HW (RH.assign rfl rfl) ?_
    refine WH.done (by kernel_rfl) ?_
    have hmb := MB.made bx3
    have bxM := bx4
    clear bx3 bx4
    generalize wa1.heap.size = b6 at *
    generalize V1.heap.size = b7 at *
    generalize wa4.heap.size = b8 at *
    refine TW.seq ?_
    refine TW.sreg ?_
    refine WL.op rfl rfl rfl (Go.Proofs.Ythdkmjbeemfbbaa.W.quiet_field rfl rfl (fun W => (qa_api_Module_2 W _ _))) ?_
    refine WL.ld rfl rfl rfl rfl rfl (ql_s_api_Proc _ _ _ _ _ (bx1.cell (j := 2) rfl)) ?_
    refine O.len rfl rfl rfl rfl rfl (qn_s_api_Proc _ _ _ _) ?_
    refine WL.op rfl rfl rfl (Go.Proofs.Ythdkmjbeemfbbaa.W.quiet_move rfl rfl) ?_
    refine WL.nil ?_
    refine TW.block ?_
    refine O.loopG (n := m.pr.length) (fun a _ => (intOf (a.tmps.getD 30 undef)).toNat) (fun j a W => ∃ (fa : Option Addr) (fc : Nat) (xs : List FrE), Kn Try.f6.ntmps [(3, .pointer (some ⟨w.heap.size, 0, none⟩)), (6, .pointer (some ⟨b6, 0, none⟩)), (8, .pointer (some ⟨b8, 0, none⟩)), (28, .slice pa m.pr.length pc), (29, .int .i64 (m.pr.length : Int)), (30, .int .i64 (j : Int))] a ∧ Fr (fun _ => False) w W ∧ Bx W w.heap.size #[.slice ga m.gl.length gc, .slice da m.da.length dc, .slice pa m.pr.length pc, .int .i64 m.mn] 26 ∧ Bx W b6 #[.slice none 0 0, .int .i64 0, .int .u32 0, .int .i64 0] 34 ∧ Bx W b8 #[.slice none 0 0, .int .i64 0, .int .u32 0, .int .i64 0, .slice ga m.gl.length gc, .slice da m.da.length dc, .slice pa m.pr.length pc, .int .i64 m.mn, .slice ia inp.length ic, .int .i64 (f : Int), .slice (some ⟨b7, 0, none⟩) 65536 65536, .slice none 0 0, .int .i64 0, .slice fa j fc, .slice none 0 0] 55 ∧ MB W b7 (fun _ => 0) ∧ Row w.heap.size 59 2 frC W (.slice fa j fc) xs ∧ ∀ q, q < j → FrOk w.heap.size W m (xs.getD q frE0) q) (fun j a W h => by obtain ⟨_, _, _, h⟩ := h; exact O.slotv h.1 rfl) 0 (Nat.zero_le _) (fun a k => ⟨none, 0, [], (by (repeat (refine Kn.cons k rfl ?_)); exact k.base), ff, bx1, bx2, bxM, hmb, Row.nil _ _ _ _ _, fun q hq => absurd hq (Nat.not_lt_zero _)⟩) ?_
    rintro j a wl hj ⟨fa, fc, xs, k, ff, bx1, bx2, bxM, hmb, hfr, hfo⟩
    refine TW.app (s := [(3, .pointer (some ⟨w.heap.size, 0, none⟩)), (6, .pointer (some ⟨b6, 0, none⟩)), (8, .pointer (some ⟨b8, 0, none⟩)), (28, .slice pa m.pr.length pc), (29, .int .i64 (m.pr.length : Int)), (30, .int .i64 (j : Int))]) ?_ k
    refine TW.sreg ?_
    refine WL.op rfl rfl rfl (Go.Proofs.Ythdkmjbeemfbbaa.W.quiet_bin rfl rfl rfl (fun W => qb_lss_int W _ _ _ _)) ?_
    refine O.split (fun hb => ?_) (fun hb => ?_)
    · skip
      have hj2 : j < m.pr.length := by have := of_decide_eq_true hb; omega
      clear hb
      obtain ⟨gp, op, rfl, p0, p1, p2, p3, ⟨a4, c4, p4, hsl⟩, a5, c5, p5, hbl⟩ := hm.p j hj2
      have hwl := ff.size
      have ho := rOut_of hmp hj2
      have ho2 := ho.2.2.1
      have hp6 := hfew.p
      have hln : xs.length = j := by obtain ⟨a, c, e⟩ := Row.form hfr; injection e with _ e; exact e.symm
      have hb6l := bx2.lt
      have hb8l := bxM.lt
      obtain ⟨zmb, hzmb, _⟩ := id hmb
      have hb7l := hzmb.lt
      clear hzmb
      refine WL.nil ?_
      refine TW.seq ?_
      refine TW.cond rfl (fun _ => ?_) (fun hb => by cases hb)
      refine TW.skip ?_
      refine TW.seq ?_
      refine TW.block ?_
      refine TW.sreg ?_
      refine O.ixa rfl rfl rfl rfl rfl rfl (qi_s_api_Proc _ _ _ _ _ _ (by omega)) ?_
      refine WL.ld rfl rfl rfl rfl rfl (ql_api_Proc _ _ _ _ _ _ _ _ _ (ff.cell p0 id) (ff.cell p1 id) (ff.cell p2 id) (ff.cell p3 id) (ff.cell p4 id) (ff.cell p5 id)) ?_
      have lt5_bx1 := bx1.lt
      have lt5_bx2 := bx2.lt
      have lt5_bxM := bxM.lt
      refine O.allocR rfl rfl rfl rfl (qzR_api_Proc wl) ?_
      rintro wa6 ⟨fa6, bx5⟩
      replace bx1 := bx1.fr fa6 id
      replace bx2 := bx2.fr fa6 id
      replace bxM := bxM.fr fa6 id
      replace ff := ff.trans fa6
      replace hmb := hmb.fr fa6 id
      replace hfr := Row.fr hfr fa6 (fun _ _ => id)
      replace hfo := fun q hq => (hfo q hq).fr fa6 (fun _ _ => id)
      refine O.storeR rfl rfl rfl rfl rfl (qsA_api_Proc wa6 _ _ _ _ _ _ _ _ _ _ _ _ _ _ _ _ _ bx5) ?_
      rintro wa7 ⟨fa7, bx5x⟩
      replace bx1 := bx1.fr fa7 (fun e => by omega)
      replace bx2 := bx2.fr fa7 (fun e => by omega)
      replace bxM := bxM.fr fa7 (fun e => by omega)
      replace ff := ff.trans' fa7 (fun q hq e => by omega)
      replace hmb := hmb.fr fa7 (fun e => by omega)
      replace hfr := Row.fr hfr fa7 (fun k hk e => Row.apart_typ hfr bx5 (by decide) (hk.trans (congrArg some e)))
      replace hfo := fun q hq => (hfo q hq).frT bx5 (by decide) fa7
      clear bx5
      have bx5 := bx5x
      clear bx5x
      refine WL.nil ?_
      refine TW.sreg ?_
      refine WL.op rfl rfl rfl (Go.Proofs.Ythdkmjbeemfbbaa.W.quiet_field rfl rfl (fun W => (qa_api_Proc_4 W _ _))) ?_
      refine WL.ld rfl rfl rfl rfl rfl (ql_s_api_Slot _ _ _ _ _ (bx5.cell (j := 4) rfl)) ?_
      have hwl2 := ff.size
      refine WL.call (hr := (by have z := t_place a4 c4 (slS (rPr m j).ob) (by rw [slS_len]; omega) (slS_slim ho.2.2.2.1) _ (hsl.slots.fr ff); rw [slS_len] at z; exact z)) rfl rfl rfl rfl rfl (fun W => qk_irrun_Place W _) ?_
      rintro e w4 ⟨v4, rfl, hpl, f4⟩
      refine ⟨_, rfl, ?_⟩
      replace bx1 := bx1.fr f4 id
      replace bx2 := bx2.fr f4 id
      replace bxM := bxM.fr f4 id
      replace bx5 := bx5.fr f4 id
      replace ff := ff.trans f4
      replace hmb := hmb.fr f4 id
      replace hfr := Row.fr hfr f4 (fun _ _ => id)
      replace hfo := fun q hq => (hfo q hq).fr f4 (fun _ _ => id)
      obtain ⟨la, lc, rfl⟩ := Row.form hpl
      rw [offL_len] at hpl ⊢
      replace hpl := Row.base (B' := w.heap.size) hpl (fun k hk => Nat.le_trans hwl2 (Row.lt hpl k hk).1)
      refine WL.op rfl rfl rfl (Go.Proofs.Ythdkmjbeemfbbaa.W.quiet_move rfl rfl) ?_
      refine O.ext rfl rfl rfl rfl rfl rfl ?_
      refine O.ext rfl rfl rfl rfl rfl rfl ?_
      refine WL.op rfl rfl rfl (Go.Proofs.Ythdkmjbeemfbbaa.W.quiet_assign rfl rfl) ?_
      refine WL.op rfl rfl rfl (Go.Proofs.Ythdkmjbeemfbbaa.W.quiet_assign rfl rfl) ?_
      refine WL.nil ?_
      refine TW.reg ?_
      refine WL.op rfl rfl rfl (Go.Proofs.Ythdkmjbeemfbbaa.W.quiet_move rfl rfl) ?_
      refine WL.op rfl rfl rfl (Go.Proofs.Ythdkmjbeemfbbaa.W.quiet_move rfl rfl) ?_
      refine O.nck rfl rfl rfl rfl rfl ?_
      refine WL.op rfl rfl rfl (Go.Proofs.Ythdkmjbeemfbbaa.W.quiet_field rfl rfl (fun W => (qa_irrun_machine_7 W _ _))) ?_
      refine WL.ld rfl rfl rfl rfl rfl (ql_s_irrun_frame _ _ _ _ _ (bxM.cell (j := 13) rfl)) ?_
      refine WL.op rfl rfl rfl (Go.Proofs.Ythdkmjbeemfbbaa.W.quiet_move rfl rfl) ?_
      refine WL.op rfl rfl rfl (Go.Proofs.Ythdkmjbeemfbbaa.W.quiet_move rfl rfl) ?_
      refine O.bld rfl rfl rfl rfl rfl (qd_irrun_frame_0_1 _ _ _ _ _) ?_
      refine O.bsl rfl rfl rfl rfl rfl (qv_s_irrun_frame_1 _ _ _ _ _) ?_
      have hap : ∀ k, (Value.slice la (rPr m j).ob.length lc).ownBlock = some k → ¬ (Value.slice fa j fc).ownBlock = some k := fun k hk e2 => by
        obtain ⟨zr, hzr⟩ := Row.typ hfr k e2
        exact Row.apart_typ hpl hzr (by decide) hk
      have hap2 : ∀ q, q < j → ∀ k, (Value.slice (xs.getD q frE0).a (xs.getD q frE0).n (xs.getD q frE0).k).ownBlock = some k → ¬ (Value.slice fa j fc).ownBlock = some k := fun q hq k hk e2 => by
        obtain ⟨zr, hzr⟩ := Row.typ hfr k e2
        exact Row.apart_typ (hfo q hq).2.2 hzr (by decide) hk
      refine WL.append rfl rfl rfl rfl rfl rfl (FRow.app ⟨la, (rPr m j).ob.length, lc, rSz m j⟩ _ hfr ff.size (by omega)) ?_
      rintro v5 w5 ⟨hfr5, hF5, _⟩
      have bx1 := bx1.fr hF5 (Row.apart_typ hfr bx1 (by decide))
      have bx2 := bx2.fr hF5 (Row.apart_typ hfr bx2 (by decide))
      have bxM5 := bxM.fr hF5 (Row.apart_typ hfr bxM (by decide))
      have hmb5 : MB w5 b7 (fun _ => 0) := by
        obtain ⟨z, hz, _⟩ := id hmb
        exact hmb.fr hF5 (Row.apart_typ hfr hz (by decide))
      have hfo5 : ∀ q, q < j + 1 → FrOk w.heap.size w5 m ((xs ++ [(⟨la, (rPr m j).ob.length, lc, rSz m j⟩ : FrE)]).getD q frE0) q := fun q hq => by
        by_cases e : q = j
        · subst e
          rw [show (xs ++ [(⟨la, (rPr m q).ob.length, lc, rSz m q⟩ : FrE)]).getD q frE0 = ⟨la, (rPr m q).ob.length, lc, rSz m q⟩ by rw [List.getD_eq_getElem?_getD, List.getElem?_append_right (by omega), hln]; simp]
          exact ⟨rfl, rfl, Row.fr hpl hF5 (fun k hk e2 => hap k hk e2)⟩
        · rw [show (xs ++ [(⟨la, (rPr m j).ob.length, lc, rSz m j⟩ : FrE)]).getD q frE0 = xs.getD q frE0 by rw [List.getD_eq_getElem?_getD, List.getElem?_append_left (by omega), List.getD_eq_getElem?_getD]]
          exact (hfo q (by omega)).fr hF5 (fun k hk e2 => hap2 q (by omega) k hk e2)
      have ff5 := ff.trans' hF5 (fun q hq e => by have := (Row.lt hfr q e).1; omega)
      clear hfr hfo hmb bxM ff hpl
      have bxM := bxM5
      have ff := ff5
      have hmb := hmb5
      have hfo := hfo5
      obtain ⟨fa5, fc5, rfl⟩ := Row.form hfr5
      rw [List.length_append, List.length_singleton, hln] at hfr5
      rw [List.length_append, List.length_singleton, hln]
      have hfr := hfr5
      clear bxM5 ff5 hmb5 hfo5 hfr5
      -- world w5
      refine O.nck rfl rfl rfl rfl rfl ?_
      refine WL.op rfl rfl rfl (Go.Proofs.Ythdkmjbeemfbbaa.W.quiet_field rfl rfl (fun W => (qa_irrun_machine_7 W _ _))) ?_
      refine O.storeR rfl rfl rfl rfl rfl (qsF_s_irrun_frame w5 _ 13 _ _ _ _ _ _ bxM rfl) ?_
      rintro wa8 ⟨fa8, bxMx⟩
      replace bx1 := bx1.fr fa8 (fun e => by omega)
      replace bx2 := bx2.fr fa8 (fun e => by omega)
      replace ff := ff.trans' fa8 (fun q hq e => by omega)
      replace hmb := hmb.fr fa8 (fun e => by omega)
      replace hfr := Row.fr hfr fa8 (fun k hk e => Row.apart_typ hfr bxM (by decide) (hk.trans (congrArg some e)))
      replace hfo := fun q hq => (hfo q hq).frT bxM (by decide) fa8
      clear bxM
      have bxM := bxMx
      clear bxMx
      refine WL.end ?_
      refine Xw.nblk ?_
      refine Xw.nrm ?_
      refine TW.reg ?_
      refine WL.op rfl rfl rfl (Go.Proofs.Ythdkmjbeemfbbaa.W.quiet_bin rfl rfl rfl (fun W => qb_add_int W _ _ _ _ (by omega) (by omega))) ?_
      refine WL.op rfl rfl rfl (Go.Proofs.Ythdkmjbeemfbbaa.W.quiet_move rfl rfl) ?_
      refine WL.end ?_
      refine Xw.any (fun a k => ?_)
      refine ⟨j + 1, by omega, by omega, fa5, fc5, xs ++ [⟨la, (rPr m j).ob.length, lc, rSz m j⟩], by (repeat (refine Kn.cons k rfl ?_)); exact k.base, ff, bx1, bx2, bxM, hmb, hfr, hfo⟩
    · skip
      have hje : j = m.pr.length := by have := of_decide_eq_false hb; omega
      clear hb
      have hwl := ff.size
      have hb6l := bx2.lt
      have hb8l := bxM.lt
      have hdg : m.da.length = m.gl.length := hmp.1.1
      have hg2 := hfew.g
      have hs1 : ∀ k, k < (slS m.gl).length → 1 ≤ (slS m.gl).getD k 0 := fun k hk => by
        rw [slS_len] at hk
        rw [slS_get]
        exact (hmp.1.2.2.2.2.2.2.1 k hk).1
      have hdn : ∀ k, k < m.gl.length → ((dat.getD k []).length : Int) = (slS m.gl).getD k 0 := fun k hk => by
        rw [slS_get, ← hmp.1.2.2.2.2.2.2.2 k (by omega), hdl k (by omega)]
      rw [hje] at hfr bxM hfo
      clear hje
      refine WL.nil ?_
      by_cases hbig : 61440 < offs (slS m.gl) m.gl.length
      · skip
        refine TW.seq ?_
        refine TW.cond rfl (fun hb => by cases hb) (fun _ => ?_)
        refine TW.exit ?_
        refine Xw.thn (by simp) ?_
        refine Xw.thn (by simp) ?_
        refine Xw.hit ?_
        refine Xw.nrm ?_
        refine TW.seq ?_
        refine TW.sreg ?_
        refine WL.op rfl rfl rfl (Go.Proofs.Ythdkmjbeemfbbaa.W.quiet_move rfl rfl) ?_
        refine WL.call (hr := ((t_globals b8 b7 m.gl.length (slS m.gl) dat (fun _ => 0) (.slice none 0 0) (.int .i64 0) (.int .u32 0) (.slice pa m.pr.length pc) (.int .i64 m.mn) (.slice ia inp.length ic) (.int .i64 (f : Int)) (.slice fa m.pr.length fc) (.slice none 0 0) ga da gc dc 0 (.slice none 0 0) (.int .i64 0) (by omega) (slS_len _) (by omega) (slS_slim hmp.1.2.2.2.2.2.2.1) hs1 hdn w _ hm.g.slots hdat ff (by omega) (by omega) (by omega) (by have z := bxM; rw [hdg] at z; exact z) hmb).mono (fun e w' z => z.resolve_right (fun q => q.1 hbig)))) rfl rfl rfl rfl rfl (fun W => qk_irrun_machine_placeGlobals W _) ?_
        rintro e w2 ⟨_, rfl, bxM2, hmb2, f2⟩
        refine ⟨_, rfl, ?_⟩
        have bx1 := bx1.fr f2 (fun e => by omega)
        have bx2 := bx2.fr f2 (fun e => by omega)
        have ff2 := ff.trans' f2 (fun q hq e => by omega)
        clear bxM ff hmb hfr hfo
        have bxM := bxM2
        have ff := ff2
        clear bxM2 ff2
        refine WL.nil ?_
        refine TW.cond rfl (fun hb => by exfalso; revert hb; first | (simp; done) | (simp; omega)) (fun hb => ?_)
        refine TW.skip ?_
        refine TW.sreg ?_
        refine WL.op rfl rfl rfl (Go.Proofs.Ythdkmjbeemfbbaa.W.quiet_move rfl rfl) ?_
        refine WL.call (hr := (t_run8 b8 _ _ _ _ _ _ _ _ _ _ _ _ _ _ _ bxM)) rfl rfl rfl rfl rfl (fun W => qk_irrun_machine_run W _) ?_
        rintro e wz ⟨rfl, hwz⟩
        refine ⟨_, rfl, ?_⟩
        obtain rfl := hwz.symm
        refine WL.nil ?_
        refine TW.sreg ?_
        refine WL.op rfl rfl rfl (Go.Proofs.Ythdkmjbeemfbbaa.W.quiet_move rfl rfl) ?_
        refine O.nck rfl rfl rfl rfl rfl ?_
        refine WL.op rfl rfl rfl (Go.Proofs.Ythdkmjbeemfbbaa.W.quiet_field rfl rfl (fun W => (qa_irrun_machine_0 W _ _))) ?_
        refine WL.ld rfl rfl rfl rfl rfl (ql_api_Outcome _ _ _ _ _ _ _ (bxM.cell (j := 0) rfl) (bxM.cell (j := 1) rfl) (bxM.cell (j := 2) rfl) (bxM.cell (j := 3) rfl)) ?_
        refine O.storeR rfl rfl rfl rfl rfl (qsA_api_Outcome w2 _ _ _ _ _ _ _ _ _ _ _ bx2) ?_
        rintro wa9 ⟨fa9, bx2x⟩
        replace bx1 := bx1.fr fa9 (fun e => by omega)
        replace bxM := bxM.fr fa9 (fun e => by omega)
        replace ff := ff.trans' fa9 (fun q hq e => by omega)
        clear bx2
        have bx2 := bx2x
        clear bx2x
        refine WL.nil ?_
        refine TW.rt ?_
        refine O.retc1 rfl rfl (run_loadVar_row _ _ _ 34 _ _ _ bx2 Try.underlying34 rfl (by kernel_rfl)) ?_
        refine ⟨none, 0, ?_, ?_, ff⟩
        · rw [rFin_big hf hbig]
          rfl
        · rw [rFin_big hf hbig]
          exact Row.nil _ _ _ _ _
      · skip
        refine TW.seq ?_
        refine TW.cond rfl (fun hb => by cases hb) (fun _ => ?_)
        refine TW.exit ?_
        refine Xw.thn (by simp) ?_
        refine Xw.thn (by simp) ?_
        refine Xw.hit ?_
        refine Xw.nrm ?_
        refine TW.seq ?_
        refine TW.sreg ?_
        refine WL.op rfl rfl rfl (Go.Proofs.Ythdkmjbeemfbbaa.W.quiet_move rfl rfl) ?_
        refine WL.call (hr := ((t_globals b8 b7 m.gl.length (slS m.gl) dat (fun _ => 0) (.slice none 0 0) (.int .i64 0) (.int .u32 0) (.slice pa m.pr.length pc) (.int .i64 m.mn) (.slice ia inp.length ic) (.int .i64 (f : Int)) (.slice fa m.pr.length fc) (.slice none 0 0) ga da gc dc 0 (.slice none 0 0) (.int .i64 0) (by omega) (slS_len _) (by omega) (slS_slim hmp.1.2.2.2.2.2.2.1) hs1 hdn w _ hm.g.slots hdat ff (by omega) (by omega) (by omega) (by have z := bxM; rw [hdg] at z; exact z) hmb).mono (fun e w' z => z.resolve_left (fun q => hbig q.1)))) rfl rfl rfl rfl rfl (fun W => qk_irrun_machine_placeGlobals W _) ?_
        rintro e w2 ⟨_, rfl, la, lc, bxM2, hmb2, hglb, f2⟩
        refine ⟨_, rfl, ?_⟩
        have bx1 := bx1.fr f2 (fun e => by omega)
        have bx2 := bx2.fr f2 (fun e => by omega)
        have ff2 := ff.trans' f2 (fun q hq e => by omega)
        have hws := f2.size
        obtain ⟨zmb, hzmb, _⟩ := id hmb
        have hb7l := hzmb.lt
        have hxl : xs.length = m.pr.length := by obtain ⟨a, cc, e⟩ := Row.form hfr; injection e with _ e; exact e.symm
        have hfr2 := Row.fr hfr f2 (fun k hk e => by
          rcases e with e | e
          · exact Row.apart_typ hfr bxM (by decide) (hk.trans (congrArg some e))
          · exact Row.apart_typ hfr hzmb (by decide) (hk.trans (congrArg some e)))
        have hfo2 : ∀ q, q < m.pr.length → FrOk w.heap.size w2 m (xs.getD q frE0) q := fun q hq => (hfo q hq).fr f2 (fun k hk e => by
          rcases e with e | e
          · exact Row.apart_typ (hfo q hq).2.2 bxM (by decide) (hk.trans (congrArg some e))
          · exact Row.apart_typ (hfo q hq).2.2 hzmb (by decide) (hk.trans (congrArg some e)))
        obtain ⟨zmb2, hzmb2, hzs2, hzc2⟩ := id hmb2
        have hc : RC.ok (⟨m, w, w2, ga, gc, da, dc, pa, pc, ia, ic, inp, b8, b7, fa, fc, la, lc⟩ : RC) := ⟨hmp, mdlU_of hwd, hm, hin, hinu, hinl, ff2, (by show w.heap.size ≤ b8; omega), (by show w.heap.size ≤ b7; omega), (by show b8 < w2.heap.size; omega), (by show b7 < w2.heap.size; omega), frm_of hxl hfr2 hfo2 bxM2 hzmb2, fun j hj => by obtain ⟨h, e1, e2, e3⟩ := hglb j hj; exact ⟨h, e1, (by show h ≠ b8; omega), (by show h ≠ b7; omega), e3⟩⟩
        have hwf0 : RWf m 0 (⟨(rMe (slS m.gl) dat (fun _ => 0) m.gl.length), fun _ => ⟨fun _ => 0, 0, 0, 0, 0, -1⟩, 0, [], 0, 0, 0⟩ : RSt) := rwf0 (rMe_in hdu _)
        have hrm : RM (⟨m, w, w2, ga, gc, da, dc, pa, pc, ia, ic, inp, b8, b7, fa, fc, la, lc⟩ : RC) w2 (⟨.slice none 0 0, none, 0, fun _ _ => .slice none 0 0⟩ : RL) (⟨(rMe (slS m.gl) dat (fun _ => 0) m.gl.length), fun _ => ⟨fun _ => 0, 0, 0, 0, 0, -1⟩, 0, [], 0, 0, 0⟩ : RSt) (f : Int) 0 := by
          refine ⟨?_, ff2, Fr.refl _ _, ⟨zmb2, hzmb2, hzs2, hzc2⟩, Row.nil _ _ _ _ _, .inl ⟨rfl, rfl⟩, fun k hk => absurd hk (Nat.not_lt_zero _), fun k hk => absurd hk (Nat.not_lt_zero _), Nat.le_refl _, fun j k g hj => absurd hj (Nat.not_lt_zero _), fun k g hk => absurd hk (Nat.not_lt_zero _)⟩
          show Bx w2 b8 #[.slice none 0 0, .int .i64 0, .int .u32 0, .int .i64 0, .slice ga m.gl.length gc, .slice da m.da.length dc, .slice pa m.pr.length pc, .int .i64 m.mn, .slice ia inp.length ic, .int .i64 (f : Int), .slice (some ⟨b7, 0, none⟩) 65536 65536, .slice la m.gl.length lc, .int .i64 (4096 + offs (slS m.gl) m.gl.length), .slice fa m.pr.length fc, .slice none 0 0] 55
          rw [hdg]
          exact bxM2
        obtain ⟨mn, hmn0⟩ : ∃ k : Nat, m.mn = (k : Int) := ⟨m.mn.toNat, by have := hmp.1.2.2.2.1; omega⟩
        have hmn1 : mn < m.pr.length := by have := hmp.1.2.2.2.1; omega
        have hmnt : m.mn.toNat = mn := by omega
        clear ff
        have ff := ff2
        refine WL.nil ?_
        refine TW.cond rfl (fun hb => ?_) (fun hb => by exfalso; revert hb; first | (simp; done) | (simp; omega))
        refine TW.reg ?_
        refine WL.op rfl rfl rfl (Go.Proofs.Ythdkmjbeemfbbaa.W.quiet_move rfl rfl) ?_
        refine WL.op rfl rfl rfl (Go.Proofs.Ythdkmjbeemfbbaa.W.quiet_field rfl rfl (fun W => (qa_api_Module_3 W _ _))) ?_
        refine WL.ld rfl rfl rfl rfl rfl ((ql_int _ _ _ (bx1.cell (j := 3) rfl)).trans (by rw [hmn0])) ?_
        refine WL.call (hr := (t_enter (c := (⟨m, w, w2, ga, gc, da, dc, pa, pc, ia, ic, inp, b8, b7, fa, fc, la, lc⟩ : RC)) (L := (⟨.slice none 0 0, none, 0, fun _ _ => .slice none 0 0⟩ : RL)) (x := (⟨(rMe (slS m.gl) dat (fun _ => 0) m.gl.length), fun _ => ⟨fun _ => 0, 0, 0, 0, 0, -1⟩, 0, [], 0, 0, 0⟩ : RSt)) (fu := (f : Int)) (s := 0) (n := mn) hc hmn1 hwf0 [] (Nat.zero_le _) (-1) (.slice none 0 0) _ (.inl ⟨rfl, rfl⟩) (fun g hg => by cases hg) hrm)) rfl rfl rfl rfl rfl (fun W => qk_irrun_machine_enter W _) ?_
        rintro e w3 ⟨L3, rfl, hx3⟩
        refine ⟨_, rfl, ?_⟩
        refine WL.nil ?_
        refine TW.sreg ?_
        refine WL.op rfl rfl rfl (Go.Proofs.Ythdkmjbeemfbbaa.W.quiet_move rfl rfl) ?_
        refine WL.call (hr := (t_run (c := (⟨m, w, w2, ga, gc, da, dc, pa, pc, ia, ic, inp, b8, b7, fa, fc, la, lc⟩ : RC)) (s := 0) (f := f) hc (by omega) (blk_few hfew) (RWf.enter hmp hwf0 mn hmn1 [] (fun y hy => by cases hy) (-1) (fun h => absurd h (Nat.not_lt_zero _))) r0_enter _ hx3)) rfl rfl rfl rfl rfl (fun W => qk_irrun_machine_run W _) ?_
        rintro e w4 ⟨L4, fu4, rfl, hx4⟩
        refine ⟨_, rfl, ?_⟩
        have hfin := rFin_small (dat := dat) (inp := inp) (f := f) hf hbig
        rw [hmnt] at hfin
        have hx5 : RM (⟨m, w, w2, ga, gc, da, dc, pa, pc, ia, ic, inp, b8, b7, fa, fc, la, lc⟩ : RC) w4 L4 (rFin m dat inp f) fu4 (rFin m dat inp f).d := by rw [hfin]; exact hx4
        clear hx4 hx3
        generalize rFin m dat inp f = y at *
        obtain ⟨hmm, hrr⟩ := hx5
        obtain ⟨oa, oc, eo⟩ := Row.form hrr.out
        have bxM4 : Bx w4 b8 #[.slice oa y.out.length oc, .int .i64 y.ins, .int .u32 y.ex, .int .i64 y.e, .slice ga m.gl.length gc, .slice da m.da.length dc, .slice pa m.pr.length pc, .int .i64 m.mn, .slice ia inp.length ic, .int .i64 fu4, .slice (some ⟨b7, 0, none⟩) 65536 65536, .slice la m.gl.length lc, .int .i64 (rFlo m), .slice fa m.pr.length fc, .slice L4.ca y.d L4.cc] 55 := by
          have z := hmm
          unfold RC.mz at z
          rw [eo] at z
          exact z
        have bx2 := bx2.fr hrr.f1 (fun e => by rcases e with e | e <;> (have e : b6 = _ := e; simp only at e; omega))
        have ff := hrr.f0
        have hro := hrr.out
        rw [eo] at hro
        have hro := Row.base (B' := w.heap.size) hro (fun k hk => Nat.le_trans ff2.size (Row.lt hro k hk).1)
        refine WL.nil ?_
        refine TW.sreg ?_
        refine WL.op rfl rfl rfl (Go.Proofs.Ythdkmjbeemfbbaa.W.quiet_move rfl rfl) ?_
        refine O.nck rfl rfl rfl rfl rfl ?_
        refine WL.op rfl rfl rfl (Go.Proofs.Ythdkmjbeemfbbaa.W.quiet_field rfl rfl (fun W => (qa_irrun_machine_0 W _ _))) ?_
        refine WL.ld rfl rfl rfl rfl rfl (ql_api_Outcome _ _ _ _ _ _ _ (bxM4.cell (j := 0) rfl) (bxM4.cell (j := 1) rfl) (bxM4.cell (j := 2) rfl) (bxM4.cell (j := 3) rfl)) ?_
        refine O.storeR rfl rfl rfl rfl rfl (qsA_api_Outcome w4 _ _ _ _ _ _ _ _ _ _ _ bx2) ?_
        rintro wa10 ⟨fa10, bx2x⟩
        replace bxM4 := bxM4.fr fa10 (fun e => by omega)
        replace hro := Row.fr hro fa10 (fun k hk e => Row.apart_typ hro bx2 (by decide) (hk.trans (congrArg some e)))
        replace ff := ff.trans' fa10 (fun q hq e => by have hq2 : q < w.heap.size := hq; omega)
        clear bx2
        have bx2 := bx2x
        clear bx2x
        refine WL.nil ?_
        refine TW.rt ?_
        refine O.retc1 rfl rfl (run_loadVar_row _ _ _ 34 _ _ _ bx2 Try.underlying34 rfl (by kernel_rfl)) ?_
        exact ⟨oa, oc, rfl, hro, ff⟩
end Go.Proofs.Ythdkmjbeemfbbaa
