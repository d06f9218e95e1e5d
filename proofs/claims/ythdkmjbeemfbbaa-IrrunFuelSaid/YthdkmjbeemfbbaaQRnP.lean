/-
  Runs (layer 14): an instruction. Runs (layer 14): the machine runs.
-/
import Derived.Test.YthdkmjbeemfbbaaQRnO
namespace Go.Proofs.Ythdkmjbeemfbbaa
open Go.RowKit
set_option linter.unusedVariables false
set_option linter.unusedSimpArgs false
theorem qk_irrun_machine_call (w : World) (vs : Array Value) : (callFunc 35 vs).run Try.prog w = .ok (.enter 35 vs) w := by simp [go_sem]
theorem qa_api_Outcome_0 (w : World) (b o : Nat) : (Instr.fieldAt 34 (.pointer (some ⟨b, o, none⟩)) 0).run Try.prog w = .ok (.pointer (some ⟨b, o, none⟩)) w := by simp [go_sem]
theorem qv_s_uint32_1 (w : World) (u0_m0 : Int) : (Instr.buildSlice 27 1 #[(0, .int .u32 u0_m0)]).run Try.prog w = .ok (.slice (some ⟨w.heap.size, 0, none⟩) 1 1) (w.alloc (.cells #[.int .u32 u0_m0] 31)) := by simp [go_sem]
theorem qsF_s_uint32 (w : World) (g j : Nat) (z : Array Value) (tt : TypeId) (y : Value) (up0 : Option Addr) (uk0 ul0 : Nat) (h : Bx w g z tt) (hj : z[j]? = some y) : ∃ w', (Instr.storeAt 27 (.pointer (some ⟨g, j, none⟩)) (.slice up0 uk0 ul0)).run Try.prog w = .ok () w' ∧ (Fr (fun q => q = g) w w' ∧ Bx w' g (z.setIfInBounds j (.slice up0 uk0 ul0)) tt) := by
  have c0 := h.cell hj
  have e0 := h.free j
  exact ⟨w.setCell ⟨g, j, none⟩ (.slice up0 uk0 ul0), by simp [go_sem, c0, e0], Fr.setCell _ _ _ rfl, h.set j _⟩
theorem qk_irrun_machine_read (w : World) (vs : Array Value) : (callFunc 36 vs).run Try.prog w = .ok (.enter 36 vs) w := by simp [go_sem]
set_option maxRecDepth 100000 in
theorem t_ex9 {c : RC} {L : RL} {x : RSt} {fu : Int} {s lv cb gi oi : Nat} (hc : c.ok) (hd2 : x.d = lv + 1) (hcb : L.ca = some ⟨cb, 0, none⟩) (i : Inn) (hi : InsAt c.w0 gi oi i) (hiM : InsM c.m (rPr c.m (x.cl lv).n) i) (hu : U32 i.u) (hwf : RWf c.m s x) (hs : s ≤ 100000) (h0 : i.x0 = 9) (w : World) (h : RM c w L x fu x.d) : Calls Try.prog 20 #[.pointer (some ⟨c.M, 0, none⟩), .pointer (some ⟨cb, 0 + lv * 6, none⟩), .pointer (some ⟨gi, oi, none⟩)] w fun e w' => ∃ L', e = .returned (.tuple #[]) ∧ RM c w' L' (rExec c.m c.inp x i) fu (rExec c.m c.inp x i).d := by
  have hk : lv < x.d := by omega
  have hx := h
  have ha := h.r.at_ hc hcb hk
  obtain ⟨ra, rk, eF⟩ := (h.r.top lv hk).1.form
  obtain ⟨p1, p2, pO, pG, pP, pZ, pD, pDn, pDc, pDv, pA, pAn, pB, pBn, pArg, pArn, pL, pF3, pF4, pF0, pU, pOff, pOffn, pSz, pSzn⟩ := id hiM
  have hw0 := hwf.cl lv hk
  obtain ⟨n5, e5⟩ : ∃ n : Nat, i.x5 = (n : Int) := ⟨i.x5.toNat, by have := pP h0; omega⟩
  have hn5 : n5 < c.m.pr.length := by have := pP h0; omega
  have ho := rOut_of hc.mp hn5
  have hcal : (calP c.m i) = (rPr c.m n5).pa := by unfold calP; rw [e5]; rfl
  have hag := pArg h0
  rw [hcal] at hag
  have ho1 := ho.1
  have ho2 := ho.2.1
  have hx1 : RM c w L x fu (lv + 1) := hd2 ▸ h
  refine calls_tw Try.func20 rfl rfl (Nat.le_of_ble_eq_true rfl) ?_
  refine TW.sreg ?_
  refine WL.op rfl rfl rfl (Go.Proofs.Ythdkmjbeemfbbaa.W.quiet_move rfl rfl) ?_
  refine O.nck rfl rfl rfl rfl rfl ?_
  refine WL.op rfl rfl rfl (Go.Proofs.Ythdkmjbeemfbbaa.W.quiet_field rfl rfl (fun W => (qa_irrun_call_0 W _ _))) ?_
  refine WL.ld rfl rfl rfl rfl rfl (ql_irrun_registers _ _ _ _ _ (ha.c0.trans (congrArg some eF))) ?_
  refine WL.op rfl rfl rfl (Go.Proofs.Ythdkmjbeemfbbaa.W.quiet_assign rfl rfl) ?_
  refine WL.nil ?_
  refine TW.sreg ?_
  refine WL.op rfl rfl rfl (Go.Proofs.Ythdkmjbeemfbbaa.W.quiet_move rfl rfl) ?_
  refine O.nck rfl rfl rfl rfl rfl ?_
  refine WL.op rfl rfl rfl (Go.Proofs.Ythdkmjbeemfbbaa.W.quiet_field rfl rfl (fun W => (qa_api_Ins_0 W _ _))) ?_
  refine WL.ld rfl rfl rfl rfl rfl ((ql_int _ _ _ (hx.r.f0.cell hi.1 id)).trans (by rw [h0])) ?_
  refine WL.nil ?_
  refine TW.block ?_
  refine TW.sreg ?_
  refine WL.op rfl rfl rfl (Go.Proofs.Ythdkmjbeemfbbaa.W.quiet_bin rfl rfl rfl (fun W => qb_eql_int W _ _ _ _)) ?_
  refine O.split (fun hb => by exfalso; revert hb; first | (simp; done) | (simp; omega)) (fun hb => ?_)
  refine WL.op rfl rfl rfl (Go.Proofs.Ythdkmjbeemfbbaa.W.quiet_assign rfl rfl) ?_
  refine WL.nil ?_
  refine TW.cond rfl (fun hb => by cases hb) (fun _ => ?_)
  refine TW.sreg ?_
  refine WL.op rfl rfl rfl (Go.Proofs.Ythdkmjbeemfbbaa.W.quiet_bin rfl rfl rfl (fun W => qb_eql_int W _ _ _ _)) ?_
  refine O.split (fun hb => by exfalso; revert hb; first | (simp; done) | (simp; omega)) (fun hb => ?_)
  refine WL.op rfl rfl rfl (Go.Proofs.Ythdkmjbeemfbbaa.W.quiet_assign rfl rfl) ?_
  refine WL.nil ?_
  refine TW.cond rfl (fun hb => by cases hb) (fun _ => ?_)
  refine TW.sreg ?_
  refine WL.op rfl rfl rfl (Go.Proofs.Ythdkmjbeemfbbaa.W.quiet_bin rfl rfl rfl (fun W => qb_eql_int W _ _ _ _)) ?_
  refine O.split (fun hb => by exfalso; revert hb; first | (simp; done) | (simp; omega)) (fun hb => ?_)
  refine WL.op rfl rfl rfl (Go.Proofs.Ythdkmjbeemfbbaa.W.quiet_assign rfl rfl) ?_
  refine WL.nil ?_
  refine TW.cond rfl (fun hb => by cases hb) (fun _ => ?_)
  refine TW.sreg ?_
  refine WL.op rfl rfl rfl (Go.Proofs.Ythdkmjbeemfbbaa.W.quiet_bin rfl rfl rfl (fun W => qb_eql_int W _ _ _ _)) ?_
  refine O.split (fun hb => by exfalso; revert hb; first | (simp; done) | (simp; omega)) (fun hb => ?_)
  refine WL.op rfl rfl rfl (Go.Proofs.Ythdkmjbeemfbbaa.W.quiet_assign rfl rfl) ?_
  refine WL.nil ?_
  refine TW.cond rfl (fun hb => by cases hb) (fun _ => ?_)
  refine TW.sreg ?_
  refine WL.op rfl rfl rfl (Go.Proofs.Ythdkmjbeemfbbaa.W.quiet_bin rfl rfl rfl (fun W => qb_eql_int W _ _ _ _)) ?_
  refine O.split (fun hb => by exfalso; revert hb; first | (simp; done) | (simp; omega)) (fun hb => ?_)
  refine WL.op rfl rfl rfl (Go.Proofs.Ythdkmjbeemfbbaa.W.quiet_assign rfl rfl) ?_
  refine WL.nil ?_
  refine TW.cond rfl (fun hb => by cases hb) (fun _ => ?_)
  refine TW.sreg ?_
  refine WL.op rfl rfl rfl (Go.Proofs.Ythdkmjbeemfbbaa.W.quiet_bin rfl rfl rfl (fun W => qb_eql_int W _ _ _ _)) ?_
  refine O.split (fun hb => by exfalso; revert hb; first | (simp; done) | (simp; omega)) (fun hb => ?_)
  refine WL.op rfl rfl rfl (Go.Proofs.Ythdkmjbeemfbbaa.W.quiet_assign rfl rfl) ?_
  refine WL.nil ?_
  refine TW.cond rfl (fun hb => by cases hb) (fun _ => ?_)
  refine TW.sreg ?_
  refine WL.op rfl rfl rfl (Go.Proofs.Ythdkmjbeemfbbaa.W.quiet_bin rfl rfl rfl (fun W => qb_eql_int W _ _ _ _)) ?_
  refine O.split (fun hb => by exfalso; revert hb; first | (simp; done) | (simp; omega)) (fun hb => ?_)
  refine WL.op rfl rfl rfl (Go.Proofs.Ythdkmjbeemfbbaa.W.quiet_assign rfl rfl) ?_
  refine WL.nil ?_
  refine TW.cond rfl (fun hb => by cases hb) (fun _ => ?_)
  refine TW.sreg ?_
  refine WL.op rfl rfl rfl (Go.Proofs.Ythdkmjbeemfbbaa.W.quiet_bin rfl rfl rfl (fun W => qb_eql_int W _ _ _ _)) ?_
  refine O.split (fun hb => by exfalso; revert hb; first | (simp; done) | (simp; omega)) (fun hb => ?_)
  refine WL.op rfl rfl rfl (Go.Proofs.Ythdkmjbeemfbbaa.W.quiet_assign rfl rfl) ?_
  refine WL.nil ?_
  refine TW.cond rfl (fun hb => by cases hb) (fun _ => ?_)
  refine TW.sreg ?_
  refine WL.op rfl rfl rfl (Go.Proofs.Ythdkmjbeemfbbaa.W.quiet_bin rfl rfl rfl (fun W => qb_eql_int W _ _ _ _)) ?_
  refine O.split (fun hb => ?_) (fun hb => by exfalso; revert hb; first | (simp; done) | (simp; omega))
  refine WL.op rfl rfl rfl (Go.Proofs.Ythdkmjbeemfbbaa.W.quiet_assign rfl rfl) ?_
  refine WL.nil ?_
  refine TW.cond rfl (fun _ => ?_) (fun hb => by cases hb)
  refine TW.reg ?_
  refine WL.op rfl rfl rfl (Go.Proofs.Ythdkmjbeemfbbaa.W.quiet_move rfl rfl) ?_
  refine WL.op rfl rfl rfl (Go.Proofs.Ythdkmjbeemfbbaa.W.quiet_move rfl rfl) ?_
  refine WL.op rfl rfl rfl (Go.Proofs.Ythdkmjbeemfbbaa.W.quiet_move rfl rfl) ?_
  refine WL.call (hr := (t_call hc hd2 hcb i hi e5 hn5 hwf (by omega) (by omega) hag.2 _ hx1)) rfl rfl rfl rfl rfl (fun W => qk_irrun_machine_call W _) ?_
  rintro e w2 ⟨L2, rfl, hx2⟩
  refine ⟨_, rfl, ?_⟩
  refine WL.end ?_
  refine Xw.nblk ?_
  refine O.end0 rfl ?_
  refine ⟨L2, rfl, ?_⟩
  rw [rEx9 hd2 h0, e5, Int.toNat_natCast]
  exact hx2
set_option maxRecDepth 100000 in
theorem t_ex10 {c : RC} {L : RL} {x : RSt} {fu : Int} {s lv cb gi oi : Nat} (hc : c.ok) (hd2 : x.d = lv + 1) (hcb : L.ca = some ⟨cb, 0, none⟩) (i : Inn) (hi : InsAt c.w0 gi oi i) (hiM : InsM c.m (rPr c.m (x.cl lv).n) i) (hu : U32 i.u) (hwf : RWf c.m s x) (hs : s ≤ 100000) (h0 : i.x0 = 10) (w : World) (h : RM c w L x fu x.d) : Calls Try.prog 20 #[.pointer (some ⟨c.M, 0, none⟩), .pointer (some ⟨cb, 0 + lv * 6, none⟩), .pointer (some ⟨gi, oi, none⟩)] w fun e w' => ∃ L', e = .returned (.tuple #[]) ∧ RM c w' L' (rExec c.m c.inp x i) fu (rExec c.m c.inp x i).d := by
  have hk : lv < x.d := by omega
  have hx := h
  have ha := h.r.at_ hc hcb hk
  obtain ⟨ra, rk, eF⟩ := (h.r.top lv hk).1.form
  obtain ⟨p1, p2, pO, pG, pP, pZ, pD, pDn, pDc, pDv, pA, pAn, pB, pBn, pArg, pArn, pL, pF3, pF4, pF0, pU, pOff, pOffn, pSz, pSzn⟩ := id hiM
  have hw0 := hwf.cl lv hk
  obtain ⟨r2, e2, hr2⟩ := RgP.nat (pA (by omega))
  obtain ⟨g, rfl, hg, hcg⟩ := RM.rg hc h hk eF hr2
  have hcbg := hcg cb hcb
  have hm1 := hc.m1
  have hb1 := hc.b1
  have hw01 := hc.f01.size
  have hon := hwf.on
  refine calls_tw Try.func20 rfl rfl (Nat.le_of_ble_eq_true rfl) ?_
  refine TW.sreg ?_
  refine WL.op rfl rfl rfl (Go.Proofs.Ythdkmjbeemfbbaa.W.quiet_move rfl rfl) ?_
  refine O.nck rfl rfl rfl rfl rfl ?_
  refine WL.op rfl rfl rfl (Go.Proofs.Ythdkmjbeemfbbaa.W.quiet_field rfl rfl (fun W => (qa_irrun_call_0 W _ _))) ?_
  refine WL.ld rfl rfl rfl rfl rfl (ql_irrun_registers _ _ _ _ _ (ha.c0.trans (congrArg some eF))) ?_
  refine WL.op rfl rfl rfl (Go.Proofs.Ythdkmjbeemfbbaa.W.quiet_assign rfl rfl) ?_
  refine WL.nil ?_
  refine TW.sreg ?_
  refine WL.op rfl rfl rfl (Go.Proofs.Ythdkmjbeemfbbaa.W.quiet_move rfl rfl) ?_
  refine O.nck rfl rfl rfl rfl rfl ?_
  refine WL.op rfl rfl rfl (Go.Proofs.Ythdkmjbeemfbbaa.W.quiet_field rfl rfl (fun W => (qa_api_Ins_0 W _ _))) ?_
  refine WL.ld rfl rfl rfl rfl rfl ((ql_int _ _ _ (hx.r.f0.cell hi.1 id)).trans (by rw [h0])) ?_
  refine WL.nil ?_
  refine TW.block ?_
  refine TW.sreg ?_
  refine WL.op rfl rfl rfl (Go.Proofs.Ythdkmjbeemfbbaa.W.quiet_bin rfl rfl rfl (fun W => qb_eql_int W _ _ _ _)) ?_
  refine O.split (fun hb => by exfalso; revert hb; first | (simp; done) | (simp; omega)) (fun hb => ?_)
  refine WL.op rfl rfl rfl (Go.Proofs.Ythdkmjbeemfbbaa.W.quiet_assign rfl rfl) ?_
  refine WL.nil ?_
  refine TW.cond rfl (fun hb => by cases hb) (fun _ => ?_)
  refine TW.sreg ?_
  refine WL.op rfl rfl rfl (Go.Proofs.Ythdkmjbeemfbbaa.W.quiet_bin rfl rfl rfl (fun W => qb_eql_int W _ _ _ _)) ?_
  refine O.split (fun hb => by exfalso; revert hb; first | (simp; done) | (simp; omega)) (fun hb => ?_)
  refine WL.op rfl rfl rfl (Go.Proofs.Ythdkmjbeemfbbaa.W.quiet_assign rfl rfl) ?_
  refine WL.nil ?_
  refine TW.cond rfl (fun hb => by cases hb) (fun _ => ?_)
  refine TW.sreg ?_
  refine WL.op rfl rfl rfl (Go.Proofs.Ythdkmjbeemfbbaa.W.quiet_bin rfl rfl rfl (fun W => qb_eql_int W _ _ _ _)) ?_
  refine O.split (fun hb => by exfalso; revert hb; first | (simp; done) | (simp; omega)) (fun hb => ?_)
  refine WL.op rfl rfl rfl (Go.Proofs.Ythdkmjbeemfbbaa.W.quiet_assign rfl rfl) ?_
  refine WL.nil ?_
  refine TW.cond rfl (fun hb => by cases hb) (fun _ => ?_)
  refine TW.sreg ?_
  refine WL.op rfl rfl rfl (Go.Proofs.Ythdkmjbeemfbbaa.W.quiet_bin rfl rfl rfl (fun W => qb_eql_int W _ _ _ _)) ?_
  refine O.split (fun hb => by exfalso; revert hb; first | (simp; done) | (simp; omega)) (fun hb => ?_)
  refine WL.op rfl rfl rfl (Go.Proofs.Ythdkmjbeemfbbaa.W.quiet_assign rfl rfl) ?_
  refine WL.nil ?_
  refine TW.cond rfl (fun hb => by cases hb) (fun _ => ?_)
  refine TW.sreg ?_
  refine WL.op rfl rfl rfl (Go.Proofs.Ythdkmjbeemfbbaa.W.quiet_bin rfl rfl rfl (fun W => qb_eql_int W _ _ _ _)) ?_
  refine O.split (fun hb => by exfalso; revert hb; first | (simp; done) | (simp; omega)) (fun hb => ?_)
  refine WL.op rfl rfl rfl (Go.Proofs.Ythdkmjbeemfbbaa.W.quiet_assign rfl rfl) ?_
  refine WL.nil ?_
  refine TW.cond rfl (fun hb => by cases hb) (fun _ => ?_)
  refine TW.sreg ?_
  refine WL.op rfl rfl rfl (Go.Proofs.Ythdkmjbeemfbbaa.W.quiet_bin rfl rfl rfl (fun W => qb_eql_int W _ _ _ _)) ?_
  refine O.split (fun hb => by exfalso; revert hb; first | (simp; done) | (simp; omega)) (fun hb => ?_)
  refine WL.op rfl rfl rfl (Go.Proofs.Ythdkmjbeemfbbaa.W.quiet_assign rfl rfl) ?_
  refine WL.nil ?_
  refine TW.cond rfl (fun hb => by cases hb) (fun _ => ?_)
  refine TW.sreg ?_
  refine WL.op rfl rfl rfl (Go.Proofs.Ythdkmjbeemfbbaa.W.quiet_bin rfl rfl rfl (fun W => qb_eql_int W _ _ _ _)) ?_
  refine O.split (fun hb => by exfalso; revert hb; first | (simp; done) | (simp; omega)) (fun hb => ?_)
  refine WL.op rfl rfl rfl (Go.Proofs.Ythdkmjbeemfbbaa.W.quiet_assign rfl rfl) ?_
  refine WL.nil ?_
  refine TW.cond rfl (fun hb => by cases hb) (fun _ => ?_)
  refine TW.sreg ?_
  refine WL.op rfl rfl rfl (Go.Proofs.Ythdkmjbeemfbbaa.W.quiet_bin rfl rfl rfl (fun W => qb_eql_int W _ _ _ _)) ?_
  refine O.split (fun hb => by exfalso; revert hb; first | (simp; done) | (simp; omega)) (fun hb => ?_)
  refine WL.op rfl rfl rfl (Go.Proofs.Ythdkmjbeemfbbaa.W.quiet_assign rfl rfl) ?_
  refine WL.nil ?_
  refine TW.cond rfl (fun hb => by cases hb) (fun _ => ?_)
  refine TW.sreg ?_
  refine WL.op rfl rfl rfl (Go.Proofs.Ythdkmjbeemfbbaa.W.quiet_bin rfl rfl rfl (fun W => qb_eql_int W _ _ _ _)) ?_
  refine O.split (fun hb => by exfalso; revert hb; first | (simp; done) | (simp; omega)) (fun hb => ?_)
  refine WL.op rfl rfl rfl (Go.Proofs.Ythdkmjbeemfbbaa.W.quiet_assign rfl rfl) ?_
  refine WL.nil ?_
  refine TW.cond rfl (fun hb => by cases hb) (fun _ => ?_)
  refine TW.sreg ?_
  refine WL.op rfl rfl rfl (Go.Proofs.Ythdkmjbeemfbbaa.W.quiet_bin rfl rfl rfl (fun W => qb_eql_int W _ _ _ _)) ?_
  refine O.split (fun hb => ?_) (fun hb => by exfalso; revert hb; first | (simp; done) | (simp; omega))
  obtain ⟨hm0, hr⟩ := hx
  clear ha
  obtain ⟨oa, oc, eov⟩ := Row.form hr.out
  have hm : Bx w c.M #[(.slice oa x.out.length oc), .int .i64 x.ins, .int .u32 x.ex, .int .i64 x.e, .slice c.ga c.m.gl.length c.gc, .slice c.da c.m.da.length c.dc, .slice c.pa c.m.pr.length c.pc, .int .i64 c.m.mn, .slice c.ia c.inp.length c.ic, .int .i64 fu, .slice (some ⟨c.mb, 0, none⟩) 65536 65536, .slice c.la c.m.gl.length c.lc, .int .i64 (rFlo c.m), .slice c.fa c.m.pr.length c.fc, (.slice L.ca x.d L.cc)] 55 := by
    have q := hm0
    unfold RC.mz at q
    rw [eov] at q
    exact q
  clear hm0
  have hcA := (RM.rc hc h hk eF hr2).1
  have hgo : ¬ L.ov.ownBlock = some g := h.r.no lv g (Nat.lt_of_lt_of_le hk h.r.dc) (by rw [eF]; rfl)
  have hgA : ¬ (g = c.M ∨ L.ov.ownBlock = some g) := by
    rintro (e | e)
    · omega
    · exact hgo e
  have hoM : ¬ L.ov.ownBlock = some c.M := fun e => by have := (h.r.out.lt _ e).1; omega
  refine WL.op rfl rfl rfl (Go.Proofs.Ythdkmjbeemfbbaa.W.quiet_assign rfl rfl) ?_
  refine WL.nil ?_
  refine TW.cond rfl (fun _ => ?_) (fun hb => by cases hb)
  have f0w := hr.f0
  have hgi : ∀ q, q < c.w0.heap.size → ¬ (q = c.M ∨ L.ov.ownBlock = some q) := fun q hq e => by
    have := hc.m0
    rcases e with e | e
    · omega
    · have := (h.r.out.lt _ e).1; omega
  have hi2 : ∀ W, Fr (fun q => q = c.M ∨ L.ov.ownBlock = some q) w W → W.cell? ⟨gi, oi + 2, none⟩ = some (.int .i64 i.x2) := fun W hW => hW.cell (f0w.cell hi.2.2.1 id) (hgi _ (World.block_lt_of_cell? c.w0 _ hi.2.2.1))
  refine TW.regH (fun W => Fr (fun q => q = c.M ∨ L.ov.ownBlock = some q) w W) (by kernel_rfl) ?_
  have fd : Fr (fun _ => False) w w.drew := (Fr.refl _ _).drewN 1
  have HW : Fr (fun q => q = c.M ∨ L.ov.ownBlock = some q) w w.drew := (Fr.refl _ _).drewN 1
  replace hm := hm.fr fd id
  replace hr := hr.fr0 hc fd
  generalize hV : w.drew = V1 at *
  clear hV
  refine WH.take 0 rfl (by kernel_rfl) (by kernel_rfl) (by kernel_rfl) (fun _ _ _ _ _ h => h) rfl rfl rfl HW (RH.move rfl rfl) ?_
  refine WH.take 1 rfl (by kernel_rfl) (by kernel_rfl) (by kernel_rfl) (fun _ _ _ _ _ h => h) rfl rfl rfl HW (RH.move rfl rfl) ?_
  refine WH.take 2 rfl (by kernel_rfl) (by kernel_rfl) (by kernel_rfl) (fun _ _ _ _ _ h => h) rfl rfl rfl HW (RH.nck rfl rfl) ?_
  refine WH.take 3 rfl (by kernel_rfl) (by kernel_rfl) (by kernel_rfl) (fun _ _ _ _ _ h => h) rfl rfl rfl HW (RH.field rfl rfl (fun W => qa_irrun_machine_0 W _ _)) ?_
  refine WH.take 4 rfl (by kernel_rfl) (by kernel_rfl) (by kernel_rfl) (fun _ _ _ _ _ h => h) rfl rfl rfl HW (RH.field rfl rfl (fun W => qa_api_Outcome_0 W _ _)) ?_
  refine WH.take 6 rfl (by kernel_rfl) (by kernel_rfl) (by kernel_rfl) (fun _ _ _ _ _ h => h) rfl rfl rfl HW (RH.move rfl rfl) ?_
  refine WH.take 7 rfl (by kernel_rfl) (by kernel_rfl) (by kernel_rfl) (fun _ _ _ _ _ h => h) rfl rfl rfl HW (RH.move rfl rfl) ?_
  refine WH.take 8 rfl (by kernel_rfl) (by kernel_rfl) (by kernel_rfl) (fun _ _ _ _ _ h => h) rfl rfl rfl HW (RH.nck rfl rfl) ?_
  refine WH.take 9 rfl (by kernel_rfl) (by kernel_rfl) (by kernel_rfl) (fun _ _ _ _ _ h => h) rfl rfl rfl HW (RH.field rfl rfl (fun W => qa_api_Ins_2 W _ _)) ?_
  refine WH.take 10 rfl (by kernel_rfl) (by kernel_rfl) (by kernel_rfl) (fun _ _ _ _ _ h => h) rfl rfl rfl HW (RH.load rfl rfl (fun W hW => ((ql_int _ _ _ (hi2 W hW)).trans (by rw [e2])))) ?_
  refine WH.take 11 rfl (by kernel_rfl) (by kernel_rfl) (by kernel_rfl) (fun _ _ _ _ _ h => h) rfl rfl rfl HW (RH.index rfl rfl rfl (fun W => (qi_irrun_registers _ _ _ _ _ _ (by omega)))) ?_
  refine WH.take 12 rfl (by kernel_rfl) (by kernel_rfl) (by kernel_rfl) (fun _ _ _ _ _ h => h) rfl rfl rfl HW (RH.load rfl rfl (fun W hW => (ql_uint32 _ _ _ (hW.cell hcA hgA)))) ?_
  refine WH.two 5 13 (by kernel_rfl) rfl rfl ?_ ?_ 
  · skip
    refine WL.ld rfl rfl rfl rfl rfl (ql_s_uint32 _ _ _ _ _ (hm.cell (j := 0) rfl)) ?_
    refine WL.fin HW ?_
    refine WH.one 13 (by kernel_rfl) rfl ?_ 
    refine O.bsl rfl rfl rfl rfl rfl (qv_s_uint32_1 _ _) ?_
    refine WL.fin (fr_al HW _) ?_
    refine WH.one 14 (by kernel_rfl) rfl ?_ 
    refine WL.append rfl rfl rfl rfl rfl rfl (by have z := RM.app (s := s) hc hr ((x.cl lv).rg r2) 27 (by omega); rw [eov] at z; exact z) ?_
    rintro v4 w4 ⟨hr4, hf4, oa2, oc2, rfl⟩
    rw [← eov] at hf4
    replace HW := HW.trans' hf4 (fun q hq e => .inr e)
    have hm4 := hm.fr hf4 hoM
    clear hm hr
    have hm := hm4
    have hr := hr4
    -- world w4
    refine WL.fin HW ?_
    refine WH.take 15 rfl (by kernel_rfl) (by kernel_rfl) (by kernel_rfl) (fun _ _ _ _ _ h => h) rfl rfl rfl HW (RH.nck rfl rfl) ?_
    refine WH.take 16 rfl (by kernel_rfl) (by kernel_rfl) (by kernel_rfl) (fun _ _ _ _ _ h => h) rfl rfl rfl HW (RH.field rfl rfl (fun W => qa_irrun_machine_0 W _ _)) ?_
    refine WH.take 17 rfl (by kernel_rfl) (by kernel_rfl) (by kernel_rfl) (fun _ _ _ _ _ h => h) rfl rfl rfl HW (RH.field rfl rfl (fun W => qa_api_Outcome_0 W _ _)) ?_
    refine WH.one 18 (by kernel_rfl) rfl ?_ 
    refine O.storeR rfl rfl rfl rfl rfl (qsF_s_uint32 w4 _ 0 _ _ _ _ _ _ hm rfl) ?_
    rintro wa1 ⟨fa1, hmx⟩
    replace hr := hr.frM hc hm fa1
    replace HW := HW.trans' fa1 (fun q hq e => by first | exact e | exact Or.inl e | exact Or.inr e | omega)
    clear hm
    have hm := hmx
    clear hmx
    refine WL.fin HW ?_
    refine WH.end (by kernel_rfl) ?_
    refine Xw.nblk ?_
    refine O.end0 rfl ?_
    refine ⟨⟨.slice oa2 (x.out.length + 1) oc2, L.ca, L.cc, L.F⟩, rfl, ?_⟩
    rw [rEx10 hd2 h0, e2, Int.toNat_natCast]
    exact ⟨hm, hr⟩
  · skip
    refine O.bsl rfl rfl rfl rfl rfl (qv_s_uint32_1 _ _) ?_
    refine WL.fin (fr_al HW _) ?_
    refine WH.one 5 (by kernel_rfl) rfl ?_ 
    refine WL.ld rfl rfl rfl rfl rfl (ql_s_uint32 _ _ _ _ _ ((hm.fr (fr_al (Fr.refl (fun _ => False) _) _) id).cell (j := 0) rfl)) ?_
    refine WL.fin (fr_al HW _) ?_
    refine WH.one 14 (by kernel_rfl) rfl ?_ 
    refine WL.append rfl rfl rfl rfl rfl rfl (by have z := RM.app (s := s) hc hr ((x.cl lv).rg r2) 27 (by omega); rw [eov] at z; exact z) ?_
    rintro v4 w4 ⟨hr4, hf4, oa2, oc2, rfl⟩
    rw [← eov] at hf4
    replace HW := HW.trans' hf4 (fun q hq e => .inr e)
    have hm4 := hm.fr hf4 hoM
    clear hm hr
    have hm := hm4
    have hr := hr4
    -- world w4
    refine WL.fin HW ?_
    refine WH.take 15 rfl (by kernel_rfl) (by kernel_rfl) (by kernel_rfl) (fun _ _ _ _ _ h => h) rfl rfl rfl HW (RH.nck rfl rfl) ?_
    refine WH.take 16 rfl (by kernel_rfl) (by kernel_rfl) (by kernel_rfl) (fun _ _ _ _ _ h => h) rfl rfl rfl HW (RH.field rfl rfl (fun W => qa_irrun_machine_0 W _ _)) ?_
    refine WH.take 17 rfl (by kernel_rfl) (by kernel_rfl) (by kernel_rfl) (fun _ _ _ _ _ h => h) rfl rfl rfl HW (RH.field rfl rfl (fun W => qa_api_Outcome_0 W _ _)) ?_
    refine WH.one 18 (by kernel_rfl) rfl ?_ 
    refine O.storeR rfl rfl rfl rfl rfl (qsF_s_uint32 w4 _ 0 _ _ _ _ _ _ hm rfl) ?_
    rintro wa2 ⟨fa2, hmx⟩
    replace hr := hr.frM hc hm fa2
    replace HW := HW.trans' fa2 (fun q hq e => by first | exact e | exact Or.inl e | exact Or.inr e | omega)
    clear hm
    have hm := hmx
    clear hmx
    refine WL.fin HW ?_
    refine WH.end (by kernel_rfl) ?_
    refine Xw.nblk ?_
    refine O.end0 rfl ?_
    refine ⟨⟨.slice oa2 (x.out.length + 1) oc2, L.ca, L.cc, L.F⟩, rfl, ?_⟩
    rw [rEx10 hd2 h0, e2, Int.toNat_natCast]
    exact ⟨hm, hr⟩
set_option maxRecDepth 100000 in
theorem t_ex11 {c : RC} {L : RL} {x : RSt} {fu : Int} {s lv cb gi oi : Nat} (hc : c.ok) (hd2 : x.d = lv + 1) (hcb : L.ca = some ⟨cb, 0, none⟩) (i : Inn) (hi : InsAt c.w0 gi oi i) (hiM : InsM c.m (rPr c.m (x.cl lv).n) i) (hu : U32 i.u) (hwf : RWf c.m s x) (hs : s ≤ 100000) (h0 : i.x0 = 11) (w : World) (h : RM c w L x fu x.d) : Calls Try.prog 20 #[.pointer (some ⟨c.M, 0, none⟩), .pointer (some ⟨cb, 0 + lv * 6, none⟩), .pointer (some ⟨gi, oi, none⟩)] w fun e w' => ∃ L', e = .returned (.tuple #[]) ∧ RM c w' L' (rExec c.m c.inp x i) fu (rExec c.m c.inp x i).d := by
  have hk : lv < x.d := by omega
  have hx := h
  have ha := h.r.at_ hc hcb hk
  obtain ⟨ra, rk, eF⟩ := (h.r.top lv hk).1.form
  obtain ⟨p1, p2, pO, pG, pP, pZ, pD, pDn, pDc, pDv, pA, pAn, pB, pBn, pArg, pArn, pL, pF3, pF4, pF0, pU, pOff, pOffn, pSz, pSzn⟩ := id hiM
  have hw0 := hwf.cl lv hk
  obtain ⟨r1, e1, hr1⟩ := RgP.nat (pD (by omega))
  obtain ⟨g, rfl, hg, hcg⟩ := RM.rg hc h hk eF hr1
  have hcbg := hcg cb hcb
  have hm1 := hc.m1
  have hb1 := hc.b1
  have hw01 := hc.f01.size
  have hi0 := hwf.i0
  have hi1 := hwf.i1
  refine calls_tw Try.func20 rfl rfl (Nat.le_of_ble_eq_true rfl) ?_
  refine TW.sreg ?_
  refine WL.op rfl rfl rfl (Go.Proofs.Ythdkmjbeemfbbaa.W.quiet_move rfl rfl) ?_
  refine O.nck rfl rfl rfl rfl rfl ?_
  refine WL.op rfl rfl rfl (Go.Proofs.Ythdkmjbeemfbbaa.W.quiet_field rfl rfl (fun W => (qa_irrun_call_0 W _ _))) ?_
  refine WL.ld rfl rfl rfl rfl rfl (ql_irrun_registers _ _ _ _ _ (ha.c0.trans (congrArg some eF))) ?_
  refine WL.op rfl rfl rfl (Go.Proofs.Ythdkmjbeemfbbaa.W.quiet_assign rfl rfl) ?_
  refine WL.nil ?_
  refine TW.sreg ?_
  refine WL.op rfl rfl rfl (Go.Proofs.Ythdkmjbeemfbbaa.W.quiet_move rfl rfl) ?_
  refine O.nck rfl rfl rfl rfl rfl ?_
  refine WL.op rfl rfl rfl (Go.Proofs.Ythdkmjbeemfbbaa.W.quiet_field rfl rfl (fun W => (qa_api_Ins_0 W _ _))) ?_
  refine WL.ld rfl rfl rfl rfl rfl ((ql_int _ _ _ (hx.r.f0.cell hi.1 id)).trans (by rw [h0])) ?_
  refine WL.nil ?_
  refine TW.block ?_
  refine TW.sreg ?_
  refine WL.op rfl rfl rfl (Go.Proofs.Ythdkmjbeemfbbaa.W.quiet_bin rfl rfl rfl (fun W => qb_eql_int W _ _ _ _)) ?_
  refine O.split (fun hb => by exfalso; revert hb; first | (simp; done) | (simp; omega)) (fun hb => ?_)
  refine WL.op rfl rfl rfl (Go.Proofs.Ythdkmjbeemfbbaa.W.quiet_assign rfl rfl) ?_
  refine WL.nil ?_
  refine TW.cond rfl (fun hb => by cases hb) (fun _ => ?_)
  refine TW.sreg ?_
  refine WL.op rfl rfl rfl (Go.Proofs.Ythdkmjbeemfbbaa.W.quiet_bin rfl rfl rfl (fun W => qb_eql_int W _ _ _ _)) ?_
  refine O.split (fun hb => by exfalso; revert hb; first | (simp; done) | (simp; omega)) (fun hb => ?_)
  refine WL.op rfl rfl rfl (Go.Proofs.Ythdkmjbeemfbbaa.W.quiet_assign rfl rfl) ?_
  refine WL.nil ?_
  refine TW.cond rfl (fun hb => by cases hb) (fun _ => ?_)
  refine TW.sreg ?_
  refine WL.op rfl rfl rfl (Go.Proofs.Ythdkmjbeemfbbaa.W.quiet_bin rfl rfl rfl (fun W => qb_eql_int W _ _ _ _)) ?_
  refine O.split (fun hb => by exfalso; revert hb; first | (simp; done) | (simp; omega)) (fun hb => ?_)
  refine WL.op rfl rfl rfl (Go.Proofs.Ythdkmjbeemfbbaa.W.quiet_assign rfl rfl) ?_
  refine WL.nil ?_
  refine TW.cond rfl (fun hb => by cases hb) (fun _ => ?_)
  refine TW.sreg ?_
  refine WL.op rfl rfl rfl (Go.Proofs.Ythdkmjbeemfbbaa.W.quiet_bin rfl rfl rfl (fun W => qb_eql_int W _ _ _ _)) ?_
  refine O.split (fun hb => by exfalso; revert hb; first | (simp; done) | (simp; omega)) (fun hb => ?_)
  refine WL.op rfl rfl rfl (Go.Proofs.Ythdkmjbeemfbbaa.W.quiet_assign rfl rfl) ?_
  refine WL.nil ?_
  refine TW.cond rfl (fun hb => by cases hb) (fun _ => ?_)
  refine TW.sreg ?_
  refine WL.op rfl rfl rfl (Go.Proofs.Ythdkmjbeemfbbaa.W.quiet_bin rfl rfl rfl (fun W => qb_eql_int W _ _ _ _)) ?_
  refine O.split (fun hb => by exfalso; revert hb; first | (simp; done) | (simp; omega)) (fun hb => ?_)
  refine WL.op rfl rfl rfl (Go.Proofs.Ythdkmjbeemfbbaa.W.quiet_assign rfl rfl) ?_
  refine WL.nil ?_
  refine TW.cond rfl (fun hb => by cases hb) (fun _ => ?_)
  refine TW.sreg ?_
  refine WL.op rfl rfl rfl (Go.Proofs.Ythdkmjbeemfbbaa.W.quiet_bin rfl rfl rfl (fun W => qb_eql_int W _ _ _ _)) ?_
  refine O.split (fun hb => by exfalso; revert hb; first | (simp; done) | (simp; omega)) (fun hb => ?_)
  refine WL.op rfl rfl rfl (Go.Proofs.Ythdkmjbeemfbbaa.W.quiet_assign rfl rfl) ?_
  refine WL.nil ?_
  refine TW.cond rfl (fun hb => by cases hb) (fun _ => ?_)
  refine TW.sreg ?_
  refine WL.op rfl rfl rfl (Go.Proofs.Ythdkmjbeemfbbaa.W.quiet_bin rfl rfl rfl (fun W => qb_eql_int W _ _ _ _)) ?_
  refine O.split (fun hb => by exfalso; revert hb; first | (simp; done) | (simp; omega)) (fun hb => ?_)
  refine WL.op rfl rfl rfl (Go.Proofs.Ythdkmjbeemfbbaa.W.quiet_assign rfl rfl) ?_
  refine WL.nil ?_
  refine TW.cond rfl (fun hb => by cases hb) (fun _ => ?_)
  refine TW.sreg ?_
  refine WL.op rfl rfl rfl (Go.Proofs.Ythdkmjbeemfbbaa.W.quiet_bin rfl rfl rfl (fun W => qb_eql_int W _ _ _ _)) ?_
  refine O.split (fun hb => by exfalso; revert hb; first | (simp; done) | (simp; omega)) (fun hb => ?_)
  refine WL.op rfl rfl rfl (Go.Proofs.Ythdkmjbeemfbbaa.W.quiet_assign rfl rfl) ?_
  refine WL.nil ?_
  refine TW.cond rfl (fun hb => by cases hb) (fun _ => ?_)
  refine TW.sreg ?_
  refine WL.op rfl rfl rfl (Go.Proofs.Ythdkmjbeemfbbaa.W.quiet_bin rfl rfl rfl (fun W => qb_eql_int W _ _ _ _)) ?_
  refine O.split (fun hb => by exfalso; revert hb; first | (simp; done) | (simp; omega)) (fun hb => ?_)
  refine WL.op rfl rfl rfl (Go.Proofs.Ythdkmjbeemfbbaa.W.quiet_assign rfl rfl) ?_
  refine WL.nil ?_
  refine TW.cond rfl (fun hb => by cases hb) (fun _ => ?_)
  refine TW.sreg ?_
  refine WL.op rfl rfl rfl (Go.Proofs.Ythdkmjbeemfbbaa.W.quiet_bin rfl rfl rfl (fun W => qb_eql_int W _ _ _ _)) ?_
  refine O.split (fun hb => by exfalso; revert hb; first | (simp; done) | (simp; omega)) (fun hb => ?_)
  refine WL.op rfl rfl rfl (Go.Proofs.Ythdkmjbeemfbbaa.W.quiet_assign rfl rfl) ?_
  refine WL.nil ?_
  refine TW.cond rfl (fun hb => by cases hb) (fun _ => ?_)
  refine TW.sreg ?_
  refine WL.op rfl rfl rfl (Go.Proofs.Ythdkmjbeemfbbaa.W.quiet_bin rfl rfl rfl (fun W => qb_eql_int W _ _ _ _)) ?_
  refine O.split (fun hb => ?_) (fun hb => by exfalso; revert hb; first | (simp; done) | (simp; omega))
  refine WL.op rfl rfl rfl (Go.Proofs.Ythdkmjbeemfbbaa.W.quiet_assign rfl rfl) ?_
  refine WL.nil ?_
  refine TW.cond rfl (fun _ => ?_) (fun hb => by cases hb)
  refine TW.regH (fun W => ∃ L x, RA c W L x) (by kernel_rfl) ?_
  have fd : Fr (fun _ => False) w w.drew := (Fr.refl _ _).drewN 1
  replace hx := hx.fr0 hc fd
  have HW : (fun W => ∃ L x, RA c W L x) w.drew := ⟨_, _, hx.r⟩
  generalize hV : w.drew = V1 at *
  clear hV
  refine WH.take 0 rfl (by kernel_rfl) (by kernel_rfl) (by kernel_rfl) (fun _ _ _ _ _ h => h) rfl rfl rfl HW (RH.move rfl rfl) ?_
  refine WH.take 1 rfl (by kernel_rfl) (by kernel_rfl) (by kernel_rfl) (fun _ _ _ _ _ h => h) rfl rfl rfl HW (RH.move rfl rfl) ?_
  refine WH.take 2 rfl (by kernel_rfl) (by kernel_rfl) (by kernel_rfl) (fun _ _ _ _ _ h => h) rfl rfl rfl HW (RH.nck rfl rfl) ?_
  refine WH.take 3 rfl (by kernel_rfl) (by kernel_rfl) (by kernel_rfl) (fun _ _ _ _ _ h => h) rfl rfl rfl HW (RH.field rfl rfl (fun W => qa_api_Ins_1 W _ _)) ?_
  refine WH.take 4 rfl (by kernel_rfl) (by kernel_rfl) (by kernel_rfl) (fun _ _ _ _ _ h => h) rfl rfl rfl HW (RH.load rfl rfl (fun W hW => ((ql_int _ _ _ ((RAx hW).cell hi.2.1 id)).trans (by rw [e1])))) ?_
  refine WH.take 5 rfl (by kernel_rfl) (by kernel_rfl) (by kernel_rfl) (fun _ _ _ _ _ h => h) rfl rfl rfl HW (RH.move rfl rfl) ?_
  refine WH.one 6 (by kernel_rfl) rfl ?_ 
  refine WL.call (hr := (t_read hc hi0 (by omega) _ hx)) rfl rfl rfl rfl rfl (fun W => qk_irrun_machine_read W _) ?_
  rintro e w2 ⟨rfl, hx2⟩
  refine ⟨_, rfl, ?_⟩
  have HW : ∃ L x, RA c w2 L x := ⟨_, _, hx2.r⟩
  clear hx
  refine WL.fin HW ?_
  refine WH.take 7 rfl (by kernel_rfl) (by kernel_rfl) (by kernel_rfl) (fun _ _ _ _ _ h => h) rfl rfl rfl HW (RH.index rfl rfl rfl (fun W => (qi_irrun_registers _ _ _ _ _ _ (by omega)))) ?_
  refine WH.one 8 (by kernel_rfl) rfl ?_ 
  refine O.storeR rfl rfl rfl rfl rfl ((RM.rc (x := { x with ins := x.ins + 1 }) hc hx2 hk eF hr1).2 _) ?_
  rintro w8 ⟨hx8, hf8⟩
  have HW : ∃ L x, RA c w8 L x := ⟨_, _, hx8.r⟩
  refine WL.fin HW ?_
  refine WH.end (by kernel_rfl) ?_
  refine Xw.nblk ?_
  refine O.end0 rfl ?_
  refine ⟨L, rfl, ?_⟩
  rw [rEx11 hd2 h0, rSet_eq (x := { x with ins := x.ins + 1 }) hd2 e1]
  exact hx8
set_option maxRecDepth 100000 in
theorem t_ex12 {c : RC} {L : RL} {x : RSt} {fu : Int} {s lv cb gi oi : Nat} (hc : c.ok) (hd2 : x.d = lv + 1) (hcb : L.ca = some ⟨cb, 0, none⟩) (i : Inn) (hi : InsAt c.w0 gi oi i) (hiM : InsM c.m (rPr c.m (x.cl lv).n) i) (hu : U32 i.u) (hwf : RWf c.m s x) (hs : s ≤ 100000) (h0 : i.x0 = 12) (w : World) (h : RM c w L x fu x.d) : Calls Try.prog 20 #[.pointer (some ⟨c.M, 0, none⟩), .pointer (some ⟨cb, 0 + lv * 6, none⟩), .pointer (some ⟨gi, oi, none⟩)] w fun e w' => ∃ L', e = .returned (.tuple #[]) ∧ RM c w' L' (rExec c.m c.inp x i) fu (rExec c.m c.inp x i).d := by
  have hk : lv < x.d := by omega
  have hx := h
  have ha := h.r.at_ hc hcb hk
  obtain ⟨ra, rk, eF⟩ := (h.r.top lv hk).1.form
  obtain ⟨p1, p2, pO, pG, pP, pZ, pD, pDn, pDc, pDv, pA, pAn, pB, pBn, pArg, pArn, pL, pF3, pF4, pF0, pU, pOff, pOffn, pSz, pSzn⟩ := id hiM
  have hw0 := hwf.cl lv hk
  refine calls_tw Try.func20 rfl rfl (Nat.le_of_ble_eq_true rfl) ?_
  refine TW.sreg ?_
  refine WL.op rfl rfl rfl (Go.Proofs.Ythdkmjbeemfbbaa.W.quiet_move rfl rfl) ?_
  refine O.nck rfl rfl rfl rfl rfl ?_
  refine WL.op rfl rfl rfl (Go.Proofs.Ythdkmjbeemfbbaa.W.quiet_field rfl rfl (fun W => (qa_irrun_call_0 W _ _))) ?_
  refine WL.ld rfl rfl rfl rfl rfl (ql_irrun_registers _ _ _ _ _ (ha.c0.trans (congrArg some eF))) ?_
  refine WL.op rfl rfl rfl (Go.Proofs.Ythdkmjbeemfbbaa.W.quiet_assign rfl rfl) ?_
  refine WL.nil ?_
  refine TW.sreg ?_
  refine WL.op rfl rfl rfl (Go.Proofs.Ythdkmjbeemfbbaa.W.quiet_move rfl rfl) ?_
  refine O.nck rfl rfl rfl rfl rfl ?_
  refine WL.op rfl rfl rfl (Go.Proofs.Ythdkmjbeemfbbaa.W.quiet_field rfl rfl (fun W => (qa_api_Ins_0 W _ _))) ?_
  refine WL.ld rfl rfl rfl rfl rfl ((ql_int _ _ _ (hx.r.f0.cell hi.1 id)).trans (by rw [h0])) ?_
  refine WL.nil ?_
  refine TW.block ?_
  refine TW.sreg ?_
  refine WL.op rfl rfl rfl (Go.Proofs.Ythdkmjbeemfbbaa.W.quiet_bin rfl rfl rfl (fun W => qb_eql_int W _ _ _ _)) ?_
  refine O.split (fun hb => by exfalso; revert hb; first | (simp; done) | (simp; omega)) (fun hb => ?_)
  refine WL.op rfl rfl rfl (Go.Proofs.Ythdkmjbeemfbbaa.W.quiet_assign rfl rfl) ?_
  refine WL.nil ?_
  refine TW.cond rfl (fun hb => by cases hb) (fun _ => ?_)
  refine TW.sreg ?_
  refine WL.op rfl rfl rfl (Go.Proofs.Ythdkmjbeemfbbaa.W.quiet_bin rfl rfl rfl (fun W => qb_eql_int W _ _ _ _)) ?_
  refine O.split (fun hb => by exfalso; revert hb; first | (simp; done) | (simp; omega)) (fun hb => ?_)
  refine WL.op rfl rfl rfl (Go.Proofs.Ythdkmjbeemfbbaa.W.quiet_assign rfl rfl) ?_
  refine WL.nil ?_
  refine TW.cond rfl (fun hb => by cases hb) (fun _ => ?_)
  refine TW.sreg ?_
  refine WL.op rfl rfl rfl (Go.Proofs.Ythdkmjbeemfbbaa.W.quiet_bin rfl rfl rfl (fun W => qb_eql_int W _ _ _ _)) ?_
  refine O.split (fun hb => by exfalso; revert hb; first | (simp; done) | (simp; omega)) (fun hb => ?_)
  refine WL.op rfl rfl rfl (Go.Proofs.Ythdkmjbeemfbbaa.W.quiet_assign rfl rfl) ?_
  refine WL.nil ?_
  refine TW.cond rfl (fun hb => by cases hb) (fun _ => ?_)
  refine TW.sreg ?_
  refine WL.op rfl rfl rfl (Go.Proofs.Ythdkmjbeemfbbaa.W.quiet_bin rfl rfl rfl (fun W => qb_eql_int W _ _ _ _)) ?_
  refine O.split (fun hb => by exfalso; revert hb; first | (simp; done) | (simp; omega)) (fun hb => ?_)
  refine WL.op rfl rfl rfl (Go.Proofs.Ythdkmjbeemfbbaa.W.quiet_assign rfl rfl) ?_
  refine WL.nil ?_
  refine TW.cond rfl (fun hb => by cases hb) (fun _ => ?_)
  refine TW.sreg ?_
  refine WL.op rfl rfl rfl (Go.Proofs.Ythdkmjbeemfbbaa.W.quiet_bin rfl rfl rfl (fun W => qb_eql_int W _ _ _ _)) ?_
  refine O.split (fun hb => by exfalso; revert hb; first | (simp; done) | (simp; omega)) (fun hb => ?_)
  refine WL.op rfl rfl rfl (Go.Proofs.Ythdkmjbeemfbbaa.W.quiet_assign rfl rfl) ?_
  refine WL.nil ?_
  refine TW.cond rfl (fun hb => by cases hb) (fun _ => ?_)
  refine TW.sreg ?_
  refine WL.op rfl rfl rfl (Go.Proofs.Ythdkmjbeemfbbaa.W.quiet_bin rfl rfl rfl (fun W => qb_eql_int W _ _ _ _)) ?_
  refine O.split (fun hb => by exfalso; revert hb; first | (simp; done) | (simp; omega)) (fun hb => ?_)
  refine WL.op rfl rfl rfl (Go.Proofs.Ythdkmjbeemfbbaa.W.quiet_assign rfl rfl) ?_
  refine WL.nil ?_
  refine TW.cond rfl (fun hb => by cases hb) (fun _ => ?_)
  refine TW.sreg ?_
  refine WL.op rfl rfl rfl (Go.Proofs.Ythdkmjbeemfbbaa.W.quiet_bin rfl rfl rfl (fun W => qb_eql_int W _ _ _ _)) ?_
  refine O.split (fun hb => by exfalso; revert hb; first | (simp; done) | (simp; omega)) (fun hb => ?_)
  refine WL.op rfl rfl rfl (Go.Proofs.Ythdkmjbeemfbbaa.W.quiet_assign rfl rfl) ?_
  refine WL.nil ?_
  refine TW.cond rfl (fun hb => by cases hb) (fun _ => ?_)
  refine TW.sreg ?_
  refine WL.op rfl rfl rfl (Go.Proofs.Ythdkmjbeemfbbaa.W.quiet_bin rfl rfl rfl (fun W => qb_eql_int W _ _ _ _)) ?_
  refine O.split (fun hb => by exfalso; revert hb; first | (simp; done) | (simp; omega)) (fun hb => ?_)
  refine WL.op rfl rfl rfl (Go.Proofs.Ythdkmjbeemfbbaa.W.quiet_assign rfl rfl) ?_
  refine WL.nil ?_
  refine TW.cond rfl (fun hb => by cases hb) (fun _ => ?_)
  refine TW.sreg ?_
  refine WL.op rfl rfl rfl (Go.Proofs.Ythdkmjbeemfbbaa.W.quiet_bin rfl rfl rfl (fun W => qb_eql_int W _ _ _ _)) ?_
  refine O.split (fun hb => by exfalso; revert hb; first | (simp; done) | (simp; omega)) (fun hb => ?_)
  refine WL.op rfl rfl rfl (Go.Proofs.Ythdkmjbeemfbbaa.W.quiet_assign rfl rfl) ?_
  refine WL.nil ?_
  refine TW.cond rfl (fun hb => by cases hb) (fun _ => ?_)
  refine TW.sreg ?_
  refine WL.op rfl rfl rfl (Go.Proofs.Ythdkmjbeemfbbaa.W.quiet_bin rfl rfl rfl (fun W => qb_eql_int W _ _ _ _)) ?_
  refine O.split (fun hb => by exfalso; revert hb; first | (simp; done) | (simp; omega)) (fun hb => ?_)
  refine WL.op rfl rfl rfl (Go.Proofs.Ythdkmjbeemfbbaa.W.quiet_assign rfl rfl) ?_
  refine WL.nil ?_
  refine TW.cond rfl (fun hb => by cases hb) (fun _ => ?_)
  refine TW.sreg ?_
  refine WL.op rfl rfl rfl (Go.Proofs.Ythdkmjbeemfbbaa.W.quiet_bin rfl rfl rfl (fun W => qb_eql_int W _ _ _ _)) ?_
  refine O.split (fun hb => by exfalso; revert hb; first | (simp; done) | (simp; omega)) (fun hb => ?_)
  refine WL.op rfl rfl rfl (Go.Proofs.Ythdkmjbeemfbbaa.W.quiet_assign rfl rfl) ?_
  refine WL.nil ?_
  refine TW.cond rfl (fun hb => by cases hb) (fun _ => ?_)
  refine TW.sreg ?_
  refine WL.op rfl rfl rfl (Go.Proofs.Ythdkmjbeemfbbaa.W.quiet_bin rfl rfl rfl (fun W => qb_eql_int W _ _ _ _)) ?_
  refine O.split (fun hb => ?_) (fun hb => by exfalso; revert hb; first | (simp; done) | (simp; omega))
  refine WL.op rfl rfl rfl (Go.Proofs.Ythdkmjbeemfbbaa.W.quiet_assign rfl rfl) ?_
  refine WL.nil ?_
  refine TW.cond rfl (fun _ => ?_) (fun hb => by cases hb)
  refine TW.skipx ?_
  refine Xw.nblk ?_
  refine O.end0 rfl ?_
  refine ⟨L, rfl, ?_⟩
  rw [rEx12 hd2 h0]
  exact hx
theorem t_exec {c : RC} {L : RL} {x : RSt} {fu : Int} {s lv cb gi oi : Nat} (hc : c.ok) (hd2 : x.d = lv + 1) (hcb : L.ca = some ⟨cb, 0, none⟩) (i : Inn) (hi : InsAt c.w0 gi oi i) (hiM : InsM c.m (rPr c.m (x.cl lv).n) i) (hu : U32 i.u) (hwf : RWf c.m s x) (hs : s ≤ 100000) (w : World) (h : RM c w L x fu x.d) : Calls Try.prog 20 #[.pointer (some ⟨c.M, 0, none⟩), .pointer (some ⟨cb, 0 + lv * 6, none⟩), .pointer (some ⟨gi, oi, none⟩)] w fun e w' => ∃ L', e = .returned (.tuple #[]) ∧ RM c w' L' (rExec c.m c.inp x i) fu (rExec c.m c.inp x i).d := by
  obtain ⟨p1, p2, _⟩ := id hiM
  have hz : i.x0 = 1 ∨ i.x0 = 2 ∨ i.x0 = 3 ∨ i.x0 = 4 ∨ i.x0 = 5 ∨ i.x0 = 6 ∨ i.x0 = 7 ∨ i.x0 = 8 ∨ i.x0 = 9 ∨ i.x0 = 10 ∨ i.x0 = 11 ∨ i.x0 = 12 := by omega
  rcases hz with h0 | h0 | h0 | h0 | h0 | h0 | h0 | h0 | h0 | h0 | h0 | h0
  · exact t_ex1 hc hd2 hcb i hi hiM hu hwf hs h0 w h
  · exact t_ex2 hc hd2 hcb i hi hiM hu hwf hs h0 w h
  · exact t_ex3 hc hd2 hcb i hi hiM hu hwf hs h0 w h
  · exact t_ex4 hc hd2 hcb i hi hiM hu hwf hs h0 w h
  · exact t_ex5 hc hd2 hcb i hi hiM hu hwf hs h0 w h
  · exact t_ex6 hc hd2 hcb i hi hiM hu hwf hs h0 w h
  · exact t_ex7 hc hd2 hcb i hi hiM hu hwf hs h0 w h
  · exact t_ex8 hc hd2 hcb i hi hiM hu hwf hs h0 w h
  · exact t_ex9 hc hd2 hcb i hi hiM hu hwf hs h0 w h
  · exact t_ex10 hc hd2 hcb i hi hiM hu hwf hs h0 w h
  · exact t_ex11 hc hd2 hcb i hi hiM hu hwf hs h0 w h
  · exact t_ex12 hc hd2 hcb i hi hiM hu hwf hs h0 w h
theorem ql_s_api_Ins (w : World) (p : Option Addr) (k l : Nat) (d : Addr) (h : w.cell? d = some (.slice p k l)) : (Instr.loadAt 42 (.pointer (some d))).run Try.prog w = .ok (.slice p k l) w := by simp [go_sem, h]
theorem qi_s_api_Ins (w : World) (b o n c j : Nat) (hj : j < n) : (Instr.indexAt 42 (.slice (some ⟨b, o, none⟩) n c) (.int .i64 (j : Int))).run Try.prog w = .ok (.pointer (some ⟨b, o + j * 11, none⟩)) w := by
  have h : (j : Int) < (n : Int) := by omega
  simp [go_sem, h, hj]
theorem ql_api_Errno (w : World) (m : Int) (d : Addr) (h : w.cell? d = some (.int .i64 m)) : (Instr.loadAt 32 (.pointer (some d))).run Try.prog w = .ok (.int .i64 m) w := by simp [go_sem, h]
theorem qb_eql_api_Errno (w : World) (x y : Operand) (m n : Int) : ((do eqGuard .eql 32 x y (.int .i64 m) (.int .i64 n); binOp .eql 32 (.int .i64 m) (.int .i64 n) : Sem Value)).run Try.prog w = .ok (.bool (m == n)) w := by simp [go_sem]
theorem qa_irrun_machine_3 (w : World) (b o : Nat) : (Instr.fieldAt 55 (.pointer (some ⟨b, o, none⟩)) 3).run Try.prog w = .ok (.pointer (some ⟨b, o + 9, none⟩)) w := by simp [go_sem]
theorem qa_api_Block_0 (w : World) (b o : Nat) : (Instr.fieldAt 44 (.pointer (some ⟨b, o, none⟩)) 0).run Try.prog w = .ok (.pointer (some ⟨b, o, none⟩)) w := by simp [go_sem]
theorem qn_s_api_Ins (w : World) (a : Option Addr) (k l : Nat) : (Builtin.len_ #[42] 3 #[.slice a k l]).run Try.prog w = .ok (.int .i64 k) w := by simp [go_sem]
theorem qk_irrun_machine_execute (w : World) (vs : Array Value) : (callFunc 20 vs).run Try.prog w = .ok (.enter 20 vs) w := by simp [go_sem]
theorem qk_irrun_machine_end (w : World) (vs : Array Value) : (callFunc 21 vs).run Try.prog w = .ok (.enter 21 vs) w := by simp [go_sem]
/-- The first call's result goes nowhere. -/
def R0 (x : RSt) : Prop := 0 < x.d → (x.cl 0).rd = -1
theorem rCl_rd {x : RSt} {cl : RCl} (h : cl.rd = (rTop x).rd) (k : Nat) : ((rCl x cl).cl k).rd = (x.cl k).rd := by
  unfold rCl rTop at *
  simp only [rupd]
  split
  · rename_i e; rw [h, e]
  · rfl
theorem rSet_rd {x : RSt} {r v : Int} (k : Nat) : ((rSet x r v).cl k).rd = (x.cl k).rd := by unfold rSet; exact rCl_rd (by rfl) k
theorem r0_exec {m : Mdl} {inp : List Int} {x : RSt} {i : Inn} (hd : 0 < x.d) (h : (x.cl 0).rd = -1) : ((rExec m inp x i).cl 0).rd = -1 := by
  unfold rExec
  split; · rw [rSet_rd]; exact h
  split; · rw [rSet_rd]; exact h
  split; · rw [rSet_rd]; exact h
  split; · rw [rSet_rd]; exact h
  split
  · unfold rMem
    split
    · exact h
    · split
      · rw [rSet_rd]; exact h
      · exact h
  split; · rw [rSet_rd]; exact h
  split; · rw [rSet_rd]; exact h
  split
  · unfold rEnter
    split
    · exact h
    · show (rupd x.cl x.d _ 0).rd = -1
      rw [rupd_ne _ _ (by omega)]; exact h
  split; · exact h
  split; · rw [rSet_rd]; exact h
  · exact h
theorem r0_step {m : Mdl} {inp : List Int} {x : RSt} (hd : 0 < x.d) (h : (x.cl 0).rd = -1) : ((rStep m inp x).cl 0).rd = -1 := by
  unfold rStep
  split
  · exact r0_exec (x := rNext x) hd (by unfold rNext; exact (rCl_rd (by rfl) 0).trans h)
  · unfold rEnd
    simp only
    split; · unfold rJump; exact (rCl_rd (by rfl) 0).trans h
    split
    · split <;> (unfold rJump; exact (rCl_rd (by rfl) 0).trans h)
    split
    · unfold rLeave
      split
      · exact h
      · split
        · exact h
        · rw [rSet_rd]; exact h
    · exact h
theorem R0.step {m : Mdl} {inp : List Int} {x : RSt} (hd : 0 < x.d) (h : R0 x) : R0 (rStep m inp x) := fun _ => r0_step hd (h hd)
theorem rNext_eq {x : RSt} {k : Nat} (h : x.d = k + 1) : { x with cl := rupd x.cl k { x.cl k with i := (x.cl k).i + 1 } } = rNext x := by
  unfold rNext rCl
  rw [rTop_k h, show x.d - 1 = k by omega]
theorem rNext_at {x : RSt} {k : Nat} (h : x.d = k + 1) : (rNext x).cl k = { x.cl k with i := (x.cl k).i + 1 } := by
  rw [← rNext_eq h]; exact rupd_same _ _ _
theorem rStep_in {m : Mdl} {inp : List Int} {x : RSt} {k : Nat} (h : x.d = k + 1) (hi : (x.cl k).i < (rBk m (x.cl k).n (x.cl k).b).ins.length) : rStep m inp x = rExec m inp (rNext x) (rIn m (x.cl k).n (x.cl k).b (x.cl k).i) := by
  unfold rStep
  rw [rTop_k h, if_pos hi]
theorem rStep_end {m : Mdl} {inp : List Int} {x : RSt} {k : Nat} (h : x.d = k + 1) (hi : ¬ (x.cl k).i < (rBk m (x.cl k).n (x.cl k).b).ins.length) : rStep m inp x = rEnd m x := by
  unfold rStep
  rw [rTop_k h, if_neg hi]
set_option maxRecDepth 100000 in
set_option maxHeartbeats 1000000 in
theorem t_run {c : RC} {L : RL} {x : RSt} {s f : Nat} (hc : c.ok) (hsf : s + f ≤ 10000) (hbl : ∀ n b, (rBk c.m n b).ins.length ≤ 1000) (hwf : RWf c.m s x) (h00 : R0 x) (w : World) (h : RM c w L x (f : Int) x.d) : Calls Try.prog 14 #[.pointer (some ⟨c.M, 0, none⟩)] w fun e w' => ∃ L' fu, e = .returned (.tuple #[]) ∧ RM c w' L' (rRun c.m c.inp f x) fu (rRun c.m c.inp f x).d := by
  refine calls_tw Try.func14 rfl rfl (Nat.le_of_ble_eq_true rfl) ?_
  refine TW.block ?_
  refine O.loopX (n := f) (fun j a W => ∃ (L : RL) (y : RSt), Kn Try.f14.ntmps [(0, .pointer (some ⟨c.M, 0, none⟩))] a ∧ RM c W L y ((f - j : Nat) : Int) y.d ∧ RWf c.m (s + j) y ∧ rRun c.m c.inp f x = rRun c.m c.inp (f - j) y ∧ R0 y) 0 (Nat.zero_le _) (fun a k => ⟨L, x, (by (repeat (refine Kn.cons k rfl ?_)); exact k.base), h, hwf, rfl, h00⟩) ?_
  rintro j a wl hj ⟨L, y, k1, hx, hwf, hq, h00⟩
  obtain ⟨hm0, hr⟩ := id hx
  have hm : Bx wl c.M #[L.ov, .int .i64 y.ins, .int .u32 y.ex, .int .i64 y.e, .slice c.ga c.m.gl.length c.gc, .slice c.da c.m.da.length c.dc, .slice c.pa c.m.pr.length c.pc, .int .i64 c.m.mn, .slice c.ia c.inp.length c.ic, .int .i64 ((f - j : Nat) : Int), .slice (some ⟨c.mb, 0, none⟩) 65536 65536, .slice c.la c.m.gl.length c.lc, .int .i64 (rFlo c.m), .slice c.fa c.m.pr.length c.fc, .slice L.ca y.d L.cc] 55 := hm0
  clear hm0 hx
  refine TW.app (s := [(0, .pointer (some ⟨c.M, 0, none⟩))]) ?_ k1
  refine TW.seq ?_
  refine TW.sreg ?_
  refine WL.op rfl rfl rfl (Go.Proofs.Ythdkmjbeemfbbaa.W.quiet_move rfl rfl) ?_
  refine O.nck rfl rfl rfl rfl rfl ?_
  refine WL.op rfl rfl rfl (Go.Proofs.Ythdkmjbeemfbbaa.W.quiet_field rfl rfl (fun W => (qa_irrun_machine_0 W _ _))) ?_
  refine WL.op rfl rfl rfl (Go.Proofs.Ythdkmjbeemfbbaa.W.quiet_field rfl rfl (fun W => (qa_api_Outcome_3 W _ _))) ?_
  refine WL.ld rfl rfl rfl rfl rfl (ql_api_Errno _ _ _ (hm.cell (j := 3) rfl)) ?_
  refine WL.op rfl rfl rfl (Go.Proofs.Ythdkmjbeemfbbaa.W.quiet_bin rfl rfl rfl (fun W => qb_eql_api_Errno W _ _ _ _)) ?_
  refine O.split (fun hb => ?_) (fun hb => ?_)
  · skip
    have he0 : y.e = 0 := eq_of_beq hb
    clear hb
    refine WL.op rfl rfl rfl (Go.Proofs.Ythdkmjbeemfbbaa.W.quiet_move rfl rfl) ?_
    refine WL.op rfl rfl rfl (Go.Proofs.Ythdkmjbeemfbbaa.W.quiet_move rfl rfl) ?_
    refine O.nck rfl rfl rfl rfl rfl ?_
    refine WL.op rfl rfl rfl (Go.Proofs.Ythdkmjbeemfbbaa.W.quiet_field rfl rfl (fun W => (qa_irrun_machine_8 W _ _))) ?_
    refine WL.ld rfl rfl rfl rfl rfl (ql_s_irrun_call _ _ _ _ _ (hm.cell (j := 14) rfl)) ?_
    refine O.len rfl rfl rfl rfl rfl (qn_s_irrun_call _ _ _ _) ?_
    refine WL.op rfl rfl rfl (Go.Proofs.Ythdkmjbeemfbbaa.W.quiet_bin rfl rfl rfl (fun W => qb_gtr_int W _ _ _ _)) ?_
    refine O.split (fun hb => ?_) (fun hb => ?_)
    · skip
      have hyp : 0 < y.d := by have := of_decide_eq_true hb; omega
      clear hb
      have hon : rOn y := ⟨he0, hyp⟩
      refine WL.op rfl rfl rfl (Go.Proofs.Ythdkmjbeemfbbaa.W.quiet_pick rfl rfl rfl) ?_
      refine WL.nil ?_
      refine TW.cond rfl (fun _ => ?_) (fun hb => by cases hb)
      refine TW.skip ?_
      refine TW.block ?_
      refine TW.seq ?_
      refine TW.sreg ?_
      refine WL.op rfl rfl rfl (Go.Proofs.Ythdkmjbeemfbbaa.W.quiet_move rfl rfl) ?_
      refine O.nck rfl rfl rfl rfl rfl ?_
      refine WL.op rfl rfl rfl (Go.Proofs.Ythdkmjbeemfbbaa.W.quiet_field rfl rfl (fun W => (qa_irrun_machine_3 W _ _))) ?_
      refine WL.ld rfl rfl rfl rfl rfl (ql_int _ _ _ (hm.cell (j := 9) rfl)) ?_
      refine WL.op rfl rfl rfl (Go.Proofs.Ythdkmjbeemfbbaa.W.quiet_bin rfl rfl rfl (fun W => qb_eql_int W _ _ _ _)) ?_
      refine O.split (fun hb => ?_) (fun hb => ?_)
      · skip
        refine WL.nil ?_
        refine TW.cond rfl (fun _ => ?_) (fun hb => by cases hb)
        refine TW.sreg ?_
        refine WL.op rfl rfl rfl (Go.Proofs.Ythdkmjbeemfbbaa.W.quiet_move rfl rfl) ?_
        refine O.nck rfl rfl rfl rfl rfl ?_
        refine WL.op rfl rfl rfl (Go.Proofs.Ythdkmjbeemfbbaa.W.quiet_field rfl rfl (fun W => (qa_irrun_machine_0 W _ _))) ?_
        refine WL.op rfl rfl rfl (Go.Proofs.Ythdkmjbeemfbbaa.W.quiet_field rfl rfl (fun W => (qa_api_Outcome_3 W _ _))) ?_
        refine O.storeR rfl rfl rfl rfl rfl (qsF_api_Errno wl _ 3 _ _ _ _ hm rfl) ?_
        rintro wa1 ⟨fa1, hmx⟩
        replace hr := hr.frM hc hm fa1
        clear hm
        have hm := hmx
        clear hmx
        refine WL.nil ?_
        refine TW.rt ?_
        refine Xw.thn (by simp) ?_
        refine Xw.rblk ?_
        refine Xw.thn (by simp) ?_
        refine Xw.rblk ?_
        refine O.retn rfl ?_
        have hf0 : f - j = 0 := by have := eq_of_beq hb; omega
        refine ⟨L, ((f - j : Nat) : Int), rfl, ?_⟩
        have hq2 := hq
        rw [hf0] at hq2
        simp only [rRun, if_pos hon] at hq2
        rw [hq2]
        exact ⟨hm, hr.as _ rfl rfl rfl rfl⟩
      · skip
        have hf0 : 0 < f - j := by
          have h9 : ¬ ((f - j : Nat) : Int) = 0 := fun e => by rw [e] at hb; cases hb
          omega
        clear hb
        refine WL.nil ?_
        refine TW.cond rfl (fun hb => by cases hb) (fun _ => ?_)
        refine TW.skip ?_
        refine TW.sreg ?_
        refine WL.op rfl rfl rfl (Go.Proofs.Ythdkmjbeemfbbaa.W.quiet_move rfl rfl) ?_
        refine O.nck rfl rfl rfl rfl rfl ?_
        refine WL.op rfl rfl rfl (Go.Proofs.Ythdkmjbeemfbbaa.W.quiet_field rfl rfl (fun W => (qa_irrun_machine_3 W _ _))) ?_
        refine WL.ld rfl rfl rfl rfl rfl (ql_int _ _ _ (hm.cell (j := 9) rfl)) ?_
        refine WL.op rfl rfl rfl (Go.Proofs.Ythdkmjbeemfbbaa.W.quiet_bin rfl rfl rfl (fun W => (qb_sub_int W _ _ _ _ (by omega) (by omega)).trans (by rw [show ((f - j : Nat) : Int) - 1 = ((f - (j + 1) : Nat) : Int) by omega]))) ?_
        obtain ⟨k, hyd⟩ : ∃ k, y.d = k + 1 := ⟨y.d - 1, by omega⟩
        have hy5 := hwf.d
        obtain ⟨cb, hcb, _⟩ := hr.cb (by have := hr.dc; omega)
        refine O.nck rfl rfl rfl rfl rfl ?_
        refine WL.op rfl rfl rfl (Go.Proofs.Ythdkmjbeemfbbaa.W.quiet_field rfl rfl (fun W => (qa_irrun_machine_3 W _ _))) ?_
        refine O.storeR rfl rfl rfl rfl rfl (qsF_int wl _ 9 _ _ _ _ hm rfl) ?_
        rintro wa2 ⟨fa2, hmx⟩
        replace hr := hr.frM hc hm fa2
        clear hm
        have hm := hmx
        clear hmx
        refine WL.nil ?_
        refine TW.sreg ?_
        refine WL.op rfl rfl rfl (Go.Proofs.Ythdkmjbeemfbbaa.W.quiet_move rfl rfl) ?_
        refine WL.call (hr := (t_cur (k := k) (by omega) cb hcb hc _ (show RM c _ L y ((f - (j + 1) : Nat) : Int) (k + 1) from hyd ▸ ⟨hm, hr⟩))) rfl rfl rfl rfl rfl (fun W => qk_irrun_machine_current W _) ?_
        rintro e w7 ⟨rfl, f7⟩
        refine ⟨_, rfl, ?_⟩
        replace hm := hm.fr f7 id
        replace hr := hr.fr0 hc f7
        have hk : k < y.d := by omega
        have ha := hr.at_ hc hcb hk
        obtain ⟨gb, ob, e2, hbk⟩ := hr.ptr hk
        obtain ⟨⟨ia, ic2, hbi, hil⟩, _⟩ := id hbk
        have hw0 := hwf.cl k hk
        have hbl2 := hbl (y.cl k).n (y.cl k).b
        refine WL.op rfl rfl rfl (Go.Proofs.Ythdkmjbeemfbbaa.W.quiet_assign rfl rfl) ?_
        refine WL.nil ?_
        refine Q.sreg (C := fun W => Fr (fun _ => False) w7 W) (by kernel_rfl) (by kernel_rfl) (fun W h => h.drewN 1) (Fr.refl _ _) ?_
        refine W.op rfl rfl rfl (Go.Proofs.Ythdkmjbeemfbbaa.W.quiet_move rfl rfl) ?_
        refine W.op rfl rfl rfl (Q.nck rfl rfl) ?_
        refine W.op rfl rfl rfl (Go.Proofs.Ythdkmjbeemfbbaa.W.quiet_field rfl rfl (fun W => (qa_irrun_call_3 W _ _))) ?_
        refine W.op rfl rfl rfl (Go.Proofs.Ythdkmjbeemfbbaa.W.quiet_load rfl rfl (fun W hW => (ql_int _ _ _ (hW.cell ha.c3 id)))) ?_
        refine W.op rfl rfl rfl (Go.Proofs.Ythdkmjbeemfbbaa.W.quiet_move rfl rfl) ?_
        refine W.op rfl rfl rfl (Q.nck rfl rfl) ?_
        refine W.op rfl rfl rfl (Go.Proofs.Ythdkmjbeemfbbaa.W.quiet_field rfl rfl (fun W => (qa_irrun_call_2 W _ _))) ?_
        refine W.op rfl rfl rfl (Go.Proofs.Ythdkmjbeemfbbaa.W.quiet_load rfl rfl (fun W hW => (ql_p_api_Block _ _ _ (hW.cell (ha.c2.trans (congrArg some e2)) id)))) ?_
        refine W.op rfl rfl rfl (Q.nck rfl rfl) ?_
        refine W.op rfl rfl rfl (Go.Proofs.Ythdkmjbeemfbbaa.W.quiet_field rfl rfl (fun W => (qa_api_Block_0 W _ _))) ?_
        refine W.op rfl rfl rfl (Go.Proofs.Ythdkmjbeemfbbaa.W.quiet_load rfl rfl (fun W hW => (ql_s_api_Ins _ _ _ _ _ (hW.cell (hr.f0.cell hbi id) id)))) ?_
        refine W.op rfl rfl rfl (Q.len rfl rfl (fun W => (qn_s_api_Ins _ _ _ _))) ?_
        refine W.op rfl rfl rfl (Go.Proofs.Ythdkmjbeemfbbaa.W.quiet_bin rfl rfl rfl (fun W => qb_lss_int W _ _ _ _)) ?_
        refine Q.split (fun hb => ?_) (fun hb => ?_)
        · skip
          have hlt : (y.cl k).i < (rBk c.m (y.cl k).n (y.cl k).b).ins.length := by have := of_decide_eq_true hb; omega
          clear hb
          have hwi := hwf.cl k (by omega)
          refine Q.nil (T.tw fun wq1 fq1 => ?_)
          replace hm := hm.fr fq1 id
          replace hr := hr.fr0 hc fq1
          refine TW.cond rfl (fun _ => ?_) (fun hb => by cases hb)
          refine TW.sreg ?_
          refine WL.op rfl rfl rfl (Go.Proofs.Ythdkmjbeemfbbaa.W.quiet_move rfl rfl) ?_
          refine O.nck rfl rfl rfl rfl rfl ?_
          refine WL.op rfl rfl rfl (Go.Proofs.Ythdkmjbeemfbbaa.W.quiet_field rfl rfl (fun W => (qa_irrun_call_3 W _ _))) ?_
          refine WL.ld rfl rfl rfl rfl rfl (ql_int _ _ _ (hr.at_ hc hcb hk).c3) ?_
          refine WL.op rfl rfl rfl (Go.Proofs.Ythdkmjbeemfbbaa.W.quiet_bin rfl rfl rfl (fun W => qb_add_int W _ _ _ _ (by omega) (by omega))) ?_
          refine O.nck rfl rfl rfl rfl rfl ?_
          refine WL.op rfl rfl rfl (Go.Proofs.Ythdkmjbeemfbbaa.W.quiet_field rfl rfl (fun W => (qa_irrun_call_3 W _ _))) ?_
          refine O.storeR rfl rfl rfl rfl rfl (RM.putI hc (⟨hm, hr⟩ : RM c _ L y ((f - (j + 1) : Nat) : Int) y.d) hcb hk ((y.cl k).i + 1) _ (by omega)) ?_
          rintro w5 ⟨hx2, hf2⟩
          rw [rNext_eq hyd] at hx2
          clear hm hr ha
          have hd3 : (rNext y).d = k + 1 := hyd
          have hk3 : k < (rNext y).d := by omega
          have hna := rNext_at hyd
          generalize hL2 : ({ L with F := fup L.F k 3 (.int .i64 (((y.cl k).i + 1 : Nat) : Int)) } : RL) = L2 at hx2
          have hcb2 : L2.ca = some ⟨cb, 0, none⟩ := by rw [← hL2]; exact hcb
          have e22 : L2.F k 2 = .pointer (some ⟨gb, ob, none⟩) := by rw [← hL2]; exact (if_neg (by omega) : fup L.F k 3 _ k 2 = L.F k 2).trans e2
          obtain ⟨gi, oi, hia, hins⟩ := hil (y.cl k).i hlt
          subst hia
          refine WL.nil ?_
          refine TW.regH (fun W => ∃ L x, RA c W L x) (by kernel_rfl) ?_
          have fd : Fr (fun _ => False) w5 w5.drew := (Fr.refl _ _).drewN 1
          replace hx2 := hx2.fr0 hc fd
          have HW : (fun W => ∃ L x, RA c W L x) w5.drew := ⟨_, _, hx2.r⟩
          generalize hV : w5.drew = V1 at *
          clear hV
          refine WH.take 0 rfl (by kernel_rfl) (by kernel_rfl) (by kernel_rfl) (fun _ _ _ _ _ h => h) rfl rfl rfl HW (RH.move rfl rfl) ?_
          refine WH.take 1 rfl (by kernel_rfl) (by kernel_rfl) (by kernel_rfl) (fun _ _ _ _ _ h => h) rfl rfl rfl HW (RH.move rfl rfl) ?_
          refine WH.take 2 rfl (by kernel_rfl) (by kernel_rfl) (by kernel_rfl) (fun _ _ _ _ _ h => h) rfl rfl rfl HW (RH.move rfl rfl) ?_
          refine WH.take 3 rfl (by kernel_rfl) (by kernel_rfl) (by kernel_rfl) (fun _ _ _ _ _ h => h) rfl rfl rfl HW (RH.nck rfl rfl) ?_
          refine WH.take 4 rfl (by kernel_rfl) (by kernel_rfl) (by kernel_rfl) (fun _ _ _ _ _ h => h) rfl rfl rfl HW (RH.field rfl rfl (fun W => qa_irrun_call_2 W _ _)) ?_
          refine WH.take 9 rfl (by kernel_rfl) (by kernel_rfl) (by kernel_rfl) (fun _ _ _ _ _ h => h) rfl rfl rfl HW (RH.move rfl rfl) ?_
          refine WH.take 10 rfl (by kernel_rfl) (by kernel_rfl) (by kernel_rfl) (fun _ _ _ _ _ h => h) rfl rfl rfl HW (RH.nck rfl rfl) ?_
          refine WH.take 11 rfl (by kernel_rfl) (by kernel_rfl) (by kernel_rfl) (fun _ _ _ _ _ h => h) rfl rfl rfl HW (RH.field rfl rfl (fun W => qa_irrun_call_3 W _ _)) ?_
          refine WH.two 5 12 (by kernel_rfl) rfl rfl ?_ ?_ 
          · skip
            refine WL.ld rfl rfl rfl rfl rfl (ql_p_api_Block _ _ _ ((hx2.r.at_ hc hcb2 hk3).c2.trans (congrArg some e22))) ?_
            refine WL.fin HW ?_
            refine WH.take 6 rfl (by kernel_rfl) (by kernel_rfl) (by kernel_rfl) (fun _ _ _ _ _ h => h) rfl rfl rfl HW (RH.nck rfl rfl) ?_
            refine WH.take 7 rfl (by kernel_rfl) (by kernel_rfl) (by kernel_rfl) (fun _ _ _ _ _ h => h) rfl rfl rfl HW (RH.field rfl rfl (fun W => qa_api_Block_0 W _ _)) ?_
            refine WH.take 8 rfl (by kernel_rfl) (by kernel_rfl) (by kernel_rfl) (fun _ _ _ _ _ h => h) rfl rfl rfl HW (RH.load rfl rfl (fun W hW => (ql_s_api_Ins _ _ _ _ _ ((RAx hW).cell hbi id)))) ?_
            refine WH.one 12 (by kernel_rfl) rfl ?_ 
            refine WL.ld rfl rfl rfl rfl rfl ((ql_int _ _ _ (hx2.r.at_ hc hcb2 hk3).c3).trans (by rw [hna])) ?_
            refine WL.fin HW ?_
            refine WH.take 13 rfl (by kernel_rfl) (by kernel_rfl) (by kernel_rfl) (fun _ _ _ _ _ h => h) rfl rfl rfl HW (RH.bin rfl rfl rfl (fun W => pred_i W _ _ _ (by omega))) ?_
            refine WH.take 14 rfl (by kernel_rfl) (by kernel_rfl) (by kernel_rfl) (fun _ _ _ _ _ h => h) rfl rfl rfl HW (RH.index rfl rfl rfl (fun W => (qi_s_api_Ins _ _ _ _ _ _ (by omega)))) ?_
            refine WH.one 15 (by kernel_rfl) rfl ?_ 
            refine WL.call (hr := (t_exec hc hd3 hcb2 (rIn c.m (y.cl k).n (y.cl k).b (y.cl k).i) hins (by rw [hna]; exact rIn_of hc.mp hw0.n hw0.b hlt) (hc.mu _ _ _) (hwf.next (by omega) (by rw [rTop_k hyd]; exact hlt)) (by omega) _ hx2)) rfl rfl rfl rfl rfl (fun W => qk_irrun_machine_execute W _) ?_
            rintro e w9 ⟨L3, rfl, hx3⟩
            refine ⟨_, rfl, ?_⟩
            have HW : ∃ L x, RA c w9 L x := ⟨_, _, hx3.r⟩
            refine WL.fin HW ?_
            have hst := rStep_in (m := c.m) (inp := c.inp) hyd hlt
            rw [← hst] at hx3
            refine WH.end (by kernel_rfl) ?_
            refine Xw.nblk ?_
            refine Xw.any (fun a k => ?_)
            have hfj : f - j = (f - (j + 1)) + 1 := by omega
            have hq2 : rRun c.m c.inp (f - j) y = rRun c.m c.inp (f - (j + 1)) (rStep c.m c.inp y) := by rw [hfj]; simp only [rRun, if_pos hon]
            exact ⟨j + 1, by omega, by omega, L3, rStep c.m c.inp y, (by (repeat (refine Kn.cons k rfl ?_)); exact k.base), hx3, by rw [← Nat.add_assoc]; exact hwf.step hc.mp hc.mu hc.inu hon.2, hq.trans hq2, h00.step hon.2⟩
          · skip
            refine WL.ld rfl rfl rfl rfl rfl ((ql_int _ _ _ (hx2.r.at_ hc hcb2 hk3).c3).trans (by rw [hna])) ?_
            refine WL.fin HW ?_
            refine WH.take 13 rfl (by kernel_rfl) (by kernel_rfl) (by kernel_rfl) (fun _ _ _ _ _ h => h) rfl rfl rfl HW (RH.bin rfl rfl rfl (fun W => pred_i W _ _ _ (by omega))) ?_
            refine WH.one 5 (by kernel_rfl) rfl ?_ 
            refine WL.ld rfl rfl rfl rfl rfl (ql_p_api_Block _ _ _ ((hx2.r.at_ hc hcb2 hk3).c2.trans (congrArg some e22))) ?_
            refine WL.fin HW ?_
            refine WH.take 6 rfl (by kernel_rfl) (by kernel_rfl) (by kernel_rfl) (fun _ _ _ _ _ h => h) rfl rfl rfl HW (RH.nck rfl rfl) ?_
            refine WH.take 7 rfl (by kernel_rfl) (by kernel_rfl) (by kernel_rfl) (fun _ _ _ _ _ h => h) rfl rfl rfl HW (RH.field rfl rfl (fun W => qa_api_Block_0 W _ _)) ?_
            refine WH.take 8 rfl (by kernel_rfl) (by kernel_rfl) (by kernel_rfl) (fun _ _ _ _ _ h => h) rfl rfl rfl HW (RH.load rfl rfl (fun W hW => (ql_s_api_Ins _ _ _ _ _ ((RAx hW).cell hbi id)))) ?_
            refine WH.take 14 rfl (by kernel_rfl) (by kernel_rfl) (by kernel_rfl) (fun _ _ _ _ _ h => h) rfl rfl rfl HW (RH.index rfl rfl rfl (fun W => (qi_s_api_Ins _ _ _ _ _ _ (by omega)))) ?_
            refine WH.one 15 (by kernel_rfl) rfl ?_ 
            refine WL.call (hr := (t_exec hc hd3 hcb2 (rIn c.m (y.cl k).n (y.cl k).b (y.cl k).i) hins (by rw [hna]; exact rIn_of hc.mp hw0.n hw0.b hlt) (hc.mu _ _ _) (hwf.next (by omega) (by rw [rTop_k hyd]; exact hlt)) (by omega) _ hx2)) rfl rfl rfl rfl rfl (fun W => qk_irrun_machine_execute W _) ?_
            rintro e w9 ⟨L3, rfl, hx3⟩
            refine ⟨_, rfl, ?_⟩
            have HW : ∃ L x, RA c w9 L x := ⟨_, _, hx3.r⟩
            refine WL.fin HW ?_
            have hst := rStep_in (m := c.m) (inp := c.inp) hyd hlt
            rw [← hst] at hx3
            refine WH.end (by kernel_rfl) ?_
            refine Xw.nblk ?_
            refine Xw.any (fun a k => ?_)
            have hfj : f - j = (f - (j + 1)) + 1 := by omega
            have hq2 : rRun c.m c.inp (f - j) y = rRun c.m c.inp (f - (j + 1)) (rStep c.m c.inp y) := by rw [hfj]; simp only [rRun, if_pos hon]
            exact ⟨j + 1, by omega, by omega, L3, rStep c.m c.inp y, (by (repeat (refine Kn.cons k rfl ?_)); exact k.base), hx3, by rw [← Nat.add_assoc]; exact hwf.step hc.mp hc.mu hc.inu hon.2, hq.trans hq2, h00.step hon.2⟩
        · skip
          have hlt : ¬ (y.cl k).i < (rBk c.m (y.cl k).n (y.cl k).b).ins.length := by have := of_decide_eq_false hb; omega
          clear hb
          refine Q.nil (T.tw fun wq2 fq2 => ?_)
          replace hm := hm.fr fq2 id
          replace hr := hr.fr0 hc fq2
          refine TW.cond rfl (fun hb => by cases hb) (fun _ => ?_)
          refine TW.reg ?_
          refine WL.op rfl rfl rfl (Go.Proofs.Ythdkmjbeemfbbaa.W.quiet_move rfl rfl) ?_
          refine WL.op rfl rfl rfl (Go.Proofs.Ythdkmjbeemfbbaa.W.quiet_move rfl rfl) ?_
          refine WL.call (hr := (t_end hc (by omega) hyd hcb hwf (fun e => by subst e; exact h00 (by omega)) _ (show RM c _ L y ((f - (j + 1) : Nat) : Int) (k + 1) from hyd ▸ ⟨hm, hr⟩))) rfl rfl rfl rfl rfl (fun W => qk_irrun_machine_end W _) ?_
          rintro e w9 ⟨L3, rfl, hca3, hx3⟩
          refine ⟨_, rfl, ?_⟩
          have hst := rStep_end (m := c.m) (inp := c.inp) hyd hlt
          rw [← hst] at hx3
          refine WL.end ?_
          refine Xw.nblk ?_
          refine Xw.any (fun a k => ?_)
          have hfj : f - j = (f - (j + 1)) + 1 := by omega
          have hq2 : rRun c.m c.inp (f - j) y = rRun c.m c.inp (f - (j + 1)) (rStep c.m c.inp y) := by rw [hfj]; simp only [rRun, if_pos hon]
          exact ⟨j + 1, by omega, by omega, L3, rStep c.m c.inp y, (by (repeat (refine Kn.cons k rfl ?_)); exact k.base), hx3, by rw [← Nat.add_assoc]; exact hwf.step hc.mp hc.mu hc.inu hon.2, hq.trans hq2, h00.step hon.2⟩
    · skip
      refine WL.op rfl rfl rfl (Go.Proofs.Ythdkmjbeemfbbaa.W.quiet_pick rfl rfl rfl) ?_
      refine WL.nil ?_
      refine TW.cond rfl (fun hb => by cases hb) (fun _ => ?_)
      refine TW.exit ?_
      refine Xw.thn (by simp) ?_
      refine Xw.thn (by simp) ?_
      refine Xw.hit ?_
      refine O.end0 rfl ?_
      refine ⟨L, ((f - j : Nat) : Int), rfl, ?_⟩
      rw [hq, rRun_off (fun q => absurd q.2 (by have := of_decide_eq_false hb; omega))]
      exact ⟨hm, hr⟩
  · skip
    refine WL.op rfl rfl rfl (Go.Proofs.Ythdkmjbeemfbbaa.W.quiet_move rfl rfl) ?_
    refine WL.skip rfl rfl rfl ?_
    refine WL.skip rfl rfl rfl ?_
    refine WL.skip rfl rfl rfl ?_
    refine WL.skip rfl rfl rfl ?_
    refine WL.skip rfl rfl rfl ?_
    refine WL.skip rfl rfl rfl ?_
    refine WL.op rfl rfl rfl (Go.Proofs.Ythdkmjbeemfbbaa.W.quiet_pick rfl rfl rfl) ?_
    refine WL.nil ?_
    refine TW.cond rfl (fun hb => by cases hb) (fun _ => ?_)
    refine TW.exit ?_
    refine Xw.thn (by simp) ?_
    refine Xw.thn (by simp) ?_
    refine Xw.hit ?_
    refine O.end0 rfl ?_
    refine ⟨L, ((f - j : Nat) : Int), rfl, ?_⟩
    rw [hq, rRun_off (fun q => by rw [q.1] at hb; cases hb)]
    exact ⟨hm, hr⟩
end Go.Proofs.Ythdkmjbeemfbbaa
