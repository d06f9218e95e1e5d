/-
  Runs (layer 14): the end of a block. Runs (layer 14): a whole call is written; arguments are copied.
-/
import Derived.Test.YthdkmjbeemfbbaaQRnI
namespace Go.Proofs.Ythdkmjbeemfbbaa
open Go.RowKit
set_option linter.unusedVariables false
set_option linter.unusedSimpArgs false
theorem qa_api_Block_1 (w : World) (b o : Nat) : (Instr.fieldAt 44 (.pointer (some ⟨b, o, none⟩)) 1).run Try.prog w = .ok (.pointer (some ⟨b, o + 1, none⟩)) w := by simp [go_sem]
theorem qa_api_Block_3 (w : World) (b o : Nat) : (Instr.fieldAt 44 (.pointer (some ⟨b, o, none⟩)) 3).run Try.prog w = .ok (.pointer (some ⟨b, o + 3, none⟩)) w := by simp [go_sem]
theorem qk_irrun_machine_jump (w : World) (vs : Array Value) : (callFunc 37 vs).run Try.prog w = .ok (.enter 37 vs) w := by simp [go_sem]
theorem qb_neq_uint32 (w : World) (x y : Operand) (m n : Int) : ((do eqGuard .neq 31 x y (.int .u32 m) (.int .u32 n); binOp .neq 31 (.int .u32 m) (.int .u32 n) : Sem Value)).run Try.prog w = .ok (.bool (m != n)) w := by simp [go_sem]
theorem qa_api_Block_4 (w : World) (b o : Nat) : (Instr.fieldAt 44 (.pointer (some ⟨b, o, none⟩)) 4).run Try.prog w = .ok (.pointer (some ⟨b, o + 4, none⟩)) w := by simp [go_sem]
theorem qk_irrun_machine_leave (w : World) (vs : Array Value) : (callFunc 38 vs).run Try.prog w = .ok (.enter 38 vs) w := by simp [go_sem]
theorem rTop_k {x : RSt} {k : Nat} (h : x.d = k + 1) : rTop x = x.cl k := by unfold rTop; rw [show x.d - 1 = k by omega]
theorem rEnd1 {m : Mdl} {x : RSt} {k t : Nat} (h : x.d = k + 1) (e : (rBk m (x.cl k).n (x.cl k).b).en = 1) (ht : (rBk m (x.cl k).n (x.cl k).b).t = (t : Int)) : rEnd m x = { x with cl := rupd x.cl k { x.cl k with b := t, i := 0 } } := by
  unfold rEnd
  simp only [rTop_k h, e, ht, rJump, rCl, if_pos, Int.toNat_natCast]
  rw [show x.d - 1 = k by omega]
theorem rEnd2 {m : Mdl} {x : RSt} {k t r : Nat} (h : x.d = k + 1) (e : (rBk m (x.cl k).n (x.cl k).b).en = 2) (hr : (rBk m (x.cl k).n (x.cl k).b).a = (r : Int)) (hz : ¬ (x.cl k).rg r = 0) (ht : (rBk m (x.cl k).n (x.cl k).b).t = (t : Int)) : rEnd m x = { x with cl := rupd x.cl k { x.cl k with b := t, i := 0 } } := by
  unfold rEnd
  simp only [rTop_k h, e, ht, hr, hz, rJump, rCl, if_pos, if_neg, Int.toNat_natCast, not_false_eq_true]
  rw [show x.d - 1 = k by omega]
  simp
theorem rEnd2e {m : Mdl} {x : RSt} {k t r : Nat} (h : x.d = k + 1) (e : (rBk m (x.cl k).n (x.cl k).b).en = 2) (hr : (rBk m (x.cl k).n (x.cl k).b).a = (r : Int)) (hz : (x.cl k).rg r = 0) (ht : (rBk m (x.cl k).n (x.cl k).b).el = (t : Int)) : rEnd m x = { x with cl := rupd x.cl k { x.cl k with b := t, i := 0 } } := by
  unfold rEnd
  simp only [rTop_k h, e, ht, hr, hz, rJump, rCl, if_pos, if_neg, Int.toNat_natCast, not_false_eq_true]
  rw [show x.d - 1 = k by omega]
  simp
theorem rEnd3 {m : Mdl} {x : RSt} {k : Nat} (h : x.d = k + 1) (e : (rBk m (x.cl k).n (x.cl k).b).en = 3) : rEnd m x = rLeave m x := by
  unfold rEnd
  simp only [rTop_k h, e]
  simp
theorem rLeave_d (m : Mdl) (x : RSt) : (rLeave m x).d = x.d - 1 := by
  unfold rLeave
  split
  · rfl
  · split <;> rfl
set_option maxRecDepth 100000 in
theorem t_end {c : RC} {L : RL} {x : RSt} {fu : Int} {s k cb : Nat} (hc : c.ok) (hk6 : k < 1000000) (hd : x.d = k + 1) (hcb : L.ca = some ⟨cb, 0, none⟩) (hwf : RWf c.m s x) (hrd0 : k = 0 → (x.cl k).rd = -1) (w : World) (h : RM c w L x fu (k + 1)) : Calls Try.prog 21 #[.pointer (some ⟨c.M, 0, none⟩), .pointer (some ⟨cb, 0 + k * 6, none⟩)] w fun e w' => ∃ L', e = .returned (.tuple #[]) ∧ L'.ca = L.ca ∧ RM c w' L' (rEnd c.m x) fu (rEnd c.m x).d := by
  obtain ⟨hm0, hr⟩ := id h
  have hm : Bx w c.M #[L.ov, .int .i64 x.ins, .int .u32 x.ex, .int .i64 x.e, .slice c.ga c.m.gl.length c.gc, .slice c.da c.m.da.length c.dc, .slice c.pa c.m.pr.length c.pc, .int .i64 c.m.mn, .slice c.ia c.inp.length c.ic, .int .i64 fu, .slice (some ⟨c.mb, 0, none⟩) 65536 65536, .slice c.la c.m.gl.length c.lc, .int .i64 (rFlo c.m), .slice c.fa c.m.pr.length c.fc, (.slice L.ca (k + 1) L.cc)] 55 := hm0
  clear hm0
  have ha := hr.at_ hc hcb (show k < x.d by omega)
  obtain ⟨gb, ob, e2, hbk⟩ := hr.ptr (show k < x.d by omega)
  have hw0 := hwf.cl k (by omega)
  have hE := (rBk_of hc.mp hw0.n hw0.b).1
  unfold EndP at hE
  refine calls_tw Try.func21 rfl rfl (Nat.le_of_ble_eq_true rfl) ?_
  rcases hE with ⟨en, eA, eT, eE⟩ | ⟨en, eA, eT, eE⟩ | ⟨en, eV, eR, eT, eE⟩
  · obtain ⟨t, ht⟩ : ∃ t : Nat, (rBk c.m (x.cl k).n (x.cl k).b).t = (t : Int) := ⟨(rBk c.m (x.cl k).n (x.cl k).b).t.toNat, by omega⟩
    have ht1 : t < (rPr c.m (x.cl k).n).bl.length := by omega
    refine TW.sreg ?_
    refine WL.op rfl rfl rfl (Go.Proofs.Ythdkmjbeemfbbaa.W.quiet_move rfl rfl) ?_
    refine O.nck rfl rfl rfl rfl rfl ?_
    refine WL.op rfl rfl rfl (Go.Proofs.Ythdkmjbeemfbbaa.W.quiet_field rfl rfl (fun W => (qa_irrun_call_2 W _ _))) ?_
    refine WL.ld rfl rfl rfl rfl rfl (ql_p_api_Block _ _ _ (ha.c2.trans (congrArg some e2))) ?_
    refine WL.op rfl rfl rfl (Go.Proofs.Ythdkmjbeemfbbaa.W.quiet_assign rfl rfl) ?_
    refine WL.nil ?_
    refine TW.sreg ?_
    refine WL.op rfl rfl rfl (Go.Proofs.Ythdkmjbeemfbbaa.W.quiet_move rfl rfl) ?_
    refine O.nck rfl rfl rfl rfl rfl ?_
    refine WL.op rfl rfl rfl (Go.Proofs.Ythdkmjbeemfbbaa.W.quiet_field rfl rfl (fun W => (qa_api_Block_1 W _ _))) ?_
    refine WL.ld rfl rfl rfl rfl rfl ((ql_int _ _ _ (hr.f0.cell hbk.2.1 id)).trans (by rw [en])) ?_
    refine WL.nil ?_
    refine TW.block ?_
    refine TW.sreg ?_
    refine WL.op rfl rfl rfl (Go.Proofs.Ythdkmjbeemfbbaa.W.quiet_bin rfl rfl rfl (fun W => qb_eql_int W _ _ _ _)) ?_
    refine O.split (fun hb => ?_) (fun hb => by exfalso; revert hb; first | (simp; done) | (simp; omega))
    refine WL.op rfl rfl rfl (Go.Proofs.Ythdkmjbeemfbbaa.W.quiet_assign rfl rfl) ?_
    refine WL.nil ?_
    refine TW.cond rfl (fun _ => ?_) (fun hb => by cases hb)
    refine TW.reg ?_
    refine WL.op rfl rfl rfl (Go.Proofs.Ythdkmjbeemfbbaa.W.quiet_move rfl rfl) ?_
    refine WL.op rfl rfl rfl (Go.Proofs.Ythdkmjbeemfbbaa.W.quiet_move rfl rfl) ?_
    refine WL.op rfl rfl rfl (Go.Proofs.Ythdkmjbeemfbbaa.W.quiet_move rfl rfl) ?_
    refine O.nck rfl rfl rfl rfl rfl ?_
    refine WL.op rfl rfl rfl (Go.Proofs.Ythdkmjbeemfbbaa.W.quiet_field rfl rfl (fun W => (qa_api_Block_3 W _ _))) ?_
    refine WL.ld rfl rfl rfl rfl rfl ((ql_int _ _ _ (hr.f0.cell hbk.2.2.2.1 id)).trans (by rw [ht])) ?_
    refine WL.call (hr := (t_jump hc hcb (show k < x.d by omega) hw0.n ht1 _ ⟨hm, hr⟩)) rfl rfl rfl rfl rfl (fun W => qk_irrun_machine_jump W _) ?_
    rintro e w2 ⟨L2, rfl, hca, hx2⟩
    refine ⟨_, rfl, ?_⟩
    refine WL.end ?_
    refine Xw.nblk ?_
    refine O.end0 rfl ?_
    refine ⟨L2, rfl, hca, ?_⟩
    rw [rEnd1 hd en ht]
    show RM c w2 L2 _ fu x.d
    rw [← hd] at hx2
    exact hx2
  · unfold RgP at eA
    obtain ⟨r, hr0⟩ : ∃ r : Nat, (rBk c.m (x.cl k).n (x.cl k).b).a = (r : Int) := ⟨(rBk c.m (x.cl k).n (x.cl k).b).a.toNat, by omega⟩
    have hrr : r < (rPr c.m (x.cl k).n).rg.toNat := by omega
    obtain ⟨g3, q3, e3, hg3, hc3, _⟩ := RM.putR hc ⟨hm, hr⟩ (show k < x.d by omega) hrr
    refine TW.sreg ?_
    refine WL.op rfl rfl rfl (Go.Proofs.Ythdkmjbeemfbbaa.W.quiet_move rfl rfl) ?_
    refine O.nck rfl rfl rfl rfl rfl ?_
    refine WL.op rfl rfl rfl (Go.Proofs.Ythdkmjbeemfbbaa.W.quiet_field rfl rfl (fun W => (qa_irrun_call_2 W _ _))) ?_
    refine WL.ld rfl rfl rfl rfl rfl (ql_p_api_Block _ _ _ (ha.c2.trans (congrArg some e2))) ?_
    refine WL.op rfl rfl rfl (Go.Proofs.Ythdkmjbeemfbbaa.W.quiet_assign rfl rfl) ?_
    refine WL.nil ?_
    refine TW.sreg ?_
    refine WL.op rfl rfl rfl (Go.Proofs.Ythdkmjbeemfbbaa.W.quiet_move rfl rfl) ?_
    refine O.nck rfl rfl rfl rfl rfl ?_
    refine WL.op rfl rfl rfl (Go.Proofs.Ythdkmjbeemfbbaa.W.quiet_field rfl rfl (fun W => (qa_api_Block_1 W _ _))) ?_
    refine WL.ld rfl rfl rfl rfl rfl ((ql_int _ _ _ (hr.f0.cell hbk.2.1 id)).trans (by rw [en])) ?_
    refine WL.nil ?_
    refine TW.block ?_
    refine TW.sreg ?_
    refine WL.op rfl rfl rfl (Go.Proofs.Ythdkmjbeemfbbaa.W.quiet_bin rfl rfl rfl (fun W => qb_eql_int W _ _ _ _)) ?_
    refine O.split (fun hb => by exfalso; revert hb; first | (simp; done) | (simp; omega)) (fun hb => ?_)
    refine WL.op rfl rfl rfl (Go.Proofs.Ythdkmjbeemfbbaa.W.quiet_assign rfl rfl) ?_
    refine WL.nil ?_
    refine TW.cond rfl (fun hb => by cases hb) (fun _ => ?_)
    refine TW.sreg ?_
    refine WL.op rfl rfl rfl (Go.Proofs.Ythdkmjbeemfbbaa.W.quiet_bin rfl rfl rfl (fun W => qb_eql_int W _ _ _ _)) ?_
    refine O.split (fun hb => ?_) (fun hb => by exfalso; revert hb; first | (simp; done) | (simp; omega))
    refine WL.op rfl rfl rfl (Go.Proofs.Ythdkmjbeemfbbaa.W.quiet_assign rfl rfl) ?_
    refine WL.nil ?_
    refine TW.cond rfl (fun _ => ?_) (fun hb => by cases hb)
    refine Q.sreg (C := fun W => Fr (fun _ => False) w W) (by kernel_rfl) (by kernel_rfl) (fun W h => h.drewN 1) (Fr.refl _ _) ?_
    refine W.op rfl rfl rfl (Go.Proofs.Ythdkmjbeemfbbaa.W.quiet_move rfl rfl) ?_
    refine W.op rfl rfl rfl (Q.nck rfl rfl) ?_
    refine W.op rfl rfl rfl (Go.Proofs.Ythdkmjbeemfbbaa.W.quiet_field rfl rfl (fun W => (qa_irrun_call_0 W _ _))) ?_
    refine W.op rfl rfl rfl (Go.Proofs.Ythdkmjbeemfbbaa.W.quiet_load rfl rfl (fun W hW => (ql_irrun_registers _ _ _ _ _ (hW.cell (ha.c0.trans (congrArg some e3)) id)))) ?_
    refine W.op rfl rfl rfl (Go.Proofs.Ythdkmjbeemfbbaa.W.quiet_move rfl rfl) ?_
    refine W.op rfl rfl rfl (Q.nck rfl rfl) ?_
    refine W.op rfl rfl rfl (Go.Proofs.Ythdkmjbeemfbbaa.W.quiet_field rfl rfl (fun W => (qa_api_Block_2 W _ _))) ?_
    refine W.op rfl rfl rfl (Go.Proofs.Ythdkmjbeemfbbaa.W.quiet_load rfl rfl (fun W hW => ((ql_int _ _ _ (hW.cell (hr.f0.cell hbk.2.2.1 id) id)).trans (by rw [hr0])))) ?_
    refine W.op rfl rfl rfl (Go.Proofs.Ythdkmjbeemfbbaa.W.quiet_index rfl rfl rfl (fun W => (qi_irrun_registers _ _ _ _ _ _ (by omega)))) ?_
    refine W.op rfl rfl rfl (Go.Proofs.Ythdkmjbeemfbbaa.W.quiet_load rfl rfl (fun W hW => (ql_uint32 _ _ _ (hW.cell hc3 id)))) ?_
    refine W.op rfl rfl rfl (Go.Proofs.Ythdkmjbeemfbbaa.W.quiet_bin rfl rfl rfl (fun W => qb_neq_uint32 W _ _ _ _)) ?_
    refine Q.split (fun hb => ?_) (fun hb => ?_)
    · skip
      have hz : ¬ (x.cl k).rg r = 0 := by simpa using hb
      obtain ⟨t, ht⟩ : ∃ t : Nat, (rBk c.m (x.cl k).n (x.cl k).b).t = (t : Int) := ⟨(rBk c.m (x.cl k).n (x.cl k).b).t.toNat, by omega⟩
      have ht1 : t < (rPr c.m (x.cl k).n).bl.length := by omega
      refine Q.nil (T.tw fun wq1 fq1 => ?_)
      replace hm := hm.fr fq1 id
      replace hr := hr.fr0 hc fq1
      replace ha := hr.at_ hc hcb (show k < x.d by omega)
      refine TW.cond rfl (fun _ => ?_) (fun hb => by cases hb)
      refine TW.reg ?_
      refine WL.op rfl rfl rfl (Go.Proofs.Ythdkmjbeemfbbaa.W.quiet_move rfl rfl) ?_
      refine WL.op rfl rfl rfl (Go.Proofs.Ythdkmjbeemfbbaa.W.quiet_move rfl rfl) ?_
      refine WL.op rfl rfl rfl (Go.Proofs.Ythdkmjbeemfbbaa.W.quiet_move rfl rfl) ?_
      refine O.nck rfl rfl rfl rfl rfl ?_
      refine WL.op rfl rfl rfl (Go.Proofs.Ythdkmjbeemfbbaa.W.quiet_field rfl rfl (fun W => (qa_api_Block_3 W _ _))) ?_
      refine WL.ld rfl rfl rfl rfl rfl ((ql_int _ _ _ (hr.f0.cell hbk.2.2.2.1 id)).trans (by rw [ht])) ?_
      refine WL.call (hr := (t_jump hc hcb (show k < x.d by omega) hw0.n ht1 _ ⟨hm, hr⟩)) rfl rfl rfl rfl rfl (fun W => qk_irrun_machine_jump W _) ?_
      rintro e w2 ⟨L2, rfl, hca, hx2⟩
      refine ⟨_, rfl, ?_⟩
      refine WL.end ?_
      refine Xw.nblk ?_
      refine O.end0 rfl ?_
      refine ⟨L2, rfl, hca, ?_⟩
      rw [rEnd2 hd en hr0 hz ht]
      show RM c w2 L2 _ fu x.d
      rw [← hd] at hx2
      exact hx2
    · skip
      have hz : (x.cl k).rg r = 0 := by simpa using hb
      obtain ⟨t, ht⟩ : ∃ t : Nat, (rBk c.m (x.cl k).n (x.cl k).b).el = (t : Int) := ⟨(rBk c.m (x.cl k).n (x.cl k).b).el.toNat, by omega⟩
      have ht1 : t < (rPr c.m (x.cl k).n).bl.length := by omega
      refine Q.nil (T.tw fun wq2 fq2 => ?_)
      replace hm := hm.fr fq2 id
      replace hr := hr.fr0 hc fq2
      replace ha := hr.at_ hc hcb (show k < x.d by omega)
      refine TW.cond rfl (fun hb => by cases hb) (fun _ => ?_)
      refine TW.reg ?_
      refine WL.op rfl rfl rfl (Go.Proofs.Ythdkmjbeemfbbaa.W.quiet_move rfl rfl) ?_
      refine WL.op rfl rfl rfl (Go.Proofs.Ythdkmjbeemfbbaa.W.quiet_move rfl rfl) ?_
      refine WL.op rfl rfl rfl (Go.Proofs.Ythdkmjbeemfbbaa.W.quiet_move rfl rfl) ?_
      refine O.nck rfl rfl rfl rfl rfl ?_
      refine WL.op rfl rfl rfl (Go.Proofs.Ythdkmjbeemfbbaa.W.quiet_field rfl rfl (fun W => (qa_api_Block_4 W _ _))) ?_
      refine WL.ld rfl rfl rfl rfl rfl ((ql_int _ _ _ (hr.f0.cell hbk.2.2.2.2 id)).trans (by rw [ht])) ?_
      refine WL.call (hr := (t_jump hc hcb (show k < x.d by omega) hw0.n ht1 _ ⟨hm, hr⟩)) rfl rfl rfl rfl rfl (fun W => qk_irrun_machine_jump W _) ?_
      rintro e w2 ⟨L2, rfl, hca, hx2⟩
      refine ⟨_, rfl, ?_⟩
      refine WL.end ?_
      refine Xw.nblk ?_
      refine O.end0 rfl ?_
      refine ⟨L2, rfl, hca, ?_⟩
      rw [rEnd2e hd en hr0 hz ht]
      show RM c w2 L2 _ fu x.d
      rw [← hd] at hx2
      exact hx2
  · have hba : (rBk c.m (x.cl k).n (x.cl k).b).a = -1 ∨ RgP (rPr c.m (x.cl k).n).rg (rBk c.m (x.cl k).n (x.cl k).b).a := by
      cases hv : (rPr c.m (x.cl k).n).vd
      · exact .inr (eR hv)
      · exact .inl (eV hv)
    have hrd : (x.cl k).rd = -1 ∨ 0 < k ∧ RgP (rPr c.m (x.cl (k - 1)).n).rg (x.cl k).rd := by
      by_cases h0 : 0 < k
      · rcases (hw0.rd h0).2.2 with q | q
        · exact .inl q
        · exact .inr ⟨h0, q⟩
      · obtain rfl : k = 0 := by omega
        exact .inl (hrd0 rfl)
    refine TW.sreg ?_
    refine WL.op rfl rfl rfl (Go.Proofs.Ythdkmjbeemfbbaa.W.quiet_move rfl rfl) ?_
    refine O.nck rfl rfl rfl rfl rfl ?_
    refine WL.op rfl rfl rfl (Go.Proofs.Ythdkmjbeemfbbaa.W.quiet_field rfl rfl (fun W => (qa_irrun_call_2 W _ _))) ?_
    refine WL.ld rfl rfl rfl rfl rfl (ql_p_api_Block _ _ _ (ha.c2.trans (congrArg some e2))) ?_
    refine WL.op rfl rfl rfl (Go.Proofs.Ythdkmjbeemfbbaa.W.quiet_assign rfl rfl) ?_
    refine WL.nil ?_
    refine TW.sreg ?_
    refine WL.op rfl rfl rfl (Go.Proofs.Ythdkmjbeemfbbaa.W.quiet_move rfl rfl) ?_
    refine O.nck rfl rfl rfl rfl rfl ?_
    refine WL.op rfl rfl rfl (Go.Proofs.Ythdkmjbeemfbbaa.W.quiet_field rfl rfl (fun W => (qa_api_Block_1 W _ _))) ?_
    refine WL.ld rfl rfl rfl rfl rfl ((ql_int _ _ _ (hr.f0.cell hbk.2.1 id)).trans (by rw [en])) ?_
    refine WL.nil ?_
    refine TW.block ?_
    refine TW.sreg ?_
    refine WL.op rfl rfl rfl (Go.Proofs.Ythdkmjbeemfbbaa.W.quiet_bin rfl rfl rfl (fun W => qb_eql_int W _ _ _ _)) ?_
    refine O.split (fun hb => by exfalso; revert hb; first | (simp; done) | (simp; omega)) (fun hb => ?_)
    refine WL.op rfl rfl rfl (Go.Proofs.Ythdkmjbeemfbbaa.W.quiet_assign rfl rfl) ?_
    refine WL.nil ?_
    refine TW.cond rfl (fun hb => by cases hb) (fun _ => ?_)
    refine TW.sreg ?_
    refine WL.op rfl rfl rfl (Go.Proofs.Ythdkmjbeemfbbaa.W.quiet_bin rfl rfl rfl (fun W => qb_eql_int W _ _ _ _)) ?_
    refine O.split (fun hb => by exfalso; revert hb; first | (simp; done) | (simp; omega)) (fun hb => ?_)
    refine WL.op rfl rfl rfl (Go.Proofs.Ythdkmjbeemfbbaa.W.quiet_assign rfl rfl) ?_
    refine WL.nil ?_
    refine TW.cond rfl (fun hb => by cases hb) (fun _ => ?_)
    refine TW.sreg ?_
    refine WL.op rfl rfl rfl (Go.Proofs.Ythdkmjbeemfbbaa.W.quiet_bin rfl rfl rfl (fun W => qb_eql_int W _ _ _ _)) ?_
    refine O.split (fun hb => ?_) (fun hb => by exfalso; revert hb; first | (simp; done) | (simp; omega))
    refine WL.op rfl rfl rfl (Go.Proofs.Ythdkmjbeemfbbaa.W.quiet_assign rfl rfl) ?_
    refine WL.nil ?_
    refine TW.cond rfl (fun _ => ?_) (fun hb => by cases hb)
    refine TW.reg ?_
    refine WL.op rfl rfl rfl (Go.Proofs.Ythdkmjbeemfbbaa.W.quiet_move rfl rfl) ?_
    refine WL.op rfl rfl rfl (Go.Proofs.Ythdkmjbeemfbbaa.W.quiet_move rfl rfl) ?_
    refine WL.call (hr := (t_leave hc hk6 hd hcb hba hrd (rVal_in hwf (by omega)) _ ⟨hm, hr⟩)) rfl rfl rfl rfl rfl (fun W => qk_irrun_machine_leave W _) ?_
    rintro e w2 ⟨L2, rfl, hca, hx2⟩
    refine ⟨_, rfl, ?_⟩
    refine WL.end ?_
    refine Xw.nblk ?_
    refine O.end0 rfl ?_
    refine ⟨L2, rfl, hca, ?_⟩
    rw [rEnd3 hd en, rLeave_d, show x.d - 1 = k by omega]
    exact hx2
theorem run_storeVar_at {P : Program} (w : World) (g o : Nat) (t ty : TypeId) (cur cells : Array Value) (hg : w.heap[g]? = some (.cells cur t (0, 0))) (hi : (P.info? ty).map (·.size) = some cells.size) (hfit : o + cells.size ≤ cur.size) (h1 : cells.all (·.oneCell') = true) :
    (storeVar ty ⟨g, o, none⟩ (.agg cells)).run P w = .ok () (w.setRow g (cur.toList.take (o + 0) ++ cells.toList ++ cur.toList.drop (o + 0 + cells.toList.length)).toArray) := by
  have := run_storeCells_at P g o t cells.toList 0 cur w hg (by simp; omega) (fun v hv => (Array.all_eq_true_iff_forall_mem.1 h1) v (by simpa using hv))
  cases hq : P.info? ty with
  | none => simp [hq] at hi
  | some i =>
    have hs : cells.size = i.size := by simp [hq] at hi; omega
    simp only [storeVar, sizeOf, typeInfo, hq, Value.cells, hs, Sem.run_bind, Sem.run_pure, Result.andThen_ok]
    simpa [storeVar, sizeOf, typeInfo, hq, Value.cells, hs] using this
def fset6 (F : Nat → Nat → Value) (k : Nat) (V : Nat → Value) : Nat → Nat → Value := fun k' i => if k' = k then V i else F k' i
theorem CA.set6 {w : World} {cb cc : Nat} {F : Nat → Nat → Value} (h : CA w cb cc F) {k : Nat} (hk : k < cc) (v0 v1 v2 v3 v4 v5 : Value) (h1 : (#[v0, v1, v2, v3, v4, v5] : Array Value).all (·.oneCell') = true) :
    ∃ w', (Instr.storeAt 67 (.pointer (some ⟨cb, 0 + k * 6, none⟩)) (.agg #[v0, v1, v2, v3, v4, v5])).run Try.prog w = .ok () w' ∧ (Fr (fun q => q = cb) w w' ∧ CA w' cb cc (fset6 F k (fun i => ([v0, v1, v2, v3, v4, v5] : List Value).getD i v0))) := by
  obtain ⟨h0, z, hz, hs, hc⟩ := h
  have hr := run_storeVar_at (P := Try.prog) w cb (0 + k * 6) 67 67 z #[v0, v1, v2, v3, v4, v5] hz (by kernel_rfl) (by rw [hs]; show 0 + k * 6 + 6 ≤ cc * 6; omega) h1
  obtain ⟨Z, hZ, hr⟩ : ∃ Z : Array Value, Z = (z.toList.take (0 + k * 6 + 0) ++ [v0, v1, v2, v3, v4, v5] ++ z.toList.drop (0 + k * 6 + 0 + 6)).toArray ∧ (storeVar 67 ⟨cb, 0 + k * 6, none⟩ (.agg #[v0, v1, v2, v3, v4, v5])).run Try.prog w = .ok () (w.setRow cb Z) := ⟨_, rfl, hr⟩
  refine ⟨w.setRow cb Z, ?_, ⟨rfl, rfl, by simp [World.setRow], fun q hq hn => setRow_other w cb q _ hn⟩, h0, Z, setRow_heap w cb z _ 67 (0, 0) hz, ?_, fun k' i hk' hi => ?_⟩
  · simp only [Instr.storeAt, Instr.sureAddr, Sem.run_bind, Sem.run_pure, Result.andThen_ok, hr]
  · rw [hZ, List.size_toArray, List.length_append, List.length_append, List.length_take, List.length_drop, Array.length_toList, hs]
    show min (0 + k * 6 + 0) (cc * 6) + 6 + (cc * 6 - (0 + k * 6 + 0 + 6)) = cc * 6
    omega
  · have hl : (z.toList.take (0 + k * 6 + 0)).length = k * 6 := by rw [List.length_take, Array.length_toList, hs]; omega
    have hl6 : ([v0, v1, v2, v3, v4, v5] : List Value).length = 6 := rfl
    rw [hZ, List.getElem?_toArray]
    unfold fset6
    by_cases e : k' = k
    · subst e
      rw [if_pos rfl, List.getElem?_append_left (by rw [List.length_append, hl]; show k' * 6 + i < k' * 6 + 6; omega), List.getElem?_append_right (by rw [hl]; omega), hl, show k' * 6 + i - k' * 6 = i by omega]
      show ([v0, v1, v2, v3, v4, v5] : List Value)[i]? = some (([v0, v1, v2, v3, v4, v5] : List Value).getD i v0)
      rw [List.getD_eq_getElem?_getD, List.getElem?_eq_getElem (by rw [hl6]; exact hi)]
      rfl
    · rw [if_neg e]
      have hold := hc k' i hk' hi
      rw [← Array.getElem?_toList] at hold
      by_cases hlt : k' < k
      · rw [List.getElem?_append_left (by rw [List.length_append, hl]; omega), List.getElem?_append_left (by rw [hl]; omega), List.getElem?_take, if_pos (by omega)]
        exact hold
      · rw [List.getElem?_append_right (by rw [List.length_append, hl]; show k * 6 + 6 ≤ _; omega), List.length_append, hl, List.getElem?_drop]
        show z.toList[0 + k * 6 + 0 + 6 + (k' * 6 + i - (k * 6 + 6))]? = _
        rw [show 0 + k * 6 + 0 + 6 + (k' * 6 + i - (k * 6 + 6)) = k' * 6 + i by omega]
        exact hold
/-- Arguments: words in a row. -/
def ArgV (w : World) (av : Value) (n : Nat) (f : Nat → Int) : Prop := (av = .slice none 0 0 ∧ n = 0) ∨ ∃ g k, av = .slice (some ⟨g, 0, none⟩) n k ∧ ∀ j, j < n → w.cell? ⟨g, j, none⟩ = some (.int .u32 (f j))
theorem ArgV.fr {w w' : World} {av : Value} {n : Nat} {f : Nat → Int} {G : Nat → Prop} (h : ArgV w av n f) (hf : Fr G w w') (hn : ∀ g, av.ownBlock = some g → ¬G g) : ArgV w' av n f := by
  rcases h with h | ⟨g, k, rfl, h⟩
  · exact .inl h
  · exact .inr ⟨g, k, rfl, fun j hj => hf.cell (h j hj) (hn g rfl)⟩
theorem RegA.form {w : World} {v : Value} {n : Nat} {f : Nat → Int} (h : RegA w v n f) : ∃ a k, v = .slice a n k := by
  rcases h with ⟨e, rfl⟩ | ⟨g, k, z, e, _⟩
  · exact ⟨none, 0, e⟩
  · exact ⟨_, k, e⟩
theorem copy_args (ty : TypeId) {w : World} {v av : Value} {n m : Nat} {f h : Nat → Int} (hr : RegA w v n f) (ha : ArgV w av m h) (hm : m ≤ n) : ∃ v2 w', (Builtin.copy_ #[64, 27] ty #[v, av]).run Try.prog w = .ok v2 w' ∧ (RegA w' v n (fun j => if j < m then h j else f j) ∧ Fr (fun q => v.ownBlock = some q) w w') := by
  rcases ha with ⟨rfl, rfl⟩ | ⟨ga, ka, rfl, hcell⟩
  · refine ⟨goInt 0, w, ?_, ?_, Fr.refl _ _⟩
    · rcases hr with ⟨rfl, rfl⟩ | ⟨g, k, z, rfl, _⟩
      · simp [Builtin.copy_, go_sem, Builtin.firstCells, loadCells, loadCellsFrom, storeCells]
      · simp [Builtin.copy_, go_sem, Builtin.firstCells, loadCells, loadCellsFrom, storeCells]
    · have e : (fun j => if j < 0 then h j else f j) = f := by funext j; simp
      rw [e]
      exact hr
  · rcases hr with ⟨rfl, rfl⟩ | ⟨g, k, z, rfl, h1, h2, h3, h4, h5⟩
    · obtain rfl : m = 0 := by omega
      refine ⟨goInt 0, w, ?_, .inl ⟨rfl, rfl⟩, Fr.refl _ _⟩
      simp [Builtin.copy_, go_sem, Builtin.firstCells, loadCells, loadCellsFrom, storeCells]
    · have hlen : ((List.range m).map (fun j => Value.int .u32 (h j))).length = m := by simp
      have hc := run_copy_row (P := Try.prog) w 64 27 ty 31 g 0 n k ⟨ga, 0, none⟩ m ka z 31 ((List.range m).map (fun j => Value.int .u32 (h j))) Try.underlying64 (by kernel_rfl) h3 (by rw [hlen]; exact (Nat.min_eq_left hm).symm) (fun j u hj => by
        have hjm : j < m := by have := (List.getElem?_eq_some_iff.1 hj).1; simpa using this
        rw [List.getElem?_map, List.getElem?_range hjm] at hj
        simp only [Option.map_some, Option.some.injEq] at hj
        rw [Addr.add_lit, Nat.zero_add, ← hj]
        exact hcell j hjm) (by rw [hlen, h4]; omega) (fun u hu => by
        simp only [List.mem_map] at hu
        obtain ⟨_, _, rfl⟩ := hu
        rfl)
      refine ⟨_, _, hc, .inr ⟨g, k, _, rfl, h1, h2, setRow_heap w g z _ 31 (0, 0) h3, ?_, fun j hj => ?_⟩, ⟨rfl, rfl, by simp [World.setRow], fun q hq hn => setRow_other w g q _ (fun e => hn (congrArg some e.symm))⟩⟩
      · simp only [List.size_toArray, List.length_append, List.length_take, List.length_drop, Array.length_toList, hlen, h4]
        omega
      · rw [List.getElem?_toArray, List.take_zero, List.nil_append]
        by_cases hjm : j < m
        · rw [List.getElem?_append_left (by rw [hlen]; exact hjm), List.getElem?_map, List.getElem?_range hjm]
          simp [hjm]
        · rw [List.getElem?_append_right (by rw [hlen]; omega), hlen, List.getElem?_drop, Array.getElem?_toList, show 0 + m + (j - m) = j by omega]
          simpa [hjm] using h5 j hj
/-- The registers of a call that stands written anew, whatever they are. -/
theorem RA.regs' {c : RC} {w w' : World} {L : RL} {x : RSt} (hc : c.ok) (h : RA c w L x) {k : Nat} (hk : k < x.d) (hf : Fr (fun b => (L.F k 0).ownBlock = some b) w w') {f : Nat → Int} (hr : RegA w' (L.F k 0) (rPr c.m (x.cl k).n).rg.toNat f) : RA c w' L { x with cl := rupd x.cl k { x.cl k with rg := f } } := by
  rcases id hr with ⟨e, e0⟩ | ⟨g, q, z, e, _⟩
  · have hf0 : Fr (fun _ => False) w w' := hf.mono (fun b _ hb => by rw [e] at hb; cases hb)
    have h2 := h.fr0 hc hf0
    refine ⟨h2.f0, h2.f1, h2.me, h2.out, h2.ca, h2.rg, fun j hj => ?_, h2.dc, h2.ne, h2.no⟩
    by_cases ej : j = k
    · subst ej
      have hq : ∀ y : RCl, rupd x.cl j y j = y := fun y => rupd_same _ _ _
      simp only [hq]
      exact ⟨hr, (h2.top j hj).2⟩
    · have hq : ∀ y : RCl, rupd x.cl k y j = x.cl j := fun y => rupd_ne _ _ ej
      simp only [hq]
      exact h2.top j hj
  · exact h.regs hc hk e (hf.mono (fun b _ hb => by rw [e] at hb; injection hb with hb; exact hb.symm)) hr
/-- A call is written into its room. -/
theorem RA.push6 {c : RC} {w w' : World} {L : RL} {x : RSt} (hc : c.ok) (h : RA c w L x) {cb : Nat} (hcb : L.ca = some ⟨cb, 0, none⟩) (hd : x.d < L.cc) (cl : RCl) (v pv : Value)
    (hv : RegA w v (rPr c.m cl.n).rg.toNat cl.rg) (hvb : ∀ g, v.ownBlock = some g → c.w1.heap.size ≤ g ∧ (∀ k, k < L.cc → k ≠ x.d → (L.F k 0).ownBlock ≠ some g) ∧ L.ov.ownBlock ≠ some g) (hp : PtrTo c cl.n cl.b pv)
    (hf : Fr (fun q => q = cb) w w') (hca : CA w' cb L.cc (fset6 L.F x.d (fun i => ([v, .int .i64 cl.n, pv, .int .i64 cl.i, .int .i64 cl.lo, .int .i64 cl.rd] : List Value).getD i v))) :
    RA c w' { L with F := fset6 L.F x.d (fun i => ([v, .int .i64 cl.n, pv, .int .i64 cl.i, .int .i64 cl.lo, .int .i64 cl.rd] : List Value).getD i v) } { x with cl := rupd x.cl x.d cl, d := x.d + 1 } := by
  obtain ⟨_, Z, hZ, _⟩ := id hca
  rcases h.ca with ⟨q, _⟩ | ⟨cb', e, h5, h6⟩
  · rw [q] at hcb; cases hcb
  rw [hcb] at e
  injection e with e
  injection e with e
  subst e
  obtain ⟨_, zc, hzc, _⟩ := id h6
  have hw1 := hc.f01.size
  generalize hV : (fun i => ([v, .int .i64 cl.n, pv, .int .i64 cl.i, .int .i64 cl.lo, .int .i64 cl.rd] : List Value).getD i v) = V at *
  have V0 : V 0 = v := by rw [← hV]; rfl
  have V1 : V 1 = .int .i64 cl.n := by rw [← hV]; rfl
  have V2 : V 2 = pv := by rw [← hV]; rfl
  have V3 : V 3 = .int .i64 cl.i := by rw [← hV]; rfl
  have V4 : V 4 = .int .i64 cl.lo := by rw [← hV]; rfl
  have V5 : V 5 = .int .i64 cl.rd := by rw [← hV]; rfl
  have F0 : ∀ k i, k ≠ x.d → fset6 L.F x.d V k i = L.F k i := fun k i hk => if_neg hk
  have F1 : ∀ i, fset6 L.F x.d V x.d i = V i := fun i => if_pos rfl
  have hva : ∀ u : Value, RegS w u → ∀ g, u.ownBlock = some g → g ≠ cb := fun u hu g hg => by
    obtain ⟨zr, hz⟩ := hu.typ hg
    exact hz.ne hzc (by decide)
  refine ⟨h.f0.trans' hf (fun b hb e => by omega), h.f1.trans' hf (fun b hb e => by omega), ?_, h.out.fr hf (fun b hb e => Row.apart_typ h.out hzc (by decide) (hb.trans (congrArg some e))), .inr ⟨cb, hcb, h5, hca⟩, fun k hk => ?_, fun k hk => ?_, hd, fun j k g hj hk hgj hgk => ?_, fun k g hk hg => ?_⟩
  · obtain ⟨z, m1, m2, m3⟩ := h.me
    exact ⟨z, m1.fr hf (m1.ne hzc (by decide)), m2, m3⟩
  · show RegS _ (fset6 L.F x.d V k 0) ∧ ∀ g, (fset6 L.F x.d V k 0).ownBlock = some g → _
    by_cases e : k = x.d
    · subst e
      rw [F1, V0]
      exact ⟨hv.s.fr hf (fun g hg => hva v hv.s g hg), fun g hg => (hvb g hg).1⟩
    · rw [F0 k 0 e]
      exact ⟨(h.rg k hk).1.fr hf (fun g hg => hva _ (h.rg k hk).1 g hg), (h.rg k hk).2⟩
  · have hk : k < x.d + 1 := hk
    show RegA _ (fset6 L.F x.d V k 0) _ _ ∧ fset6 L.F x.d V k 1 = _ ∧ PtrTo c _ _ (fset6 L.F x.d V k 2) ∧ fset6 L.F x.d V k 3 = _ ∧ fset6 L.F x.d V k 4 = _ ∧ fset6 L.F x.d V k 5 = _
    by_cases e : k = x.d
    · subst e
      have hq : rupd x.cl x.d cl x.d = cl := rupd_same _ _ _
      simp only [hq, F1, V0, V1, V2, V3, V4, V5]
      exact ⟨hv.fr hf (fun g hg => hva v hv.s g hg), trivial, hp, trivial, trivial, trivial⟩
    · have hq : rupd x.cl x.d cl k = x.cl k := rupd_ne _ _ e
      have e0 : ∀ i, fset6 L.F x.d V k i = L.F k i := fun i => F0 k i e
      simp only [hq, e0]
      have hr := h.rg k (by omega)
      exact ⟨(h.top k (by omega)).1.fr hf (fun g hg => hva _ hr.1 g hg), (h.top k (by omega)).2⟩
  · have hgj : (fset6 L.F x.d V j 0).ownBlock = some g := hgj
    have hgk : (fset6 L.F x.d V k 0).ownBlock = some g := hgk
    by_cases e1 : j = x.d
    · by_cases e2 : k = x.d
      · omega
      · rw [e1, F1, V0] at hgj
        rw [F0 k 0 e2] at hgk
        exact absurd hgk ((hvb g hgj).2.1 k hk e2)
    · rw [F0 j 0 e1] at hgj
      by_cases e2 : k = x.d
      · rw [e2, F1, V0] at hgk
        exact absurd hgj ((hvb g hgk).2.1 j hj e1)
      · rw [F0 k 0 e2] at hgk
        exact h.ne j k g hj hk hgj hgk
  · have hg : (fset6 L.F x.d V k 0).ownBlock = some g := hg
    by_cases e : k = x.d
    · rw [e, F1, V0] at hg
      exact (hvb g hg).2.2
    · rw [F0 k 0 e] at hg
      exact h.no k g hk hg
end Go.Proofs.Ythdkmjbeemfbbaa
