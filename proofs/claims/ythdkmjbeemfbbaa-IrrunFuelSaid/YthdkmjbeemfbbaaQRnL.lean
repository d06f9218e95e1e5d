/-
  Runs (layer 14): a call begins. Runs (layer 14): a call is made.
-/
import Derived.Test.YthdkmjbeemfbbaaQRnJ
namespace Go.Proofs.Ythdkmjbeemfbbaa
open Go.RowKit
set_option linter.unusedVariables false
set_option linter.unusedSimpArgs false
theorem ql_s_irrun_frame (w : World) (p : Option Addr) (k l : Nat) (d : Addr) (h : w.cell? d = some (.slice p k l)) : (Instr.loadAt 52 (.pointer (some d))).run Try.prog w = .ok (.slice p k l) w := by simp [go_sem, h]
theorem qa_irrun_call_4 (w : World) (b o : Nat) : (Instr.fieldAt 67 (.pointer (some ⟨b, o, none⟩)) 4).run Try.prog w = .ok (.pointer (some ⟨b, o + 4, none⟩)) w := by simp [go_sem]
theorem qa_irrun_machine_7 (w : World) (b o : Nat) : (Instr.fieldAt 55 (.pointer (some ⟨b, o, none⟩)) 7).run Try.prog w = .ok (.pointer (some ⟨b, o + 13, none⟩)) w := by simp [go_sem]
theorem qi_s_irrun_frame (w : World) (b o n c j : Nat) (hj : j < n) : (Instr.indexAt 52 (.slice (some ⟨b, o, none⟩) n c) (.int .i64 (j : Int))).run Try.prog w = .ok (.pointer (some ⟨b, o + j * 2, none⟩)) w := by
  have h : (j : Int) < (n : Int) := by omega
  simp [go_sem, h, hj]
theorem qa_irrun_frame_1 (w : World) (b o : Nat) : (Instr.fieldAt 59 (.pointer (some ⟨b, o, none⟩)) 1).run Try.prog w = .ok (.pointer (some ⟨b, o + 1, none⟩)) w := by simp [go_sem]
theorem qa_irrun_machine_6 (w : World) (b o : Nat) : (Instr.fieldAt 55 (.pointer (some ⟨b, o, none⟩)) 6).run Try.prog w = .ok (.pointer (some ⟨b, o + 12, none⟩)) w := by simp [go_sem]
theorem qk_irrun_machine_push (w : World) (vs : Array Value) : (callFunc 18 vs).run Try.prog w = .ok (.enter 18 vs) w := by simp [go_sem]
theorem qa_api_Proc_3 (w : World) (b o : Nat) : (Instr.fieldAt 41 (.pointer (some ⟨b, o, none⟩)) 3).run Try.prog w = .ok (.pointer (some ⟨b, o + 3, none⟩)) w := by simp [go_sem]
theorem qk_irrun_cleared (w : World) (vs : Array Value) : (callFunc 19 vs).run Try.prog w = .ok (.enter 19 vs) w := by simp [go_sem]
theorem qd_irrun_call_0_1_2_4_5 (w : World) (p0_p0 : Option Addr) (p0_k0 p0_l0 : Nat) (p1_m0 : Int) (p2_p0 : Option Addr) (p4_m0 : Int) (p5_m0 : Int) : (Instr.build 67 #[(0, .slice p0_p0 p0_k0 p0_l0), (1, .int .i64 p1_m0), (2, .pointer p2_p0), (4, .int .i64 p4_m0), (5, .int .i64 p5_m0)]).run Try.prog w = .ok (.agg #[.slice p0_p0 p0_k0 p0_l0, .int .i64 p1_m0, .pointer p2_p0, .int .i64 0, .int .i64 p4_m0, .int .i64 p5_m0]) w := by simp [go_sem]
theorem qi0_blk (w : World) (b o n c : Nat) (h : 0 < n) : (Instr.indexAt 39 (.slice (some ⟨b, o, none⟩) n c) (.int .i64 0)).run Try.prog w = .ok (.pointer (some ⟨b, o, none⟩)) w := by
  have := qi_s_api_Block w b o n c 0 h
  simpa using this
theorem RegS.form {w : World} {v : Value} (h : RegS w v) : ∃ a m k, v = .slice a m k := by
  rcases h with rfl | ⟨g, n, k, z, rfl, _⟩
  · exact ⟨none, 0, 0, rfl⟩
  · exact ⟨_, n, k, rfl⟩
/-- Registers of a call that has ended, written over. -/
theorem RA.stale {c : RC} {w w' : World} {L : RL} {x : RSt} (hc : c.ok) (h : RA c w L x) {k : Nat} (hk : x.d ≤ k) (hkc : k < L.cc) (hf : Fr (fun q => (L.F k 0).ownBlock = some q) w w') (hs : RegS w' (L.F k 0)) : RA c w' L x := by
  have hge := (h.rg k hkc).2
  have hw1 := hc.f01.size
  have hap : ∀ (t : TypeId) (g : Nat) (z : Array Value), Bx w g z t → t ≠ 31 → ¬ (L.F k 0).ownBlock = some g := fun t g z hz ht e => by
    obtain ⟨zr, hzr⟩ := (h.rg k hkc).1.typ e
    exact (hz.ne hzr ht) rfl
  refine ⟨h.f0.trans' hf (fun q hq e => by have := hge q e; omega), h.f1.trans' hf (fun q hq e => by have := hge q e; omega), ?_, h.out.fr hf (fun q hq e => h.no k q hkc e hq), ?_, fun j hj => ⟨?_, (h.rg j hj).2⟩, fun j hj => ⟨?_, (h.top j hj).2⟩, h.dc, h.ne, h.no⟩
  · obtain ⟨z, h1, h2, h3⟩ := h.me
    exact ⟨z, h1.fr hf (hap _ _ z h1 (by decide)), h2, h3⟩
  · rcases h.ca with q | ⟨cb, e, h1, h2⟩
    · exact .inl q
    · refine .inr ⟨cb, e, h1, h2.fr hf ?_⟩
      obtain ⟨_, zc, hzc, _⟩ := h2
      exact hap _ _ zc hzc (by decide)
  · by_cases e : j = k
    · subst e
      exact hs
    · exact (h.rg j hj).1.fr hf (fun g hg e2 => e (h.ne j k g hj hkc hg e2))
  · exact (h.top j hj).1.fr hf (fun g hg e2 => by have := h.ne j k g (Nat.lt_of_lt_of_le hj h.dc) hkc hg e2; omega)
theorem eq_cast {x : Nat} {k : Nat} (h : ((x : Int) == (k : Int)) = true) : x = k := by have := eq_of_beq h; omega
/-- Arguments stand in a box of six, or there are none. -/
def ArgB (w : World) (av : Value) : Prop := ∀ g, av.ownBlock = some g → ∃ z, Bx w g z 96
theorem rEnter_no {m : Mdl} {x : RSt} {n : Nat} {args : List Int} {rd : Int} (h : rLo x - rSz m n < rFlo m ∨ x.d = 5000) : rEnter m x n args rd = { x with e := 8 } := by unfold rEnter; rw [if_pos h]
theorem rEnter_on {m : Mdl} {x : RSt} {n : Nat} {args : List Int} {rd : Int} (h1 : ¬ rLo x - rSz m n < rFlo m) (h2 : ¬ x.d = 5000) : rEnter m x n args rd = { x with cl := rupd x.cl x.d ⟨fun j => args.getD j 0, n, 0, 0, rLo x - rSz m n, rd⟩, d := x.d + 1 } := by unfold rEnter; rw [if_neg (by rintro (q | q); exact h1 q; exact h2 q)]
set_option maxRecDepth 100000 in
theorem t_enter {c : RC} {L : RL} {x : RSt} {fu : Int} {s n : Nat} (hc : c.ok) (hn : n < c.m.pr.length) (hwf : RWf c.m s x) (args : List Int) (hargs : args.length ≤ (rPr c.m n).rg.toNat) (rd : Int) (av : Value) (w : World) (hav : ArgV w av args.length (fun j => args.getD j 0)) (hab : ArgB w av) (h : RM c w L x fu x.d) : Calls Try.prog 13 #[.pointer (some ⟨c.M, 0, none⟩), .int .i64 (n : Int), av, .int .i64 rd] w fun e w' => ∃ L', e = .returned (.tuple #[]) ∧ RM c w' L' (rEnter c.m x n args rd) fu (rEnter c.m x n args rd).d := by
  obtain ⟨ov, ca, cc, F⟩ := L
  obtain ⟨hm0, hr⟩ := id h
  have hm : Bx w c.M #[ov, .int .i64 x.ins, .int .u32 x.ex, .int .i64 x.e, .slice c.ga c.m.gl.length c.gc, .slice c.da c.m.da.length c.dc, .slice c.pa c.m.pr.length c.pc, .int .i64 c.m.mn, .slice c.ia c.inp.length c.ic, .int .i64 fu, .slice (some ⟨c.mb, 0, none⟩) 65536 65536, .slice c.la c.m.gl.length c.lc, .int .i64 (rFlo c.m), .slice c.fa c.m.pr.length c.fc, (.slice ca x.d cc)] 55 := hm0
  clear hm0
  have ff0 := Fr.refl (fun _ => False) w
  obtain ⟨gf, fa4, fk4, hfa, hgf1, hgf2, _, hfs0, _⟩ := hc.frm n hn
  have hfs : c.w1.cell? ⟨gf, 0 + n * 2 + 1, none⟩ = some (.int .i64 (rSz c.m n)) := by rw [Nat.zero_add]; exact hfs0
  clear hfs0
  have hgfn : ¬(gf = c.M ∨ gf = c.mb) := by rintro (e | e); exact hgf1 e; exact hgf2 e
  have ho := rOut_of hc.mp hn
  have hbl0 : 0 < (rPr c.m n).bl.length := by have := ho.2.2.2.2.1.1; omega
  have hz := offs_in (slS_slim ho.2.2.2.1) (rPr c.m n).ob.length (by rw [slS_len]; exact Nat.le_refl _)
  have hz0 : 0 ≤ rSz c.m n := hz.1
  have hz1 : rSz c.m n ≤ 40004 * (400 : Int) := by have := hz.2.1; have := ho.2.2.1; unfold rSz; omega
  clear hz
  have hl0 : 4096 ≤ rLo x ∧ rLo x ≤ 65536 := by
    unfold rLo
    split
    · omega
    · exact ⟨(hwf.top (by omega)).l0, (hwf.top (by omega)).l1⟩
  have hwd := hwf.d
  obtain ⟨gp, op, a5, kk5, gb, ob, hpa, hprc, hp5, rfl, hbk⟩ := RC.blk hc hn hbl0
  have hbk0 : BkAt c.w0 gb ob (rBk c.m n 0) := by simpa using hbk
  obtain ⟨N, hN0⟩ : ∃ N : Nat, (rPr c.m n).rg = (N : Int) := ⟨(rPr c.m n).rg.toNat, by have := ho.1; have := ho.2.1; omega⟩
  have hN : (rPr c.m n).rg = (N : Int) := hN0
  have hN8 : N ≤ 8000 := by have := ho.2.1; omega
  have hp3 := hprc.2.2.2.1
  have hgp0 : gp < c.w0.heap.size := World.block_lt_of_cell? c.w0 _ hp5
  have hw01 := hc.f01.size
  have hm1 := hc.m1
  have hmN : args.length ≤ N := by rw [hN] at hargs; simpa using hargs
  refine calls_tw Try.func13 rfl rfl (Nat.le_of_ble_eq_true rfl) ?_
  refine TW.sreg ?_
  refine WL.op rfl rfl rfl (Go.Proofs.Ythdkmjbeemfbbaa.W.quiet_assign rfl rfl) ?_
  refine WL.nil ?_
  refine TW.seq ?_
  refine TW.sreg ?_
  refine WL.op rfl rfl rfl (Go.Proofs.Ythdkmjbeemfbbaa.W.quiet_move rfl rfl) ?_
  refine O.nck rfl rfl rfl rfl rfl ?_
  refine WL.op rfl rfl rfl (Go.Proofs.Ythdkmjbeemfbbaa.W.quiet_field rfl rfl (fun W => (qa_irrun_machine_8 W _ _))) ?_
  refine WL.ld rfl rfl rfl rfl rfl (ql_s_irrun_call _ _ _ _ _ (hm.cell (j := 14) rfl)) ?_
  refine O.len rfl rfl rfl rfl rfl (qn_s_irrun_call _ _ _ _) ?_
  refine WL.op rfl rfl rfl (Go.Proofs.Ythdkmjbeemfbbaa.W.quiet_bin rfl rfl rfl (fun W => qb_gtr_int W _ _ _ _)) ?_
  refine O.split (fun hb => ?_) (fun hb => ?_)
  · skip
    obtain ⟨k, hk⟩ : ∃ k, x.d = k + 1 := ⟨x.d - 1, by have := of_decide_eq_true hb; omega⟩
    clear hb
    obtain ⟨cb0, hcb0, _⟩ := hr.cb (by have := hr.dc; show 0 < cc; have h9 : x.d ≤ cc := this; omega)
    have hlo : rLo x = (x.cl k).lo := by unfold rLo; rw [if_neg (by omega), rTop_k hk]
    refine WL.nil ?_
    refine TW.cond rfl (fun _ => ?_) (fun hb => by cases hb)
    refine TW.reg ?_
    refine WL.op rfl rfl rfl (Go.Proofs.Ythdkmjbeemfbbaa.W.quiet_move rfl rfl) ?_
    refine WL.call (hr := (t_cur (k := k) (by omega) cb0 hcb0 hc _ (show RM c _ ⟨ov, ca, cc, F⟩ x fu (k + 1) from by rw [← hk]; exact ⟨hm, hr⟩))) rfl rfl rfl rfl rfl (fun W => qk_irrun_machine_current W _) ?_
    rintro e w7 ⟨rfl, f7⟩
    refine ⟨_, rfl, ?_⟩
    replace hm := hm.fr f7 id
    replace hr := hr.fr0 hc f7
    replace ff0 := ff0.trans f7
    refine O.nck rfl rfl rfl rfl rfl ?_
    refine WL.op rfl rfl rfl (Go.Proofs.Ythdkmjbeemfbbaa.W.quiet_field rfl rfl (fun W => (qa_irrun_call_4 W _ _))) ?_
    refine WL.ld rfl rfl rfl rfl rfl ((ql_int _ _ _ (hr.at_ hc hcb0 (show k < x.d by omega)).c4).trans (by rw [← hlo])) ?_
    refine WL.op rfl rfl rfl (Go.Proofs.Ythdkmjbeemfbbaa.W.quiet_assign rfl rfl) ?_
    refine WL.nil ?_
    refine TW.sreg ?_
    refine WL.op rfl rfl rfl (Go.Proofs.Ythdkmjbeemfbbaa.W.quiet_move rfl rfl) ?_
    refine WL.op rfl rfl rfl (Go.Proofs.Ythdkmjbeemfbbaa.W.quiet_move rfl rfl) ?_
    refine O.nck rfl rfl rfl rfl rfl ?_
    refine WL.op rfl rfl rfl (Go.Proofs.Ythdkmjbeemfbbaa.W.quiet_field rfl rfl (fun W => (qa_irrun_machine_7 W _ _))) ?_
    refine WL.ld rfl rfl rfl rfl rfl ((ql_s_irrun_frame _ _ _ _ _ (hm.cell (j := 13) rfl)).trans (by rw [hfa])) ?_
    refine WL.op rfl rfl rfl (Go.Proofs.Ythdkmjbeemfbbaa.W.quiet_move rfl rfl) ?_
    refine O.ixa rfl rfl rfl rfl rfl rfl (qi_s_irrun_frame _ _ _ _ _ _ (by omega)) ?_
    refine WL.op rfl rfl rfl (Go.Proofs.Ythdkmjbeemfbbaa.W.quiet_field rfl rfl (fun W => (qa_irrun_frame_1 W _ _))) ?_
    refine WL.ld rfl rfl rfl rfl rfl (ql_int _ _ _ (hr.f1.cell hfs hgfn)) ?_
    refine WL.op rfl rfl rfl (Go.Proofs.Ythdkmjbeemfbbaa.W.quiet_bin rfl rfl rfl (fun W => qb_sub_int W _ _ _ _ (by omega) (by omega))) ?_
    refine WL.op rfl rfl rfl (Go.Proofs.Ythdkmjbeemfbbaa.W.quiet_assign rfl rfl) ?_
    refine WL.nil ?_
    refine TW.seq ?_
    refine TW.sreg ?_
    refine WL.op rfl rfl rfl (Go.Proofs.Ythdkmjbeemfbbaa.W.quiet_move rfl rfl) ?_
    refine WL.op rfl rfl rfl (Go.Proofs.Ythdkmjbeemfbbaa.W.quiet_move rfl rfl) ?_
    refine O.nck rfl rfl rfl rfl rfl ?_
    refine WL.op rfl rfl rfl (Go.Proofs.Ythdkmjbeemfbbaa.W.quiet_field rfl rfl (fun W => (qa_irrun_machine_6 W _ _))) ?_
    refine WL.ld rfl rfl rfl rfl rfl (ql_int _ _ _ (hm.cell (j := 12) rfl)) ?_
    refine WL.op rfl rfl rfl (Go.Proofs.Ythdkmjbeemfbbaa.W.quiet_bin rfl rfl rfl (fun W => qb_lss_int W _ _ _ _)) ?_
    refine O.split (fun hb => ?_) (fun hb => ?_)
    · skip
      refine WL.op rfl rfl rfl (Go.Proofs.Ythdkmjbeemfbbaa.W.quiet_move rfl rfl) ?_
      refine WL.skip rfl rfl rfl ?_
      refine WL.skip rfl rfl rfl ?_
      refine WL.skip rfl rfl rfl ?_
      refine WL.skip rfl rfl rfl ?_
      refine WL.skip rfl rfl rfl ?_
      refine WL.skip rfl rfl rfl ?_
      refine WL.op rfl rfl rfl (Go.Proofs.Ythdkmjbeemfbbaa.W.quiet_pick rfl rfl rfl) ?_
      refine WL.nil ?_
      refine TW.cond rfl (fun _ => ?_) (fun hb => by cases hb)
      refine TW.sreg ?_
      refine WL.op rfl rfl rfl (Go.Proofs.Ythdkmjbeemfbbaa.W.quiet_move rfl rfl) ?_
      refine O.nck rfl rfl rfl rfl rfl ?_
      refine WL.op rfl rfl rfl (Go.Proofs.Ythdkmjbeemfbbaa.W.quiet_field rfl rfl (fun W => (qa_irrun_machine_0 W _ _))) ?_
      refine WL.op rfl rfl rfl (Go.Proofs.Ythdkmjbeemfbbaa.W.quiet_field rfl rfl (fun W => (qa_api_Outcome_3 W _ _))) ?_
      refine O.storeR rfl rfl rfl rfl rfl (qsF_api_Errno w7 _ 3 _ _ _ _ hm rfl) ?_
      rintro wa1 ⟨fa1, hmx⟩
      replace hr := hr.frM hc hm fa1
      clear hm
      have hm := hmx
      clear hmx
      refine WL.nil ?_
      refine TW.rt ?_
      refine Xw.thn (by simp) ?_
      refine O.retn rfl ?_
      refine ⟨⟨ov, ca, cc, F⟩, rfl, ?_⟩
      rw [rEnter_no (.inl (of_decide_eq_true hb))]
      exact ⟨hm, hr.as _ rfl rfl rfl rfl⟩
    · skip
      have hb1 := of_decide_eq_false hb
      clear hb
      refine WL.op rfl rfl rfl (Go.Proofs.Ythdkmjbeemfbbaa.W.quiet_move rfl rfl) ?_
      refine WL.op rfl rfl rfl (Go.Proofs.Ythdkmjbeemfbbaa.W.quiet_move rfl rfl) ?_
      refine O.nck rfl rfl rfl rfl rfl ?_
      refine WL.op rfl rfl rfl (Go.Proofs.Ythdkmjbeemfbbaa.W.quiet_field rfl rfl (fun W => (qa_irrun_machine_8 W _ _))) ?_
      refine WL.ld rfl rfl rfl rfl rfl (ql_s_irrun_call _ _ _ _ _ (hm.cell (j := 14) rfl)) ?_
      refine O.len rfl rfl rfl rfl rfl (qn_s_irrun_call _ _ _ _) ?_
      refine WL.op rfl rfl rfl (Go.Proofs.Ythdkmjbeemfbbaa.W.quiet_bin rfl rfl rfl (fun W => qb_eql_int W _ _ _ _)) ?_
      refine O.split (fun hb => ?_) (fun hb => ?_)
      · skip
        refine WL.op rfl rfl rfl (Go.Proofs.Ythdkmjbeemfbbaa.W.quiet_pick rfl rfl rfl) ?_
        refine WL.nil ?_
        refine TW.cond rfl (fun _ => ?_) (fun hb => by cases hb)
        refine TW.sreg ?_
        refine WL.op rfl rfl rfl (Go.Proofs.Ythdkmjbeemfbbaa.W.quiet_move rfl rfl) ?_
        refine O.nck rfl rfl rfl rfl rfl ?_
        refine WL.op rfl rfl rfl (Go.Proofs.Ythdkmjbeemfbbaa.W.quiet_field rfl rfl (fun W => (qa_irrun_machine_0 W _ _))) ?_
        refine WL.op rfl rfl rfl (Go.Proofs.Ythdkmjbeemfbbaa.W.quiet_field rfl rfl (fun W => (qa_api_Outcome_3 W _ _))) ?_
        refine O.storeR rfl rfl rfl rfl rfl (qsF_api_Errno w7 _ 3 _ _ _ _ hm rfl) ?_
        rintro wa2 ⟨fa2, hmx⟩
        replace hr := hr.frM hc hm fa2
        clear hm
        have hm := hmx
        clear hmx
        refine WL.nil ?_
        refine TW.rt ?_
        refine Xw.thn (by simp) ?_
        refine O.retn rfl ?_
        refine ⟨⟨ov, ca, cc, F⟩, rfl, ?_⟩
        rw [rEnter_no (.inr (eq_cast (k := 5000) hb))]
        exact ⟨hm, hr.as _ rfl rfl rfl rfl⟩
      · skip
        have hb2 : ¬ x.d = 5000 := by
          have : ¬ (x.d : Int) = 5000 := by simpa using hb
          omega
        clear hb
        refine WL.op rfl rfl rfl (Go.Proofs.Ythdkmjbeemfbbaa.W.quiet_pick rfl rfl rfl) ?_
        refine WL.nil ?_
        refine TW.cond rfl (fun hb => by cases hb) (fun _ => ?_)
        refine TW.skip ?_
        refine TW.sreg ?_
        refine WL.op rfl rfl rfl (Go.Proofs.Ythdkmjbeemfbbaa.W.quiet_move rfl rfl) ?_
        refine O.nck rfl rfl rfl rfl rfl ?_
        refine WL.op rfl rfl rfl (Go.Proofs.Ythdkmjbeemfbbaa.W.quiet_field rfl rfl (fun W => (qa_irrun_machine_1 W _ _))) ?_
        refine WL.op rfl rfl rfl (Go.Proofs.Ythdkmjbeemfbbaa.W.quiet_field rfl rfl (fun W => (qa_api_Module_2 W _ _))) ?_
        refine WL.ld rfl rfl rfl rfl rfl ((ql_s_api_Proc _ _ _ _ _ (hm.cell (j := 6) rfl)).trans (by rw [hpa])) ?_
        have hd5 : x.d < 5000 := by have := hwf.d; omega
        refine WL.op rfl rfl rfl (Go.Proofs.Ythdkmjbeemfbbaa.W.quiet_move rfl rfl) ?_
        refine O.ixa rfl rfl rfl rfl rfl rfl (qi_s_api_Proc _ _ _ _ _ _ (by omega)) ?_
        refine WL.op rfl rfl rfl (Go.Proofs.Ythdkmjbeemfbbaa.W.quiet_assign rfl rfl) ?_
        refine WL.nil ?_
        refine TW.sreg ?_
        refine WL.op rfl rfl rfl (Go.Proofs.Ythdkmjbeemfbbaa.W.quiet_move rfl rfl) ?_
        refine WL.call (hr := (t_push (L := ⟨ov, ca, cc, F⟩) (fu := fu) hc hd5 _ ⟨hm, hr⟩)) rfl rfl rfl rfl rfl (fun W => qk_irrun_machine_push W _) ?_
        rintro e w2 ⟨L2, cb, rfl, hcb2, hdc2, hx2, ff2⟩
        refine ⟨_, rfl, ?_⟩
        have hav2 := hav.fr ff0 (fun g hg e => e.elim) |>.fr ff2 (fun g hg e => by obtain ⟨z, hz⟩ := hab g hg; exact (hz.fr ff0 id).ne hm (by decide) e)
        have hab2 : ArgB w2 av := fun g hg => by
          obtain ⟨z, hz⟩ := hab g hg
          have hz1 := hz.fr ff0 id
          exact ⟨z, hz1.fr ff2 (hz1.ne hm (by decide))⟩
        clear hm hr hav hab
        have hmw := hx2.m
        obtain ⟨am, mm, kk, hform⟩ := (hx2.r.rg x.d hdc2).1.form
        have hs2 : RegS w2 (.slice am mm kk) := hform ▸ (hx2.r.rg x.d hdc2).1
        have hge2 : ∀ g, (Value.slice am mm kk).ownBlock = some g → c.w1.heap.size ≤ g := hform ▸ (hx2.r.rg x.d hdc2).2
        obtain ⟨cb2, hcb3, hcbge, hca2⟩ := hx2.r.cb (Nat.lt_of_le_of_lt (Nat.zero_le _) hdc2)
        obtain rfl : cb = cb2 := by rw [hcb2] at hcb3; injection hcb3 with e; injection e
        have hf02 := hx2.r.f0
        have hgpn : ¬ (gp = cb ∨ (Value.slice am mm kk).ownBlock = some gp) := by
          rintro (e | e)
          · omega
          · have := hge2 gp e; omega
        have hgMn : ¬ (c.M = cb ∨ (Value.slice am mm kk).ownBlock = some c.M) := by
          rintro (e | e)
          · omega
          · have := hge2 c.M e; omega
        refine WL.op rfl rfl rfl (Go.Proofs.Ythdkmjbeemfbbaa.W.quiet_assign rfl rfl) ?_
        refine WL.nil ?_
        refine TW.sregH (fun W => Fr (fun q => q = cb ∨ (Value.slice am mm kk).ownBlock = some q) w2 W) (by kernel_rfl) ?_
        have fd : Fr (fun _ => False) w2 w2.drew := (Fr.refl _ _).drewN 1
        have HW : Fr (fun q => q = cb ∨ (Value.slice am mm kk).ownBlock = some q) w2 w2.drew := (Fr.refl _ _).drewN 1
        replace hx2 := hx2.fr0 hc fd
        have hca3 := hca2.fr fd id
        have hs3 := hs2.fr fd (fun _ _ => id)
        generalize hV : w2.drew = V1 at *
        clear hV
        refine WH.take 0 rfl (by kernel_rfl) (by kernel_rfl) (by kernel_rfl) (fun _ _ _ _ _ h => h) rfl rfl rfl HW (RH.move rfl rfl) ?_
        refine WH.take 1 rfl (by kernel_rfl) (by kernel_rfl) (by kernel_rfl) (fun _ _ _ _ _ h => h) rfl rfl rfl HW (RH.move rfl rfl) ?_
        refine WH.take 2 rfl (by kernel_rfl) (by kernel_rfl) (by kernel_rfl) (fun _ _ _ _ _ h => h) rfl rfl rfl HW (RH.nck rfl rfl) ?_
        refine WH.take 3 rfl (by kernel_rfl) (by kernel_rfl) (by kernel_rfl) (fun _ _ _ _ _ h => h) rfl rfl rfl HW (RH.field rfl rfl (fun W => qa_irrun_call_0 W _ _)) ?_
        refine WH.take 5 rfl (by kernel_rfl) (by kernel_rfl) (by kernel_rfl) (fun _ _ _ _ _ h => h) rfl rfl rfl HW (RH.move rfl rfl) ?_
        refine WH.take 6 rfl (by kernel_rfl) (by kernel_rfl) (by kernel_rfl) (fun _ _ _ _ _ h => h) rfl rfl rfl HW (RH.nck rfl rfl) ?_
        refine WH.take 7 rfl (by kernel_rfl) (by kernel_rfl) (by kernel_rfl) (fun _ _ _ _ _ h => h) rfl rfl rfl HW (RH.field rfl rfl (fun W => qa_api_Proc_3 W _ _)) ?_
        refine WH.take 8 rfl (by kernel_rfl) (by kernel_rfl) (by kernel_rfl) (fun _ _ _ _ _ h => h) rfl rfl rfl HW (RH.load rfl rfl (fun W hW => ((ql_int _ _ _ (hW.cell (hf02.cell hp3 id) hgpn)).trans (by rw [hN])))) ?_
        refine WH.take 10 rfl (by kernel_rfl) (by kernel_rfl) (by kernel_rfl) (fun _ _ _ _ _ h => h) rfl rfl rfl HW (RH.move rfl rfl) ?_
        refine WH.take 11 rfl (by kernel_rfl) (by kernel_rfl) (by kernel_rfl) (fun _ _ _ _ _ h => h) rfl rfl rfl HW (RH.move rfl rfl) ?_
        refine WH.take 12 rfl (by kernel_rfl) (by kernel_rfl) (by kernel_rfl) (fun _ _ _ _ _ h => h) rfl rfl rfl HW (RH.nck rfl rfl) ?_
        refine WH.take 13 rfl (by kernel_rfl) (by kernel_rfl) (by kernel_rfl) (fun _ _ _ _ _ h => h) rfl rfl rfl HW (RH.field rfl rfl (fun W => qa_api_Proc_5 W _ _)) ?_
        refine WH.take 14 rfl (by kernel_rfl) (by kernel_rfl) (by kernel_rfl) (fun _ _ _ _ _ h => h) rfl rfl rfl HW (RH.load rfl rfl (fun W hW => (ql_s_api_Block _ _ _ _ _ (hW.cell (hf02.cell hp5 id) hgpn)))) ?_
        refine WH.take 15 rfl (by kernel_rfl) (by kernel_rfl) (by kernel_rfl) (fun _ _ _ _ _ h => h) rfl rfl rfl HW (RH.index rfl rfl rfl (fun W => (qi0_blk _ _ _ _ _ hbl0))) ?_
        refine WH.take 16 rfl (by kernel_rfl) (by kernel_rfl) (by kernel_rfl) (fun _ _ _ _ _ h => h) rfl rfl rfl HW (RH.move rfl rfl) ?_
        refine WH.take 17 rfl (by kernel_rfl) (by kernel_rfl) (by kernel_rfl) (fun _ _ _ _ _ h => h) rfl rfl rfl HW (RH.move rfl rfl) ?_
        refine WH.one 4 (by kernel_rfl) rfl ?_ 
        refine WL.ld rfl rfl rfl rfl rfl (ql_irrun_registers _ _ _ _ _ ((hca3.cell hdc2 (by decide) (i := 0) (by omega)).trans (congrArg some hform))) ?_
        refine WL.fin HW ?_
        refine WH.one 9 (by kernel_rfl) rfl ?_ 
        refine WL.call (hr := (t_cleared _ N (by omega) _ hs3)) rfl rfl rfl rfl rfl (fun W => qk_irrun_cleared W _) ?_
        rintro e w9 ⟨v2, rfl, hreg, hf2, hvn, hs4⟩
        refine ⟨_, rfl, ?_⟩
        replace HW := HW.trans' hf2 (fun q hq e => .inr e)
        have hr4 := hx2.r.stale hc (Nat.le_refl _) hdc2 (by rw [hform]; exact hf2) (by rw [hform]; exact hs4)
        have hvb : ∀ g, v2.ownBlock = some g → c.w1.heap.size ≤ g ∧ (∀ k, k < L2.cc → k ≠ x.d → (L2.F k 0).ownBlock ≠ some g) ∧ L2.ov.ownBlock ≠ some g := fun g hg => by
          rcases hvn g hg with e | e
          · exact ⟨hge2 g e, fun k hk hkd e3 => hkd (hx2.r.ne k x.d g hk hdc2 e3 (hform ▸ e)), hx2.r.no x.d g hdc2 (hform ▸ e)⟩
          · refine ⟨Nat.le_trans hx2.r.f1.size e, fun k hk hkd e3 => ?_, fun e3 => ?_⟩
            · obtain ⟨zr, hzr⟩ := (hx2.r.rg k hk).1.typ e3
              have := hzr.lt
              omega
            · have := (Row.lt hx2.r.out g e3).2
              omega
        obtain ⟨ra, rk, rfl⟩ := hreg.form
        have hca4 : CA w9 cb L2.cc L2.F := by
          obtain ⟨_, zc, hzc, _⟩ := id hca3
          exact hca3.fr hf2 (fun e => by obtain ⟨zr, hzr⟩ := hs3.typ e; exact hzc.ne hzr (by decide) rfl)
        refine WL.fin HW ?_
        refine WH.one 18 (by kernel_rfl) rfl ?_ 
        refine O.bld rfl rfl rfl rfl rfl (qd_irrun_call_0_1_2_4_5 _ _ _ _ _ _ _ _) ?_
        refine WL.fin HW ?_
        refine WH.take 19 rfl (by kernel_rfl) (by kernel_rfl) (by kernel_rfl) (fun _ _ _ _ _ h => h) rfl rfl rfl HW (RH.nck rfl rfl) ?_
        refine WH.one 20 (by kernel_rfl) rfl ?_ 
        refine O.storeR rfl rfl rfl rfl rfl (CA.set6 hca4 hdc2 _ _ _ _ _ _ (by simp [Value.oneCell'])) ?_
        rintro w6 ⟨hf6, hca6⟩
        replace HW := HW.trans' hf6 (fun q hq e => .inl e)
        refine WL.fin HW ?_
        refine WH.done (by kernel_rfl) ?_
        have hr6 := hr4.push6 hc hcb2 hdc2 ⟨fun _ => 0, n, 0, 0, rLo x - rSz c.m n, rd⟩ (.slice ra N rk) (.pointer (some ⟨gb, ob, none⟩)) (by show RegA _ _ (rPr c.m n).rg.toNat _; rw [hN]; exact hreg) hvb ⟨gb, ob, rfl, hbk0⟩ hf6 (by first | exact hca6 | (rw [RFL]; exact hca6))
        have hm6 := hmw.fr HW hgMn
        have hgA : ∀ g, av.ownBlock = some g → ¬ (g = cb ∨ (Value.slice am mm kk).ownBlock = some g) := fun g hg => by
          obtain ⟨z, hz⟩ := hab2 g hg
          rintro (e | e)
          · obtain ⟨_, zc, hzc, _⟩ := id hca2
            exact hz.ne hzc (by decide) e
          · obtain ⟨zr, hzr⟩ := hs2.typ e
            exact hz.ne hzr (by decide) rfl
        have hav6 := hav2.fr HW hgA
        have hreg6 := hreg.fr hf6 (fun g hg e => by
          obtain ⟨zr, hzr⟩ := hreg.s.typ hg
          obtain ⟨_, zc, hzc, _⟩ := id hca4
          exact hzr.ne hzc (by decide) e)
        refine TW.reg ?_
        refine WL.op rfl rfl rfl (Go.Proofs.Ythdkmjbeemfbbaa.W.quiet_move rfl rfl) ?_
        refine O.nck rfl rfl rfl rfl rfl ?_
        refine WL.op rfl rfl rfl (Go.Proofs.Ythdkmjbeemfbbaa.W.quiet_field rfl rfl (fun W => (qa_irrun_call_0 W _ _))) ?_
        refine WL.ld rfl rfl rfl rfl rfl (ql_irrun_registers _ _ _ _ _ ((hca6.cell hdc2 (by decide) (i := 0) (by omega)).trans (congrArg some (if_pos rfl)))) ?_
        refine WL.op rfl rfl rfl (Go.Proofs.Ythdkmjbeemfbbaa.W.quiet_move rfl rfl) ?_
        refine O.copy rfl rfl rfl rfl rfl rfl (copy_args _ hreg6 hav6 hmN) ?_
        rintro v5 w5 ⟨hreg5, hf5⟩
        refine WL.end ?_
        refine O.end0 rfl ?_
        obtain ⟨FF, hFF0, hr6b⟩ : ∃ FF, FF x.d 0 = .slice ra N rk ∧ RA c w6 ⟨L2.ov, L2.ca, L2.cc, FF⟩ { x with cl := rupd x.cl x.d ⟨fun _ => 0, n, 0, 0, rLo x - rSz c.m n, rd⟩, d := x.d + 1 } := ⟨_, if_pos rfl, hr6⟩
        have efn : (fun j => if j < args.length then args.getD j 0 else 0) = fun j => args.getD j 0 := by
          funext j
          split
          · rfl
          · rw [List.getD_eq_getElem?_getD, List.getElem?_eq_none (by omega)]; rfl
        rw [efn] at hreg5
        have hr7 := hr6b.regs' hc (k := x.d) (Nat.lt_succ_self _) (f := fun j => args.getD j 0) (by show Fr (fun b => (FF x.d 0).ownBlock = some b) _ _; rw [hFF0]; exact hf5) (by show RegA w5 (FF x.d 0) (rPr c.m (rupd x.cl x.d _ x.d).n).rg.toNat _; rw [hFF0, rupd_same]; show RegA _ _ (rPr c.m n).rg.toNat _; rw [hN]; exact hreg5)
        have hm7 := hm6.fr hf5 (fun e => by have := (hvb c.M e).1; omega)
        refine ⟨⟨L2.ov, L2.ca, L2.cc, FF⟩, rfl, ?_⟩
        rw [rEnter_on hb1 hb2]
        simp only [rupd_same, rupd_rupd] at hr7
        exact ⟨hm7, hr7⟩
  · skip
    have hd0 : x.d = 0 := by have := of_decide_eq_false hb; omega
    clear hb
    have hlo : rLo x = 65536 := by unfold rLo; rw [if_pos hd0]
    refine WL.nil ?_
    refine TW.cond rfl (fun hb => by cases hb) (fun _ => ?_)
    refine TW.skip ?_
    refine TW.sreg ?_
    refine WL.op rfl rfl rfl (Go.Proofs.Ythdkmjbeemfbbaa.W.quiet_move rfl rfl) ?_
    refine WL.op rfl rfl rfl (Go.Proofs.Ythdkmjbeemfbbaa.W.quiet_move rfl rfl) ?_
    refine O.nck rfl rfl rfl rfl rfl ?_
    refine WL.op rfl rfl rfl (Go.Proofs.Ythdkmjbeemfbbaa.W.quiet_field rfl rfl (fun W => (qa_irrun_machine_7 W _ _))) ?_
    refine WL.ld rfl rfl rfl rfl rfl ((ql_s_irrun_frame _ _ _ _ _ (hm.cell (j := 13) rfl)).trans (by rw [hfa])) ?_
    refine WL.op rfl rfl rfl (Go.Proofs.Ythdkmjbeemfbbaa.W.quiet_move rfl rfl) ?_
    refine O.ixa rfl rfl rfl rfl rfl rfl (qi_s_irrun_frame _ _ _ _ _ _ (by omega)) ?_
    refine WL.op rfl rfl rfl (Go.Proofs.Ythdkmjbeemfbbaa.W.quiet_field rfl rfl (fun W => (qa_irrun_frame_1 W _ _))) ?_
    refine WL.ld rfl rfl rfl rfl rfl (ql_int _ _ _ (hr.f1.cell hfs hgfn)) ?_
    refine WL.op rfl rfl rfl (Go.Proofs.Ythdkmjbeemfbbaa.W.quiet_bin rfl rfl rfl (fun W => qb_sub_int W _ _ _ _ (by omega) (by omega))) ?_
    refine WL.op rfl rfl rfl (Go.Proofs.Ythdkmjbeemfbbaa.W.quiet_assign rfl rfl) ?_
    refine WL.nil ?_
    refine TW.seq ?_
    refine TW.sreg ?_
    refine WL.op rfl rfl rfl (Go.Proofs.Ythdkmjbeemfbbaa.W.quiet_move rfl rfl) ?_
    refine WL.op rfl rfl rfl (Go.Proofs.Ythdkmjbeemfbbaa.W.quiet_move rfl rfl) ?_
    refine O.nck rfl rfl rfl rfl rfl ?_
    refine WL.op rfl rfl rfl (Go.Proofs.Ythdkmjbeemfbbaa.W.quiet_field rfl rfl (fun W => (qa_irrun_machine_6 W _ _))) ?_
    refine WL.ld rfl rfl rfl rfl rfl (ql_int _ _ _ (hm.cell (j := 12) rfl)) ?_
    refine WL.op rfl rfl rfl (Go.Proofs.Ythdkmjbeemfbbaa.W.quiet_bin rfl rfl rfl (fun W => qb_lss_int W _ _ _ _)) ?_
    refine O.split (fun hb => ?_) (fun hb => ?_)
    · skip
      refine WL.op rfl rfl rfl (Go.Proofs.Ythdkmjbeemfbbaa.W.quiet_move rfl rfl) ?_
      refine WL.skip rfl rfl rfl ?_
      refine WL.skip rfl rfl rfl ?_
      refine WL.skip rfl rfl rfl ?_
      refine WL.skip rfl rfl rfl ?_
      refine WL.skip rfl rfl rfl ?_
      refine WL.skip rfl rfl rfl ?_
      refine WL.op rfl rfl rfl (Go.Proofs.Ythdkmjbeemfbbaa.W.quiet_pick rfl rfl rfl) ?_
      refine WL.nil ?_
      refine TW.cond rfl (fun _ => ?_) (fun hb => by cases hb)
      refine TW.sreg ?_
      refine WL.op rfl rfl rfl (Go.Proofs.Ythdkmjbeemfbbaa.W.quiet_move rfl rfl) ?_
      refine O.nck rfl rfl rfl rfl rfl ?_
      refine WL.op rfl rfl rfl (Go.Proofs.Ythdkmjbeemfbbaa.W.quiet_field rfl rfl (fun W => (qa_irrun_machine_0 W _ _))) ?_
      refine WL.op rfl rfl rfl (Go.Proofs.Ythdkmjbeemfbbaa.W.quiet_field rfl rfl (fun W => (qa_api_Outcome_3 W _ _))) ?_
      refine O.storeR rfl rfl rfl rfl rfl (qsF_api_Errno w _ 3 _ _ _ _ hm rfl) ?_
      rintro wa3 ⟨fa3, hmx⟩
      replace hr := hr.frM hc hm fa3
      clear hm
      have hm := hmx
      clear hmx
      refine WL.nil ?_
      refine TW.rt ?_
      refine Xw.thn (by simp) ?_
      refine O.retn rfl ?_
      refine ⟨⟨ov, ca, cc, F⟩, rfl, ?_⟩
      rw [rEnter_no (by rw [hlo]; exact .inl (of_decide_eq_true hb))]
      exact ⟨hm, hr.as _ rfl rfl rfl rfl⟩
    · skip
      have hb1 := of_decide_eq_false hb
      clear hb
      refine WL.op rfl rfl rfl (Go.Proofs.Ythdkmjbeemfbbaa.W.quiet_move rfl rfl) ?_
      refine WL.op rfl rfl rfl (Go.Proofs.Ythdkmjbeemfbbaa.W.quiet_move rfl rfl) ?_
      refine O.nck rfl rfl rfl rfl rfl ?_
      refine WL.op rfl rfl rfl (Go.Proofs.Ythdkmjbeemfbbaa.W.quiet_field rfl rfl (fun W => (qa_irrun_machine_8 W _ _))) ?_
      refine WL.ld rfl rfl rfl rfl rfl (ql_s_irrun_call _ _ _ _ _ (hm.cell (j := 14) rfl)) ?_
      refine O.len rfl rfl rfl rfl rfl (qn_s_irrun_call _ _ _ _) ?_
      refine WL.op rfl rfl rfl (Go.Proofs.Ythdkmjbeemfbbaa.W.quiet_bin rfl rfl rfl (fun W => qb_eql_int W _ _ _ _)) ?_
      refine O.split (fun hb => ?_) (fun hb => ?_)
      · skip
        refine WL.op rfl rfl rfl (Go.Proofs.Ythdkmjbeemfbbaa.W.quiet_pick rfl rfl rfl) ?_
        refine WL.nil ?_
        refine TW.cond rfl (fun _ => ?_) (fun hb => by cases hb)
        refine TW.sreg ?_
        refine WL.op rfl rfl rfl (Go.Proofs.Ythdkmjbeemfbbaa.W.quiet_move rfl rfl) ?_
        refine O.nck rfl rfl rfl rfl rfl ?_
        refine WL.op rfl rfl rfl (Go.Proofs.Ythdkmjbeemfbbaa.W.quiet_field rfl rfl (fun W => (qa_irrun_machine_0 W _ _))) ?_
        refine WL.op rfl rfl rfl (Go.Proofs.Ythdkmjbeemfbbaa.W.quiet_field rfl rfl (fun W => (qa_api_Outcome_3 W _ _))) ?_
        refine O.storeR rfl rfl rfl rfl rfl (qsF_api_Errno w _ 3 _ _ _ _ hm rfl) ?_
        rintro wa4 ⟨fa4, hmx⟩
        replace hr := hr.frM hc hm fa4
        clear hm
        have hm := hmx
        clear hmx
        refine WL.nil ?_
        refine TW.rt ?_
        refine Xw.thn (by simp) ?_
        refine O.retn rfl ?_
        refine ⟨⟨ov, ca, cc, F⟩, rfl, ?_⟩
        rw [rEnter_no (.inr (eq_cast (k := 5000) hb))]
        exact ⟨hm, hr.as _ rfl rfl rfl rfl⟩
      · skip
        have hb2 : ¬ x.d = 5000 := by
          have : ¬ (x.d : Int) = 5000 := by simpa using hb
          omega
        clear hb
        refine WL.op rfl rfl rfl (Go.Proofs.Ythdkmjbeemfbbaa.W.quiet_pick rfl rfl rfl) ?_
        refine WL.nil ?_
        refine TW.cond rfl (fun hb => by cases hb) (fun _ => ?_)
        refine TW.skip ?_
        refine TW.sreg ?_
        refine WL.op rfl rfl rfl (Go.Proofs.Ythdkmjbeemfbbaa.W.quiet_move rfl rfl) ?_
        refine O.nck rfl rfl rfl rfl rfl ?_
        refine WL.op rfl rfl rfl (Go.Proofs.Ythdkmjbeemfbbaa.W.quiet_field rfl rfl (fun W => (qa_irrun_machine_1 W _ _))) ?_
        refine WL.op rfl rfl rfl (Go.Proofs.Ythdkmjbeemfbbaa.W.quiet_field rfl rfl (fun W => (qa_api_Module_2 W _ _))) ?_
        refine WL.ld rfl rfl rfl rfl rfl ((ql_s_api_Proc _ _ _ _ _ (hm.cell (j := 6) rfl)).trans (by rw [hpa])) ?_
        have hd5 : x.d < 5000 := by have := hwf.d; omega
        refine WL.op rfl rfl rfl (Go.Proofs.Ythdkmjbeemfbbaa.W.quiet_move rfl rfl) ?_
        refine O.ixa rfl rfl rfl rfl rfl rfl (qi_s_api_Proc _ _ _ _ _ _ (by omega)) ?_
        refine WL.op rfl rfl rfl (Go.Proofs.Ythdkmjbeemfbbaa.W.quiet_assign rfl rfl) ?_
        refine WL.nil ?_
        refine TW.sreg ?_
        refine WL.op rfl rfl rfl (Go.Proofs.Ythdkmjbeemfbbaa.W.quiet_move rfl rfl) ?_
        refine WL.call (hr := (t_push (L := ⟨ov, ca, cc, F⟩) (fu := fu) hc hd5 _ ⟨hm, hr⟩)) rfl rfl rfl rfl rfl (fun W => qk_irrun_machine_push W _) ?_
        rintro e w2 ⟨L2, cb, rfl, hcb2, hdc2, hx2, ff2⟩
        refine ⟨_, rfl, ?_⟩
        have hav2 := hav.fr ff0 (fun g hg e => e.elim) |>.fr ff2 (fun g hg e => by obtain ⟨z, hz⟩ := hab g hg; exact (hz.fr ff0 id).ne hm (by decide) e)
        have hab2 : ArgB w2 av := fun g hg => by
          obtain ⟨z, hz⟩ := hab g hg
          have hz1 := hz.fr ff0 id
          exact ⟨z, hz1.fr ff2 (hz1.ne hm (by decide))⟩
        clear hm hr hav hab
        have hmw := hx2.m
        obtain ⟨am, mm, kk, hform⟩ := (hx2.r.rg x.d hdc2).1.form
        have hs2 : RegS w2 (.slice am mm kk) := hform ▸ (hx2.r.rg x.d hdc2).1
        have hge2 : ∀ g, (Value.slice am mm kk).ownBlock = some g → c.w1.heap.size ≤ g := hform ▸ (hx2.r.rg x.d hdc2).2
        obtain ⟨cb2, hcb3, hcbge, hca2⟩ := hx2.r.cb (Nat.lt_of_le_of_lt (Nat.zero_le _) hdc2)
        obtain rfl : cb = cb2 := by rw [hcb2] at hcb3; injection hcb3 with e; injection e
        have hf02 := hx2.r.f0
        have hgpn : ¬ (gp = cb ∨ (Value.slice am mm kk).ownBlock = some gp) := by
          rintro (e | e)
          · omega
          · have := hge2 gp e; omega
        have hgMn : ¬ (c.M = cb ∨ (Value.slice am mm kk).ownBlock = some c.M) := by
          rintro (e | e)
          · omega
          · have := hge2 c.M e; omega
        refine WL.op rfl rfl rfl (Go.Proofs.Ythdkmjbeemfbbaa.W.quiet_assign rfl rfl) ?_
        refine WL.nil ?_
        refine TW.sregH (fun W => Fr (fun q => q = cb ∨ (Value.slice am mm kk).ownBlock = some q) w2 W) (by kernel_rfl) ?_
        have fd : Fr (fun _ => False) w2 w2.drew := (Fr.refl _ _).drewN 1
        have HW : Fr (fun q => q = cb ∨ (Value.slice am mm kk).ownBlock = some q) w2 w2.drew := (Fr.refl _ _).drewN 1
        replace hx2 := hx2.fr0 hc fd
        have hca3 := hca2.fr fd id
        have hs3 := hs2.fr fd (fun _ _ => id)
        generalize hV : w2.drew = V2 at *
        clear hV
        refine WH.take 0 rfl (by kernel_rfl) (by kernel_rfl) (by kernel_rfl) (fun _ _ _ _ _ h => h) rfl rfl rfl HW (RH.move rfl rfl) ?_
        refine WH.take 1 rfl (by kernel_rfl) (by kernel_rfl) (by kernel_rfl) (fun _ _ _ _ _ h => h) rfl rfl rfl HW (RH.move rfl rfl) ?_
        refine WH.take 2 rfl (by kernel_rfl) (by kernel_rfl) (by kernel_rfl) (fun _ _ _ _ _ h => h) rfl rfl rfl HW (RH.nck rfl rfl) ?_
        refine WH.take 3 rfl (by kernel_rfl) (by kernel_rfl) (by kernel_rfl) (fun _ _ _ _ _ h => h) rfl rfl rfl HW (RH.field rfl rfl (fun W => qa_irrun_call_0 W _ _)) ?_
        refine WH.take 5 rfl (by kernel_rfl) (by kernel_rfl) (by kernel_rfl) (fun _ _ _ _ _ h => h) rfl rfl rfl HW (RH.move rfl rfl) ?_
        refine WH.take 6 rfl (by kernel_rfl) (by kernel_rfl) (by kernel_rfl) (fun _ _ _ _ _ h => h) rfl rfl rfl HW (RH.nck rfl rfl) ?_
        refine WH.take 7 rfl (by kernel_rfl) (by kernel_rfl) (by kernel_rfl) (fun _ _ _ _ _ h => h) rfl rfl rfl HW (RH.field rfl rfl (fun W => qa_api_Proc_3 W _ _)) ?_
        refine WH.take 8 rfl (by kernel_rfl) (by kernel_rfl) (by kernel_rfl) (fun _ _ _ _ _ h => h) rfl rfl rfl HW (RH.load rfl rfl (fun W hW => ((ql_int _ _ _ (hW.cell (hf02.cell hp3 id) hgpn)).trans (by rw [hN])))) ?_
        refine WH.take 10 rfl (by kernel_rfl) (by kernel_rfl) (by kernel_rfl) (fun _ _ _ _ _ h => h) rfl rfl rfl HW (RH.move rfl rfl) ?_
        refine WH.take 11 rfl (by kernel_rfl) (by kernel_rfl) (by kernel_rfl) (fun _ _ _ _ _ h => h) rfl rfl rfl HW (RH.move rfl rfl) ?_
        refine WH.take 12 rfl (by kernel_rfl) (by kernel_rfl) (by kernel_rfl) (fun _ _ _ _ _ h => h) rfl rfl rfl HW (RH.nck rfl rfl) ?_
        refine WH.take 13 rfl (by kernel_rfl) (by kernel_rfl) (by kernel_rfl) (fun _ _ _ _ _ h => h) rfl rfl rfl HW (RH.field rfl rfl (fun W => qa_api_Proc_5 W _ _)) ?_
        refine WH.take 14 rfl (by kernel_rfl) (by kernel_rfl) (by kernel_rfl) (fun _ _ _ _ _ h => h) rfl rfl rfl HW (RH.load rfl rfl (fun W hW => (ql_s_api_Block _ _ _ _ _ (hW.cell (hf02.cell hp5 id) hgpn)))) ?_
        refine WH.take 15 rfl (by kernel_rfl) (by kernel_rfl) (by kernel_rfl) (fun _ _ _ _ _ h => h) rfl rfl rfl HW (RH.index rfl rfl rfl (fun W => (qi0_blk _ _ _ _ _ hbl0))) ?_
        refine WH.take 16 rfl (by kernel_rfl) (by kernel_rfl) (by kernel_rfl) (fun _ _ _ _ _ h => h) rfl rfl rfl HW (RH.move rfl rfl) ?_
        refine WH.take 17 rfl (by kernel_rfl) (by kernel_rfl) (by kernel_rfl) (fun _ _ _ _ _ h => h) rfl rfl rfl HW (RH.move rfl rfl) ?_
        refine WH.one 4 (by kernel_rfl) rfl ?_ 
        refine WL.ld rfl rfl rfl rfl rfl (ql_irrun_registers _ _ _ _ _ ((hca3.cell hdc2 (by decide) (i := 0) (by omega)).trans (congrArg some hform))) ?_
        refine WL.fin HW ?_
        refine WH.one 9 (by kernel_rfl) rfl ?_ 
        refine WL.call (hr := (t_cleared _ N (by omega) _ hs3)) rfl rfl rfl rfl rfl (fun W => qk_irrun_cleared W _) ?_
        rintro e w9 ⟨v2, rfl, hreg, hf2, hvn, hs4⟩
        refine ⟨_, rfl, ?_⟩
        replace HW := HW.trans' hf2 (fun q hq e => .inr e)
        have hr4 := hx2.r.stale hc (Nat.le_refl _) hdc2 (by rw [hform]; exact hf2) (by rw [hform]; exact hs4)
        have hvb : ∀ g, v2.ownBlock = some g → c.w1.heap.size ≤ g ∧ (∀ k, k < L2.cc → k ≠ x.d → (L2.F k 0).ownBlock ≠ some g) ∧ L2.ov.ownBlock ≠ some g := fun g hg => by
          rcases hvn g hg with e | e
          · exact ⟨hge2 g e, fun k hk hkd e3 => hkd (hx2.r.ne k x.d g hk hdc2 e3 (hform ▸ e)), hx2.r.no x.d g hdc2 (hform ▸ e)⟩
          · refine ⟨Nat.le_trans hx2.r.f1.size e, fun k hk hkd e3 => ?_, fun e3 => ?_⟩
            · obtain ⟨zr, hzr⟩ := (hx2.r.rg k hk).1.typ e3
              have := hzr.lt
              omega
            · have := (Row.lt hx2.r.out g e3).2
              omega
        obtain ⟨ra, rk, rfl⟩ := hreg.form
        have hca4 : CA w9 cb L2.cc L2.F := by
          obtain ⟨_, zc, hzc, _⟩ := id hca3
          exact hca3.fr hf2 (fun e => by obtain ⟨zr, hzr⟩ := hs3.typ e; exact hzc.ne hzr (by decide) rfl)
        refine WL.fin HW ?_
        refine WH.one 18 (by kernel_rfl) rfl ?_ 
        refine O.bld rfl rfl rfl rfl rfl (qd_irrun_call_0_1_2_4_5 _ _ _ _ _ _ _ _) ?_
        refine WL.fin HW ?_
        refine WH.take 19 rfl (by kernel_rfl) (by kernel_rfl) (by kernel_rfl) (fun _ _ _ _ _ h => h) rfl rfl rfl HW (RH.nck rfl rfl) ?_
        refine WH.one 20 (by kernel_rfl) rfl ?_ 
        refine O.storeR rfl rfl rfl rfl rfl (CA.set6 hca4 hdc2 _ _ _ _ _ _ (by simp [Value.oneCell'])) ?_
        rintro w6 ⟨hf6, hca6⟩
        replace HW := HW.trans' hf6 (fun q hq e => .inl e)
        refine WL.fin HW ?_
        refine WH.done (by kernel_rfl) ?_
        have hr6 := hr4.push6 hc hcb2 hdc2 ⟨fun _ => 0, n, 0, 0, rLo x - rSz c.m n, rd⟩ (.slice ra N rk) (.pointer (some ⟨gb, ob, none⟩)) (by show RegA _ _ (rPr c.m n).rg.toNat _; rw [hN]; exact hreg) hvb ⟨gb, ob, rfl, hbk0⟩ hf6 (by first | exact hca6 | (rw [hlo]; exact hca6))
        have hm6 := hmw.fr HW hgMn
        have hgA : ∀ g, av.ownBlock = some g → ¬ (g = cb ∨ (Value.slice am mm kk).ownBlock = some g) := fun g hg => by
          obtain ⟨z, hz⟩ := hab2 g hg
          rintro (e | e)
          · obtain ⟨_, zc, hzc, _⟩ := id hca2
            exact hz.ne hzc (by decide) e
          · obtain ⟨zr, hzr⟩ := hs2.typ e
            exact hz.ne hzr (by decide) rfl
        have hav6 := hav2.fr HW hgA
        have hreg6 := hreg.fr hf6 (fun g hg e => by
          obtain ⟨zr, hzr⟩ := hreg.s.typ hg
          obtain ⟨_, zc, hzc, _⟩ := id hca4
          exact hzr.ne hzc (by decide) e)
        refine TW.reg ?_
        refine WL.op rfl rfl rfl (Go.Proofs.Ythdkmjbeemfbbaa.W.quiet_move rfl rfl) ?_
        refine O.nck rfl rfl rfl rfl rfl ?_
        refine WL.op rfl rfl rfl (Go.Proofs.Ythdkmjbeemfbbaa.W.quiet_field rfl rfl (fun W => (qa_irrun_call_0 W _ _))) ?_
        refine WL.ld rfl rfl rfl rfl rfl (ql_irrun_registers _ _ _ _ _ ((hca6.cell hdc2 (by decide) (i := 0) (by omega)).trans (congrArg some (if_pos rfl)))) ?_
        refine WL.op rfl rfl rfl (Go.Proofs.Ythdkmjbeemfbbaa.W.quiet_move rfl rfl) ?_
        refine O.copy rfl rfl rfl rfl rfl rfl (copy_args _ hreg6 hav6 hmN) ?_
        rintro v5 w5 ⟨hreg5, hf5⟩
        refine WL.end ?_
        refine O.end0 rfl ?_
        obtain ⟨FF, hFF0, hr6b⟩ : ∃ FF, FF x.d 0 = .slice ra N rk ∧ RA c w6 ⟨L2.ov, L2.ca, L2.cc, FF⟩ { x with cl := rupd x.cl x.d ⟨fun _ => 0, n, 0, 0, rLo x - rSz c.m n, rd⟩, d := x.d + 1 } := ⟨_, if_pos rfl, hr6⟩
        have efn : (fun j => if j < args.length then args.getD j 0 else 0) = fun j => args.getD j 0 := by
          funext j
          split
          · rfl
          · rw [List.getD_eq_getElem?_getD, List.getElem?_eq_none (by omega)]; rfl
        rw [efn] at hreg5
        have hr7 := hr6b.regs' hc (k := x.d) (Nat.lt_succ_self _) (f := fun j => args.getD j 0) (by show Fr (fun b => (FF x.d 0).ownBlock = some b) _ _; rw [hFF0]; exact hf5) (by show RegA w5 (FF x.d 0) (rPr c.m (rupd x.cl x.d _ x.d).n).rg.toNat _; rw [hFF0, rupd_same]; show RegA _ _ (rPr c.m n).rg.toNat _; rw [hN]; exact hreg5)
        have hm7 := hm6.fr hf5 (fun e => by have := (hvb c.M e).1; omega)
        refine ⟨⟨L2.ov, L2.ca, L2.cc, FF⟩, rfl, ?_⟩
        rw [rEnter_on (by rw [hlo]; exact hb1) hb2]
        simp only [rupd_same, rupd_rupd] at hr7
        exact ⟨hm7, hr7⟩
theorem ql_s_int (w : World) (p : Option Addr) (k l : Nat) (d : Addr) (h : w.cell? d = some (.slice p k l)) : (Instr.loadAt 46 (.pointer (some d))).run Try.prog w = .ok (.slice p k l) w := by simp [go_sem, h]
theorem qi_s_int (w : World) (b o n c j : Nat) (hj : j < n) : (Instr.indexAt 46 (.slice (some ⟨b, o, none⟩) n c) (.int .i64 (j : Int))).run Try.prog w = .ok (.pointer (some ⟨b, o + j, none⟩)) w := by
  have h : (j : Int) < (n : Int) := by omega
  simp [go_sem, h, hj]
theorem qzR_6_uint32 (w : World) : ∃ w', (Instr.alloc 96 true (.tuple #[])).run Try.prog w = .ok (.pointer (some ⟨w.heap.size, 0, none⟩)) w' ∧ (Fr (fun _ => False) w w' ∧ Bx w' w.heap.size #[.int .u32 0, .int .u32 0, .int .u32 0, .int .u32 0, .int .u32 0, .int .u32 0] 96) := ⟨w.alloc (.cells #[.int .u32 0, .int .u32 0, .int .u32 0, .int .u32 0, .int .u32 0, .int .u32 0] 96), by simp [go_sem], fr_al (Fr.refl _ _) _, Bx.new _ _ _⟩
theorem qa_api_Ins_9 (w : World) (b o : Nat) : (Instr.fieldAt 48 (.pointer (some ⟨b, o, none⟩)) 9).run Try.prog w = .ok (.pointer (some ⟨b, o + 9, none⟩)) w := by simp [go_sem]
theorem qn_s_int (w : World) (a : Option Addr) (k l : Nat) : (Builtin.len_ #[46] 3 #[.slice a k l]).run Try.prog w = .ok (.int .i64 k) w := by simp [go_sem]
theorem qa_api_Ins_5 (w : World) (b o : Nat) : (Instr.fieldAt 48 (.pointer (some ⟨b, o, none⟩)) 5).run Try.prog w = .ok (.pointer (some ⟨b, o + 5, none⟩)) w := by simp [go_sem]
theorem qa_api_Ins_1 (w : World) (b o : Nat) : (Instr.fieldAt 48 (.pointer (some ⟨b, o, none⟩)) 1).run Try.prog w = .ok (.pointer (some ⟨b, o + 1, none⟩)) w := by simp [go_sem]
theorem qk_irrun_machine_enter (w : World) (vs : Array Value) : (callFunc 13 vs).run Try.prog w = .ok (.enter 13 vs) w := by simp [go_sem]
theorem RAx {c : RC} {W : World} (h : ∃ L x, RA c W L x) : Fr (fun _ => False) c.w0 W := by obtain ⟨L, x, h⟩ := h; exact h.f0
theorem ix_a6 (w : World) (b j : Nat) (hj : j < 6) : (Instr.indexAt 96 (.pointer (some ⟨b, 0, none⟩)) (.int .i64 (j : Int))).run Try.prog w = .ok (.pointer (some ⟨b, 0 + j, none⟩)) w := by
  have h : (j : Int) < 6 := by omega
  simp [go_sem, h, hj]
theorem sl_a6 (w : World) (b n : Nat) (hn : n ≤ 6) : (Instr.sliceAt 96 (.pointer (some ⟨b, 0, none⟩)) none (some (.int .i64 (n : Int))) none).run Try.prog w = .ok (.slice (some ⟨b, 0, none⟩) n 6) w := by
  have h : (n : Int) ≤ 6 := by omega
  simp [go_sem, h, hn, sliced, Addr.add, Instr.sliceAt, Instr.sliceBounds]
def rArgs (x : RSt) (lv : Nat) (i : Inn) : List Int := i.args.map fun r => (x.cl lv).rg r.toNat
theorem rArgs_get {x : RSt} {lv j : Nat} {i : Inn} (hj : j < i.args.length) : (rArgs x lv i).getD j 0 = (x.cl lv).rg (i.args.getD j 0).toNat := by
  simp [rArgs, List.getD_eq_getElem?_getD, hj]
set_option maxRecDepth 100000 in
theorem t_call {c : RC} {L : RL} {x : RSt} {fu : Int} {s lv cb gi oi n : Nat} (hc : c.ok) (hd2 : x.d = lv + 1) (hcb : L.ca = some ⟨cb, 0, none⟩) (i : Inn) (hi : InsAt c.w0 gi oi i) (hn5 : i.x5 = (n : Int)) (hn : n < c.m.pr.length) (hwf : RWf c.m s x) (hal6 : i.args.length ≤ 6) (hal : i.args.length ≤ (rPr c.m n).rg.toNat) (hreg : ArgP (rPr c.m (x.cl lv).n).rg i.args) (w : World) (h : RM c w L x fu (lv + 1)) : Calls Try.prog 35 #[.pointer (some ⟨c.M, 0, none⟩), .pointer (some ⟨cb, 0 + lv * 6, none⟩), .pointer (some ⟨gi, oi, none⟩)] w fun e w' => ∃ L', e = .returned (.tuple #[]) ∧ RM c w' L' (rEnter c.m x n (rArgs x lv i) i.x1) fu (rEnter c.m x n (rArgs x lv i) i.x1).d := by
  have ff := Fr.refl (fun _ => False) w
  obtain ⟨⟨ga, ac, hi9, hia⟩, _⟩ := id hi.2.2.2.2.2.2.2.2.2
  refine calls_tw Try.func35 rfl rfl (Nat.le_of_ble_eq_true rfl) ?_
  refine TW.sreg ?_
  refine O.allocR rfl rfl rfl rfl (qzR_6_uint32 w) ?_
  rintro wa1 ⟨fa1, bx1⟩
  replace ff := ff.trans fa1
  refine WL.nil ?_
  refine TW.seq ?_
  refine TW.sreg ?_
  refine WL.op rfl rfl rfl (Go.Proofs.Ythdkmjbeemfbbaa.W.quiet_move rfl rfl) ?_
  refine O.nck rfl rfl rfl rfl rfl ?_
  refine WL.op rfl rfl rfl (Go.Proofs.Ythdkmjbeemfbbaa.W.quiet_field rfl rfl (fun W => (qa_api_Ins_9 W _ _))) ?_
  refine WL.ld rfl rfl rfl rfl rfl (ql_s_int _ _ _ _ _ (h.r.f0.cell hi9 id |> fun z => fa1.cell z id)) ?_
  refine O.len rfl rfl rfl rfl rfl (qn_s_int _ _ _ _) ?_
  refine WL.op rfl rfl rfl (Go.Proofs.Ythdkmjbeemfbbaa.W.quiet_move rfl rfl) ?_
  refine WL.nil ?_
  refine TW.block ?_
  refine O.loopG (n := i.args.length) (fun a _ => (intOf (a.tmps.getD 14 undef)).toNat) (fun j a W => ∃ (z : Array Value), Kn Try.f35.ntmps [(0, .pointer (some ⟨c.M, 0, none⟩)), (1, .pointer (some ⟨cb, 0 + lv * 6, none⟩)), (2, .pointer (some ⟨gi, oi, none⟩)), (6, .pointer (some ⟨w.heap.size, 0, none⟩)), (12, .slice ga i.args.length ac), (13, .int .i64 (i.args.length : Int)), (14, .int .i64 (j : Int))] a ∧ Fr (fun _ => False) w W ∧ Bx W w.heap.size z 96 ∧ z.size = 6 ∧ ∀ q, q < j → z[q]? = some (.int .u32 ((rArgs x lv i).getD q 0))) (fun j a W h => by obtain ⟨_, h⟩ := h; exact O.slotv h.1 rfl) 0 (Nat.zero_le _) (fun a k => ⟨_, (by (repeat (refine Kn.cons k rfl ?_)); exact k.base), ff, bx1, rfl, fun q hq => absurd hq (Nat.not_lt_zero _)⟩) ?_
  rintro j a wl hj ⟨z, k1, ff, bx1, hz6, hzq⟩
  refine TW.app (s := [(0, .pointer (some ⟨c.M, 0, none⟩)), (1, .pointer (some ⟨cb, 0 + lv * 6, none⟩)), (2, .pointer (some ⟨gi, oi, none⟩)), (6, .pointer (some ⟨w.heap.size, 0, none⟩)), (12, .slice ga i.args.length ac), (13, .int .i64 (i.args.length : Int)), (14, .int .i64 (j : Int))]) ?_ k1
  refine TW.sreg ?_
  refine WL.op rfl rfl rfl (Go.Proofs.Ythdkmjbeemfbbaa.W.quiet_bin rfl rfl rfl (fun W => qb_lss_int W _ _ _ _)) ?_
  refine O.split (fun hb => ?_) (fun hb => ?_)
  · skip
    have hj2 : j < i.args.length := by have := of_decide_eq_true hb; omega
    obtain ⟨g9, o9, hga, hcell⟩ := hia j hj2
    have hx := h.fr0 hc ff
    obtain ⟨r, hr0, hrr⟩ : ∃ r : Nat, i.args.getD j 0 = (r : Int) ∧ r < (rPr c.m (x.cl lv).n).rg.toNat := by
      have := hreg j hj2
      unfold RgP at this
      exact ⟨(i.args.getD j 0).toNat, by omega, by omega⟩
    obtain ⟨g3, q3, e3, hg3, hc3, _⟩ := RM.putR hc hx (show lv < x.d by omega) hrr
    have ha := hx.r.at_ hc hcb (show lv < x.d by omega)
    have hc9 := hx.r.f0.cell hcell id
    subst hga
    refine WL.nil ?_
    refine TW.seq ?_
    refine TW.cond rfl (fun _ => ?_) (fun hb => by cases hb)
    refine TW.skip ?_
    refine TW.seq ?_
    refine TW.block ?_
    refine TW.sreg ?_
    refine WL.op rfl rfl rfl (Go.Proofs.Ythdkmjbeemfbbaa.W.quiet_move rfl rfl) ?_
    refine O.ixa rfl rfl rfl rfl rfl rfl (qi_s_int _ _ _ _ _ _ (by omega)) ?_
    refine WL.ld rfl rfl rfl rfl rfl ((ql_int _ _ _ hc9).trans (by rw [hr0])) ?_
    refine WL.op rfl rfl rfl (Go.Proofs.Ythdkmjbeemfbbaa.W.quiet_assign rfl rfl) ?_
    refine WL.op rfl rfl rfl (Go.Proofs.Ythdkmjbeemfbbaa.W.quiet_assign rfl rfl) ?_
    refine WL.nil ?_
    refine TW.reg ?_
    refine WL.op rfl rfl rfl (Go.Proofs.Ythdkmjbeemfbbaa.W.quiet_move rfl rfl) ?_
    refine WL.op rfl rfl rfl (Go.Proofs.Ythdkmjbeemfbbaa.W.quiet_move rfl rfl) ?_
    refine O.nck rfl rfl rfl rfl rfl ?_
    refine WL.op rfl rfl rfl (Go.Proofs.Ythdkmjbeemfbbaa.W.quiet_field rfl rfl (fun W => (qa_irrun_call_0 W _ _))) ?_
    refine WL.ld rfl rfl rfl rfl rfl (ql_irrun_registers _ _ _ _ _ (ha.c0.trans (congrArg some e3))) ?_
    refine WL.op rfl rfl rfl (Go.Proofs.Ythdkmjbeemfbbaa.W.quiet_move rfl rfl) ?_
    refine O.ixa rfl rfl rfl rfl rfl rfl (qi_irrun_registers _ _ _ _ _ _ (by omega)) ?_
    refine WL.ld rfl rfl rfl rfl rfl (ql_uint32 _ _ _ hc3) ?_
    refine O.ixa rfl rfl rfl rfl rfl rfl (ix_a6 _ _ _ (by omega)) ?_
    refine O.storeR rfl rfl rfl rfl rfl (qsF_uint32 _ _ _ _ _ _ _ bx1 (Array.getElem?_eq_getElem (by omega))) ?_
    rintro w8 ⟨hf8, hb8⟩
    refine WL.end ?_
    refine Xw.nblk ?_
    refine Xw.nrm ?_
    refine TW.reg ?_
    refine WL.op rfl rfl rfl (Go.Proofs.Ythdkmjbeemfbbaa.W.quiet_bin rfl rfl rfl (fun W => qb_add_int W _ _ _ _ (by omega) (by omega))) ?_
    refine WL.op rfl rfl rfl (Go.Proofs.Ythdkmjbeemfbbaa.W.quiet_move rfl rfl) ?_
    refine WL.end ?_
    refine Xw.any (fun a k => ?_)
    refine ⟨j + 1, by omega, by omega, z.setIfInBounds (0 + j) (.int .u32 ((x.cl lv).rg r)), by (repeat (refine Kn.cons k rfl ?_)); exact k.base, ff.trans' hf8 (fun q hq e => by omega), hb8, by simp [hz6], fun q hq => ?_⟩
    rw [Array.getElem?_setIfInBounds]
    by_cases e : 0 + j = q
    · rw [if_pos e, if_pos (by omega), ← e, Nat.zero_add, rArgs_get hj2, hr0]; rfl
    · rw [if_neg e]; exact hzq q (by omega)
  · skip
    have hje : j = i.args.length := by have := of_decide_eq_false hb; omega
    subst hje
    have hx := h.fr0 hc ff
    have hrl : (rArgs x lv i).length = i.args.length := by simp [rArgs]
    have hav : ArgV wl (.slice (some ⟨w.heap.size, 0, none⟩) i.args.length 6) (rArgs x lv i).length (fun j => (rArgs x lv i).getD j 0) := by
      rw [hrl]
      exact .inr ⟨_, 6, rfl, fun q hq => bx1.cell (hzq q hq)⟩
    have hab : ArgB wl (.slice (some ⟨w.heap.size, 0, none⟩) i.args.length 6) := fun g hg => by
      injection hg with hg
      subst hg
      exact ⟨z, bx1⟩
    refine WL.nil ?_
    refine TW.seq ?_
    refine TW.cond rfl (fun hb => by cases hb) (fun _ => ?_)
    refine TW.exit ?_
    refine Xw.thn (by simp) ?_
    refine Xw.thn (by simp) ?_
    refine Xw.hit ?_
    refine Xw.nrm ?_
    refine TW.regH (fun W => ∃ L x, RA c W L x) (by kernel_rfl) ?_
    have fd : Fr (fun _ => False) wl wl.drew := (Fr.refl _ _).drewN 1
    replace ff := ff.trans fd
    replace bx1 := bx1.fr fd id
    have HW : (fun W => ∃ L x, RA c W L x) wl.drew := ⟨_, _, (hx.fr0 hc fd).r⟩
    have hxV := hx.fr0 hc fd
    have havV := hav.fr fd (fun g hg e => e.elim)
    have habV : ArgB wl.drew (.slice (some ⟨w.heap.size, 0, none⟩) i.args.length 6) := fun g hg => (hab g hg).elim fun z hz => ⟨z, hz.fr fd id⟩
    generalize hV : wl.drew = V1 at *
    clear hV
    refine WH.take 0 rfl (by kernel_rfl) (by kernel_rfl) (by kernel_rfl) (fun _ _ _ _ _ h => h) rfl rfl rfl HW (RH.move rfl rfl) ?_
    refine WH.take 1 rfl (by kernel_rfl) (by kernel_rfl) (by kernel_rfl) (fun _ _ _ _ _ h => h) rfl rfl rfl HW (RH.move rfl rfl) ?_
    refine WH.take 2 rfl (by kernel_rfl) (by kernel_rfl) (by kernel_rfl) (fun _ _ _ _ _ h => h) rfl rfl rfl HW (RH.nck rfl rfl) ?_
    refine WH.take 3 rfl (by kernel_rfl) (by kernel_rfl) (by kernel_rfl) (fun _ _ _ _ _ h => h) rfl rfl rfl HW (RH.field rfl rfl (fun W => qa_api_Ins_5 W _ _)) ?_
    refine WH.take 4 rfl (by kernel_rfl) (by kernel_rfl) (by kernel_rfl) (fun _ _ _ _ _ h => h) rfl rfl rfl HW (RH.load rfl rfl (fun W hW => ((ql_int _ _ _ ((RAx hW).cell hi.2.2.2.2.2.1 id)).trans (by rw [hn5])))) ?_
    refine WH.take 5 rfl (by kernel_rfl) (by kernel_rfl) (by kernel_rfl) (fun _ _ _ _ _ h => h) rfl rfl rfl HW (RH.move rfl rfl) ?_
    refine WH.take 6 rfl (by kernel_rfl) (by kernel_rfl) (by kernel_rfl) (fun _ _ _ _ _ h => h) rfl rfl rfl HW (RH.nck rfl rfl) ?_
    refine WH.take 7 rfl (by kernel_rfl) (by kernel_rfl) (by kernel_rfl) (fun _ _ _ _ _ h => h) rfl rfl rfl HW (RH.field rfl rfl (fun W => qa_api_Ins_9 W _ _)) ?_
    refine WH.take 8 rfl (by kernel_rfl) (by kernel_rfl) (by kernel_rfl) (fun _ _ _ _ _ h => h) rfl rfl rfl HW (RH.load rfl rfl (fun W hW => (ql_s_int _ _ _ _ _ ((RAx hW).cell hi9 id)))) ?_
    refine WH.take 9 rfl (by kernel_rfl) (by kernel_rfl) (by kernel_rfl) (fun _ _ _ _ _ h => h) rfl rfl rfl HW (RH.len rfl rfl (fun W => qn_s_int _ _ _ _)) ?_
    refine WH.take 10 rfl (by kernel_rfl) (by kernel_rfl) (by kernel_rfl) (fun _ _ _ _ _ h => h) rfl rfl rfl HW (RH.sl2 rfl rfl rfl (fun W hW => (sl_a6 _ _ _ hal6))) ?_
    refine WH.take 11 rfl (by kernel_rfl) (by kernel_rfl) (by kernel_rfl) (fun _ _ _ _ _ h => h) rfl rfl rfl HW (RH.move rfl rfl) ?_
    refine WH.take 12 rfl (by kernel_rfl) (by kernel_rfl) (by kernel_rfl) (fun _ _ _ _ _ h => h) rfl rfl rfl HW (RH.nck rfl rfl) ?_
    refine WH.take 13 rfl (by kernel_rfl) (by kernel_rfl) (by kernel_rfl) (fun _ _ _ _ _ h => h) rfl rfl rfl HW (RH.field rfl rfl (fun W => qa_api_Ins_1 W _ _)) ?_
    refine WH.take 14 rfl (by kernel_rfl) (by kernel_rfl) (by kernel_rfl) (fun _ _ _ _ _ h => h) rfl rfl rfl HW (RH.load rfl rfl (fun W hW => (ql_int _ _ _ ((RAx hW).cell hi.2.1 id)))) ?_
    refine WH.one 15 (by kernel_rfl) rfl ?_ 
    refine WL.call (hr := (t_enter (n := n) hc hn hwf (rArgs x lv i) (by rw [hrl]; exact hal) i.x1 (.slice (some ⟨w.heap.size, 0, none⟩) i.args.length 6) _ havV habV (hd2 ▸ hxV))) rfl rfl rfl rfl rfl (fun W => qk_irrun_machine_enter W _) ?_
    rintro e w9 ⟨L2, rfl, hx2⟩
    refine ⟨_, rfl, ?_⟩
    have HW : ∃ L x, RA c w9 L x := ⟨_, _, hx2.r⟩
    refine WL.fin HW ?_
    refine WH.end (by kernel_rfl) ?_
    refine O.end0 rfl ?_
    exact ⟨L2, rfl, hx2⟩
end Go.Proofs.Ythdkmjbeemfbbaa
