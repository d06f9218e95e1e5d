/-
  Runs (layer 14): an instruction: loads and stores, addresses.
-/
import Derived.Test.YthdkmjbeemfbbaaQRnN
namespace Go.Proofs.Ythdkmjbeemfbbaa
open Go.RowKit
set_option linter.unusedVariables false
set_option linter.unusedSimpArgs false
set_option linter.unnecessarySimpa false
theorem qk_irrun_machine_bytes (w : World) (vs : Array Value) : (callFunc 31 vs).run Try.prog w = .ok (.enter 31 vs) w := by simp [go_sem]
theorem qk_irrun_number (w : World) (vs : Array Value) : (callFunc 32 vs).run Try.prog w = .ok (.enter 32 vs) w := by simp [go_sem]
theorem qk_irrun_put (w : World) (vs : Array Value) : (callFunc 33 vs).run Try.prog w = .ok (.enter 33 vs) w := by simp [go_sem]
theorem qa_irrun_frame_0 (w : World) (b o : Nat) : (Instr.fieldAt 59 (.pointer (some ⟨b, o, none⟩)) 0).run Try.prog w = .ok (.pointer (some ⟨b, o, none⟩)) w := by simp [go_sem]
theorem qk_irrun_address (w : World) (vs : Array Value) : (callFunc 34 vs).run Try.prog w = .ok (.enter 34 vs) w := by simp [go_sem]
theorem qa_irrun_machine_5 (w : World) (b o : Nat) : (Instr.fieldAt 55 (.pointer (some ⟨b, o, none⟩)) 5).run Try.prog w = .ok (.pointer (some ⟨b, o + 11, none⟩)) w := by simp [go_sem]
set_option maxRecDepth 100000 in
theorem t_ex5 {c : RC} {L : RL} {x : RSt} {fu : Int} {s lv cb gi oi : Nat} (hc : c.ok) (hd2 : x.d = lv + 1) (hcb : L.ca = some ⟨cb, 0, none⟩) (i : Inn) (hi : InsAt c.w0 gi oi i) (hiM : InsM c.m (rPr c.m (x.cl lv).n) i) (hu : U32 i.u) (hwf : RWf c.m s x) (hs : s ≤ 100000) (h0 : i.x0 = 5) (w : World) (h : RM c w L x fu x.d) : Calls Try.prog 20 #[.pointer (some ⟨c.M, 0, none⟩), .pointer (some ⟨cb, 0 + lv * 6, none⟩), .pointer (some ⟨gi, oi, none⟩)] w fun e w' => ∃ L', e = .returned (.tuple #[]) ∧ RM c w' L' (rExec c.m c.inp x i) fu (rExec c.m c.inp x i).d := by
  have hk : lv < x.d := by omega
  have hx := h
  have ha := h.r.at_ hc hcb hk
  obtain ⟨ra, rk, eF⟩ := (h.r.top lv hk).1.form
  obtain ⟨p1, p2, pO, pG, pP, pZ, pD, pDn, pDc, pDv, pA, pAn, pB, pBn, pArg, pArn, pL, pF3, pF4, pF0, pU, pOff, pOffn, pSz, pSzn⟩ := id hiM
  have hw0 := hwf.cl lv hk
  obtain ⟨r1, e1, hr1⟩ := RgP.nat (pD (by omega))
  obtain ⟨r2, e2, hr2⟩ := RgP.nat (pA (by omega))
  obtain ⟨g, rfl, hg, hcg⟩ := RM.rg hc h hk eF hr1
  have hcbg := hcg cb hcb
  have hm1 := hc.m1
  have hb1 := hc.b1
  have hw01 := hc.f01.size
  obtain ⟨n, hn, hn0, hn4⟩ : ∃ n : Nat, i.x7 = (n : Int) ∧ 0 < n ∧ n ≤ 4 := by
    rcases pSz (by omega) with q | q
    · exact ⟨1, q, by decide, by decide⟩
    · exact ⟨4, q, by decide, by decide⟩
  have hat0 : 0 ≤ rAt ((x.cl lv).rg r2) i.x6 ∧ rAt ((x.cl lv).rg r2) i.x6 < 4294967296 := by unfold rAt; omega
  obtain ⟨p, hp⟩ : ∃ p : Nat, rAt ((x.cl lv).rg r2) i.x6 = (p : Int) := ⟨(rAt ((x.cl lv).rg r2) i.x6).toNat, by omega⟩
  have hp2 : p < 4294967296 := by omega
  have hM : rMem x i = (if rBad (rAt ((x.cl lv).rg r2) i.x6) i.x7 then { x with e := 12 } else if i.x0 = 5 then rSet x i.x1 (rNum x.me p n) else { x with me := rPut x.me p ((x.cl lv).rg i.x3.toNat) n }) := by
    unfold rMem
    rw [rTop_k hd2, e2, Int.toNat_natCast, hp, hn]
    rfl
  refine calls_tw Try.func20 rfl rfl (Nat.le_of_ble_eq_true rfl) ?_
  refine TW.sreg ?_
  refine WL.op rfl rfl rfl (Go.Proofs.Ythdkmjbeemfbbaa.W.quiet_move rfl rfl) ?_
  refine O.nck rfl rfl rfl rfl rfl ?_
  refine WL.op rfl rfl rfl (Go.Proofs.Ythdkmjbeemfbbaa.W.quiet_field rfl rfl (fun W => (qa_irrun_call_0 W _ _))) ?_
  refine WL.ld rfl rfl rfl rfl rfl (ql_irrun_registers _ _ _ _ _ (ha.c0.trans (congrArg some eF))) ?_
  refine WL.op rfl rfl rfl (Go.Proofs.Ythdkmjbeemfbbaa.W.quiet_assign rfl rfl) ?_
  refine WL.nil ?_
  refine TW.sreg ?_
  refine WL.op rfl rfl rfl (Go.Proofs.Ythdkmjbeemfbbaa.W.quiet_move rfl rfl) ?_
  refine O.nck rfl rfl rfl rfl rfl ?_
  refine WL.op rfl rfl rfl (Go.Proofs.Ythdkmjbeemfbbaa.W.quiet_field rfl rfl (fun W => (qa_api_Ins_0 W _ _))) ?_
  refine WL.ld rfl rfl rfl rfl rfl ((ql_int _ _ _ (hx.r.f0.cell hi.1 id)).trans (by rw [h0])) ?_
  refine WL.nil ?_
  refine TW.block ?_
  refine TW.sreg ?_
  refine WL.op rfl rfl rfl (Go.Proofs.Ythdkmjbeemfbbaa.W.quiet_bin rfl rfl rfl (fun W => qb_eql_int W _ _ _ _)) ?_
  refine O.split (fun hb => by exfalso; revert hb; first | (simp; done) | (simp; omega)) (fun hb => ?_)
  refine WL.op rfl rfl rfl (Go.Proofs.Ythdkmjbeemfbbaa.W.quiet_assign rfl rfl) ?_
  refine WL.nil ?_
  refine TW.cond rfl (fun hb => by cases hb) (fun _ => ?_)
  refine TW.sreg ?_
  refine WL.op rfl rfl rfl (Go.Proofs.Ythdkmjbeemfbbaa.W.quiet_bin rfl rfl rfl (fun W => qb_eql_int W _ _ _ _)) ?_
  refine O.split (fun hb => by exfalso; revert hb; first | (simp; done) | (simp; omega)) (fun hb => ?_)
  refine WL.op rfl rfl rfl (Go.Proofs.Ythdkmjbeemfbbaa.W.quiet_assign rfl rfl) ?_
  refine WL.nil ?_
  refine TW.cond rfl (fun hb => by cases hb) (fun _ => ?_)
  refine TW.sreg ?_
  refine WL.op rfl rfl rfl (Go.Proofs.Ythdkmjbeemfbbaa.W.quiet_bin rfl rfl rfl (fun W => qb_eql_int W _ _ _ _)) ?_
  refine O.split (fun hb => by exfalso; revert hb; first | (simp; done) | (simp; omega)) (fun hb => ?_)
  refine WL.op rfl rfl rfl (Go.Proofs.Ythdkmjbeemfbbaa.W.quiet_assign rfl rfl) ?_
  refine WL.nil ?_
  refine TW.cond rfl (fun hb => by cases hb) (fun _ => ?_)
  refine TW.sreg ?_
  refine WL.op rfl rfl rfl (Go.Proofs.Ythdkmjbeemfbbaa.W.quiet_bin rfl rfl rfl (fun W => qb_eql_int W _ _ _ _)) ?_
  refine O.split (fun hb => by exfalso; revert hb; first | (simp; done) | (simp; omega)) (fun hb => ?_)
  refine WL.op rfl rfl rfl (Go.Proofs.Ythdkmjbeemfbbaa.W.quiet_assign rfl rfl) ?_
  refine WL.nil ?_
  refine TW.cond rfl (fun hb => by cases hb) (fun _ => ?_)
  refine TW.sreg ?_
  refine WL.op rfl rfl rfl (Go.Proofs.Ythdkmjbeemfbbaa.W.quiet_bin rfl rfl rfl (fun W => qb_eql_int W _ _ _ _)) ?_
  refine O.split (fun hb => ?_) (fun hb => by exfalso; revert hb; first | (simp; done) | (simp; omega))
  refine WL.op rfl rfl rfl (Go.Proofs.Ythdkmjbeemfbbaa.W.quiet_assign rfl rfl) ?_
  refine WL.nil ?_
  refine TW.cond rfl (fun _ => ?_) (fun hb => by cases hb)
  refine TW.sreg ?_
  refine WL.op rfl rfl rfl (Go.Proofs.Ythdkmjbeemfbbaa.W.quiet_move rfl rfl) ?_
  refine WL.op rfl rfl rfl (Go.Proofs.Ythdkmjbeemfbbaa.W.quiet_move rfl rfl) ?_
  refine WL.op rfl rfl rfl (Go.Proofs.Ythdkmjbeemfbbaa.W.quiet_move rfl rfl) ?_
  refine O.nck rfl rfl rfl rfl rfl ?_
  refine WL.op rfl rfl rfl (Go.Proofs.Ythdkmjbeemfbbaa.W.quiet_field rfl rfl (fun W => (qa_api_Ins_2 W _ _))) ?_
  refine WL.ld rfl rfl rfl rfl rfl ((ql_int _ _ _ (hx.r.f0.cell hi.2.2.1 id)).trans (by rw [e2])) ?_
  refine O.ixa rfl rfl rfl rfl rfl rfl (qi_irrun_registers _ _ _ _ _ _ (by omega)) ?_
  refine WL.ld rfl rfl rfl rfl rfl (ql_uint32 _ _ _ (RM.rc hc hx hk eF hr2).1) ?_
  by_cases hbad : rBad (rAt ((x.cl lv).rg r2) i.x6) i.x7
  · skip
    refine WL.op rfl rfl rfl (Go.Proofs.Ythdkmjbeemfbbaa.W.quiet_move rfl rfl) ?_
    refine WL.call (hr := (t_bytes_bad hc i hi _ p n hp hp2 hn hn0 hn4 hbad _ hx)) rfl rfl rfl rfl rfl (fun W => qk_irrun_machine_bytes W _) ?_
    rintro e w2 ⟨rfl, hx2⟩
    refine ⟨_, rfl, ?_⟩
    clear hx
    have hx := hx2
    refine WL.op rfl rfl rfl (Go.Proofs.Ythdkmjbeemfbbaa.W.quiet_assign rfl rfl) ?_
    refine WL.nil ?_
    refine TW.sreg ?_
    refine WL.op rfl rfl rfl (Go.Proofs.Ythdkmjbeemfbbaa.W.quiet_move rfl rfl) ?_
    refine WL.op rfl rfl rfl (Go.Proofs.Ythdkmjbeemfbbaa.W.quiet_bin rfl rfl rfl (fun W => ne_nil0 W _ _)) ?_
    refine O.split (fun hb => by exfalso; revert hb; first | (simp; done) | (simp; omega)) (fun hb => ?_)
    refine WL.nil ?_
    refine TW.cond rfl (fun hb => by cases hb) (fun _ => ?_)
    refine TW.skipx ?_
    refine Xw.nblk ?_
    refine O.end0 rfl ?_
    refine ⟨L, rfl, ?_⟩
    rw [rEx5 hd2 h0, hM, if_pos hbad]
    exact hx2
  · have hpn : p + n ≤ 65536 := by unfold rBad at hbad; rw [hp, hn] at hbad; omega
    refine WL.op rfl rfl rfl (Go.Proofs.Ythdkmjbeemfbbaa.W.quiet_move rfl rfl) ?_
    refine WL.call (hr := (t_bytes_ok hc i hi _ p n hp hp2 hn hn0 hn4 hbad _ hx)) rfl rfl rfl rfl rfl (fun W => qk_irrun_machine_bytes W _) ?_
    rintro e w2 ⟨rfl, hx2⟩
    refine ⟨_, rfl, ?_⟩
    clear hx
    have hx := hx2
    refine WL.op rfl rfl rfl (Go.Proofs.Ythdkmjbeemfbbaa.W.quiet_assign rfl rfl) ?_
    refine WL.nil ?_
    refine TW.sreg ?_
    refine WL.op rfl rfl rfl (Go.Proofs.Ythdkmjbeemfbbaa.W.quiet_move rfl rfl) ?_
    refine WL.op rfl rfl rfl (Go.Proofs.Ythdkmjbeemfbbaa.W.quiet_bin rfl rfl rfl (fun W => ne_nil1 W _ _ _ _ _)) ?_
    refine O.split (fun hb => ?_) (fun hb => by exfalso; revert hb; first | (simp; done) | (simp; omega))
    refine WL.nil ?_
    refine TW.cond rfl (fun _ => ?_) (fun hb => by cases hb)
    have f0g : ∀ W, Fr (fun q => q = g) w2 W → Fr (fun _ => False) c.w0 W := fun W hW => hx.r.f0.trans' hW (fun q hq e => by omega)
    have f1g : ∀ W, Fr (fun q => q = g) w2 W → Fr (fun q => q = c.M ∨ q = c.mb) c.w1 W := fun W hW => hx.r.f1.trans' hW (fun q hq e => by omega)
    have hx0 := hx
    refine TW.regH (fun W => Fr (fun q => q = g) w2 W) (by kernel_rfl) ?_
    have fd : Fr (fun _ => False) w2 w2.drew := (Fr.refl _ _).drewN 1
    have HW : Fr (fun q => q = g) w2 w2.drew := (Fr.refl _ _).drewN 1
    replace hx := hx.fr0 hc fd
    generalize hV : w2.drew = V1 at *
    clear hV
    refine WH.take 0 rfl (by kernel_rfl) (by kernel_rfl) (by kernel_rfl) (fun _ _ _ _ _ h => h) rfl rfl rfl HW (RH.move rfl rfl) ?_
    refine WH.take 1 rfl (by kernel_rfl) (by kernel_rfl) (by kernel_rfl) (fun _ _ _ _ _ h => h) rfl rfl rfl HW (RH.move rfl rfl) ?_
    refine WH.take 2 rfl (by kernel_rfl) (by kernel_rfl) (by kernel_rfl) (fun _ _ _ _ _ h => h) rfl rfl rfl HW (RH.nck rfl rfl) ?_
    refine WH.take 3 rfl (by kernel_rfl) (by kernel_rfl) (by kernel_rfl) (fun _ _ _ _ _ h => h) rfl rfl rfl HW (RH.field rfl rfl (fun W => qa_api_Ins_1 W _ _)) ?_
    refine WH.take 4 rfl (by kernel_rfl) (by kernel_rfl) (by kernel_rfl) (fun _ _ _ _ _ h => h) rfl rfl rfl HW (RH.load rfl rfl (fun W hW => ((ql_int _ _ _ ((f0g W hW).cell hi.2.1 id)).trans (by rw [e1])))) ?_
    refine WH.take 5 rfl (by kernel_rfl) (by kernel_rfl) (by kernel_rfl) (fun _ _ _ _ _ h => h) rfl rfl rfl HW (RH.move rfl rfl) ?_
    refine WH.one 6 (by kernel_rfl) rfl ?_ 
    refine WL.call (hr := (t_number x.me c.mb (0 + p) n _ hn4 hwf.me _ (fun k hk => (hx.r.byte (by omega)).1))) rfl rfl rfl rfl rfl (fun W => qk_irrun_number W _) ?_
    rintro e w9 ⟨rfl, f9⟩
    refine ⟨_, rfl, ?_⟩
    replace hx := hx.fr0 hc f9
    replace HW := HW.trans' f9 (fun q hq e => e.elim)
    refine WL.fin HW ?_
    refine WH.take 7 rfl (by kernel_rfl) (by kernel_rfl) (by kernel_rfl) (fun _ _ _ _ _ h => h) rfl rfl rfl HW (RH.index rfl rfl rfl (fun W => (qi_irrun_registers _ _ _ _ _ _ (by omega)))) ?_
    refine WH.one 8 (by kernel_rfl) rfl ?_ 
    refine O.storeR rfl rfl rfl rfl rfl ((RM.rc hc hx hk eF hr1).2 _) ?_
    rintro w8 ⟨hx8, hf8⟩
    replace HW := HW.trans' hf8 (fun q hq e => e)
    refine WL.fin HW ?_
    refine WH.end (by kernel_rfl) ?_
    refine Xw.nblk ?_
    refine O.end0 rfl ?_
    refine ⟨L, rfl, ?_⟩
    rw [rEx5 hd2 h0, hM, if_neg hbad, if_pos h0, rSet_eq hd2 e1]
    rw [Nat.zero_add] at hx8
    exact hx8
set_option maxRecDepth 100000 in
theorem t_ex6 {c : RC} {L : RL} {x : RSt} {fu : Int} {s lv cb gi oi : Nat} (hc : c.ok) (hd2 : x.d = lv + 1) (hcb : L.ca = some ⟨cb, 0, none⟩) (i : Inn) (hi : InsAt c.w0 gi oi i) (hiM : InsM c.m (rPr c.m (x.cl lv).n) i) (hu : U32 i.u) (hwf : RWf c.m s x) (hs : s ≤ 100000) (h0 : i.x0 = 6) (w : World) (h : RM c w L x fu x.d) : Calls Try.prog 20 #[.pointer (some ⟨c.M, 0, none⟩), .pointer (some ⟨cb, 0 + lv * 6, none⟩), .pointer (some ⟨gi, oi, none⟩)] w fun e w' => ∃ L', e = .returned (.tuple #[]) ∧ RM c w' L' (rExec c.m c.inp x i) fu (rExec c.m c.inp x i).d := by
  have hk : lv < x.d := by omega
  have hx := h
  have ha := h.r.at_ hc hcb hk
  obtain ⟨ra, rk, eF⟩ := (h.r.top lv hk).1.form
  obtain ⟨p1, p2, pO, pG, pP, pZ, pD, pDn, pDc, pDv, pA, pAn, pB, pBn, pArg, pArn, pL, pF3, pF4, pF0, pU, pOff, pOffn, pSz, pSzn⟩ := id hiM
  have hw0 := hwf.cl lv hk
  obtain ⟨r2, e2, hr2⟩ := RgP.nat (pA (by omega))
  obtain ⟨r3, e3, hr3⟩ := RgP.nat (pB (by omega))
  obtain ⟨g, rfl, hg, hcg⟩ := RM.rg hc h hk eF hr2
  have hcbg := hcg cb hcb
  have hm1 := hc.m1
  have hb1 := hc.b1
  have hw01 := hc.f01.size
  obtain ⟨n, hn, hn0, hn4⟩ : ∃ n : Nat, i.x7 = (n : Int) ∧ 0 < n ∧ n ≤ 4 := by
    rcases pSz (by omega) with q | q
    · exact ⟨1, q, by decide, by decide⟩
    · exact ⟨4, q, by decide, by decide⟩
  have hat0 : 0 ≤ rAt ((x.cl lv).rg r2) i.x6 ∧ rAt ((x.cl lv).rg r2) i.x6 < 4294967296 := by unfold rAt; omega
  obtain ⟨p, hp⟩ : ∃ p : Nat, rAt ((x.cl lv).rg r2) i.x6 = (p : Int) := ⟨(rAt ((x.cl lv).rg r2) i.x6).toNat, by omega⟩
  have hp2 : p < 4294967296 := by omega
  have hM : rMem x i = (if rBad (rAt ((x.cl lv).rg r2) i.x6) i.x7 then { x with e := 12 } else if i.x0 = 5 then rSet x i.x1 (rNum x.me p n) else { x with me := rPut x.me p ((x.cl lv).rg i.x3.toNat) n }) := by
    unfold rMem
    rw [rTop_k hd2, e2, Int.toNat_natCast, hp, hn]
    rfl
  refine calls_tw Try.func20 rfl rfl (Nat.le_of_ble_eq_true rfl) ?_
  refine TW.sreg ?_
  refine WL.op rfl rfl rfl (Go.Proofs.Ythdkmjbeemfbbaa.W.quiet_move rfl rfl) ?_
  refine O.nck rfl rfl rfl rfl rfl ?_
  refine WL.op rfl rfl rfl (Go.Proofs.Ythdkmjbeemfbbaa.W.quiet_field rfl rfl (fun W => (qa_irrun_call_0 W _ _))) ?_
  refine WL.ld rfl rfl rfl rfl rfl (ql_irrun_registers _ _ _ _ _ (ha.c0.trans (congrArg some eF))) ?_
  refine WL.op rfl rfl rfl (Go.Proofs.Ythdkmjbeemfbbaa.W.quiet_assign rfl rfl) ?_
  refine WL.nil ?_
  refine TW.sreg ?_
  refine WL.op rfl rfl rfl (Go.Proofs.Ythdkmjbeemfbbaa.W.quiet_move rfl rfl) ?_
  refine O.nck rfl rfl rfl rfl rfl ?_
  refine WL.op rfl rfl rfl (Go.Proofs.Ythdkmjbeemfbbaa.W.quiet_field rfl rfl (fun W => (qa_api_Ins_0 W _ _))) ?_
  refine WL.ld rfl rfl rfl rfl rfl ((ql_int _ _ _ (hx.r.f0.cell hi.1 id)).trans (by rw [h0])) ?_
  refine WL.nil ?_
  refine TW.block ?_
  refine TW.sreg ?_
  refine WL.op rfl rfl rfl (Go.Proofs.Ythdkmjbeemfbbaa.W.quiet_bin rfl rfl rfl (fun W => qb_eql_int W _ _ _ _)) ?_
  refine O.split (fun hb => by exfalso; revert hb; first | (simp; done) | (simp; omega)) (fun hb => ?_)
  refine WL.op rfl rfl rfl (Go.Proofs.Ythdkmjbeemfbbaa.W.quiet_assign rfl rfl) ?_
  refine WL.nil ?_
  refine TW.cond rfl (fun hb => by cases hb) (fun _ => ?_)
  refine TW.sreg ?_
  refine WL.op rfl rfl rfl (Go.Proofs.Ythdkmjbeemfbbaa.W.quiet_bin rfl rfl rfl (fun W => qb_eql_int W _ _ _ _)) ?_
  refine O.split (fun hb => by exfalso; revert hb; first | (simp; done) | (simp; omega)) (fun hb => ?_)
  refine WL.op rfl rfl rfl (Go.Proofs.Ythdkmjbeemfbbaa.W.quiet_assign rfl rfl) ?_
  refine WL.nil ?_
  refine TW.cond rfl (fun hb => by cases hb) (fun _ => ?_)
  refine TW.sreg ?_
  refine WL.op rfl rfl rfl (Go.Proofs.Ythdkmjbeemfbbaa.W.quiet_bin rfl rfl rfl (fun W => qb_eql_int W _ _ _ _)) ?_
  refine O.split (fun hb => by exfalso; revert hb; first | (simp; done) | (simp; omega)) (fun hb => ?_)
  refine WL.op rfl rfl rfl (Go.Proofs.Ythdkmjbeemfbbaa.W.quiet_assign rfl rfl) ?_
  refine WL.nil ?_
  refine TW.cond rfl (fun hb => by cases hb) (fun _ => ?_)
  refine TW.sreg ?_
  refine WL.op rfl rfl rfl (Go.Proofs.Ythdkmjbeemfbbaa.W.quiet_bin rfl rfl rfl (fun W => qb_eql_int W _ _ _ _)) ?_
  refine O.split (fun hb => by exfalso; revert hb; first | (simp; done) | (simp; omega)) (fun hb => ?_)
  refine WL.op rfl rfl rfl (Go.Proofs.Ythdkmjbeemfbbaa.W.quiet_assign rfl rfl) ?_
  refine WL.nil ?_
  refine TW.cond rfl (fun hb => by cases hb) (fun _ => ?_)
  refine TW.sreg ?_
  refine WL.op rfl rfl rfl (Go.Proofs.Ythdkmjbeemfbbaa.W.quiet_bin rfl rfl rfl (fun W => qb_eql_int W _ _ _ _)) ?_
  refine O.split (fun hb => by exfalso; revert hb; first | (simp; done) | (simp; omega)) (fun hb => ?_)
  refine WL.op rfl rfl rfl (Go.Proofs.Ythdkmjbeemfbbaa.W.quiet_assign rfl rfl) ?_
  refine WL.nil ?_
  refine TW.cond rfl (fun hb => by cases hb) (fun _ => ?_)
  refine TW.sreg ?_
  refine WL.op rfl rfl rfl (Go.Proofs.Ythdkmjbeemfbbaa.W.quiet_bin rfl rfl rfl (fun W => qb_eql_int W _ _ _ _)) ?_
  refine O.split (fun hb => ?_) (fun hb => by exfalso; revert hb; first | (simp; done) | (simp; omega))
  refine WL.op rfl rfl rfl (Go.Proofs.Ythdkmjbeemfbbaa.W.quiet_assign rfl rfl) ?_
  refine WL.nil ?_
  refine TW.cond rfl (fun _ => ?_) (fun hb => by cases hb)
  refine TW.sreg ?_
  refine WL.op rfl rfl rfl (Go.Proofs.Ythdkmjbeemfbbaa.W.quiet_move rfl rfl) ?_
  refine WL.op rfl rfl rfl (Go.Proofs.Ythdkmjbeemfbbaa.W.quiet_move rfl rfl) ?_
  refine WL.op rfl rfl rfl (Go.Proofs.Ythdkmjbeemfbbaa.W.quiet_move rfl rfl) ?_
  refine O.nck rfl rfl rfl rfl rfl ?_
  refine WL.op rfl rfl rfl (Go.Proofs.Ythdkmjbeemfbbaa.W.quiet_field rfl rfl (fun W => (qa_api_Ins_2 W _ _))) ?_
  refine WL.ld rfl rfl rfl rfl rfl ((ql_int _ _ _ (hx.r.f0.cell hi.2.2.1 id)).trans (by rw [e2])) ?_
  refine O.ixa rfl rfl rfl rfl rfl rfl (qi_irrun_registers _ _ _ _ _ _ (by omega)) ?_
  refine WL.ld rfl rfl rfl rfl rfl (ql_uint32 _ _ _ (RM.rc hc hx hk eF hr2).1) ?_
  by_cases hbad : rBad (rAt ((x.cl lv).rg r2) i.x6) i.x7
  · skip
    refine WL.op rfl rfl rfl (Go.Proofs.Ythdkmjbeemfbbaa.W.quiet_move rfl rfl) ?_
    refine WL.call (hr := (t_bytes_bad hc i hi _ p n hp hp2 hn hn0 hn4 hbad _ hx)) rfl rfl rfl rfl rfl (fun W => qk_irrun_machine_bytes W _) ?_
    rintro e w2 ⟨rfl, hx2⟩
    refine ⟨_, rfl, ?_⟩
    clear hx
    have hx := hx2
    refine WL.op rfl rfl rfl (Go.Proofs.Ythdkmjbeemfbbaa.W.quiet_assign rfl rfl) ?_
    refine WL.nil ?_
    refine TW.sreg ?_
    refine WL.op rfl rfl rfl (Go.Proofs.Ythdkmjbeemfbbaa.W.quiet_move rfl rfl) ?_
    refine WL.op rfl rfl rfl (Go.Proofs.Ythdkmjbeemfbbaa.W.quiet_bin rfl rfl rfl (fun W => ne_nil0 W _ _)) ?_
    refine O.split (fun hb => by exfalso; revert hb; first | (simp; done) | (simp; omega)) (fun hb => ?_)
    refine WL.nil ?_
    refine TW.cond rfl (fun hb => by cases hb) (fun _ => ?_)
    refine TW.skipx ?_
    refine Xw.nblk ?_
    refine O.end0 rfl ?_
    refine ⟨L, rfl, ?_⟩
    rw [rEx6 hd2 h0, hM, if_pos hbad]
    exact hx2
  · have hpn : p + n ≤ 65536 := by unfold rBad at hbad; rw [hp, hn] at hbad; omega
    refine WL.op rfl rfl rfl (Go.Proofs.Ythdkmjbeemfbbaa.W.quiet_move rfl rfl) ?_
    refine WL.call (hr := (t_bytes_ok hc i hi _ p n hp hp2 hn hn0 hn4 hbad _ hx)) rfl rfl rfl rfl rfl (fun W => qk_irrun_machine_bytes W _) ?_
    rintro e w2 ⟨rfl, hx2⟩
    refine ⟨_, rfl, ?_⟩
    clear hx
    have hx := hx2
    refine WL.op rfl rfl rfl (Go.Proofs.Ythdkmjbeemfbbaa.W.quiet_assign rfl rfl) ?_
    refine WL.nil ?_
    refine TW.sreg ?_
    refine WL.op rfl rfl rfl (Go.Proofs.Ythdkmjbeemfbbaa.W.quiet_move rfl rfl) ?_
    refine WL.op rfl rfl rfl (Go.Proofs.Ythdkmjbeemfbbaa.W.quiet_bin rfl rfl rfl (fun W => ne_nil1 W _ _ _ _ _)) ?_
    refine O.split (fun hb => ?_) (fun hb => by exfalso; revert hb; first | (simp; done) | (simp; omega))
    refine WL.nil ?_
    refine TW.cond rfl (fun _ => ?_) (fun hb => by cases hb)
    refine TW.reg ?_
    refine WL.op rfl rfl rfl (Go.Proofs.Ythdkmjbeemfbbaa.W.quiet_move rfl rfl) ?_
    refine WL.op rfl rfl rfl (Go.Proofs.Ythdkmjbeemfbbaa.W.quiet_move rfl rfl) ?_
    refine WL.op rfl rfl rfl (Go.Proofs.Ythdkmjbeemfbbaa.W.quiet_move rfl rfl) ?_
    refine O.nck rfl rfl rfl rfl rfl ?_
    refine WL.op rfl rfl rfl (Go.Proofs.Ythdkmjbeemfbbaa.W.quiet_field rfl rfl (fun W => (qa_api_Ins_3 W _ _))) ?_
    refine WL.ld rfl rfl rfl rfl rfl ((ql_int _ _ _ (hx.r.f0.cell hi.2.2.2.1 id)).trans (by rw [e3])) ?_
    refine O.ixa rfl rfl rfl rfl rfl rfl (qi_irrun_registers _ _ _ _ _ _ (by omega)) ?_
    refine WL.ld rfl rfl rfl rfl rfl (ql_uint32 _ _ _ (RM.rc hc hx hk eF hr3).1) ?_
    refine WL.call (hr := (t_put hc (0 + p) n _ _ hn4 (by omega) (hw0.rg _).1 _ hx)) rfl rfl rfl rfl rfl (fun W => qk_irrun_put W _) ?_
    rintro e w8 ⟨rfl, hx8⟩
    refine ⟨_, rfl, ?_⟩
    refine WL.end ?_
    refine Xw.nblk ?_
    refine O.end0 rfl ?_
    refine ⟨L, rfl, ?_⟩
    rw [rEx6 hd2 h0, hM, if_neg hbad, if_neg (by omega), e3, Int.toNat_natCast]
    rw [Nat.zero_add] at hx8
    exact hx8
set_option maxRecDepth 100000 in
theorem t_ex7 {c : RC} {L : RL} {x : RSt} {fu : Int} {s lv cb gi oi : Nat} (hc : c.ok) (hd2 : x.d = lv + 1) (hcb : L.ca = some ⟨cb, 0, none⟩) (i : Inn) (hi : InsAt c.w0 gi oi i) (hiM : InsM c.m (rPr c.m (x.cl lv).n) i) (hu : U32 i.u) (hwf : RWf c.m s x) (hs : s ≤ 100000) (h0 : i.x0 = 7) (w : World) (h : RM c w L x fu x.d) : Calls Try.prog 20 #[.pointer (some ⟨c.M, 0, none⟩), .pointer (some ⟨cb, 0 + lv * 6, none⟩), .pointer (some ⟨gi, oi, none⟩)] w fun e w' => ∃ L', e = .returned (.tuple #[]) ∧ RM c w' L' (rExec c.m c.inp x i) fu (rExec c.m c.inp x i).d := by
  have hk : lv < x.d := by omega
  have hx := h
  have ha := h.r.at_ hc hcb hk
  obtain ⟨ra, rk, eF⟩ := (h.r.top lv hk).1.form
  obtain ⟨p1, p2, pO, pG, pP, pZ, pD, pDn, pDc, pDv, pA, pAn, pB, pBn, pArg, pArn, pL, pF3, pF4, pF0, pU, pOff, pOffn, pSz, pSzn⟩ := id hiM
  have hw0 := hwf.cl lv hk
  obtain ⟨r1, e1, hr1⟩ := RgP.nat (pD (by omega))
  obtain ⟨g, rfl, hg, hcg⟩ := RM.rg hc h hk eF hr1
  have hcbg := hcg cb hcb
  have hm1 := hc.m1
  have hb1 := hc.b1
  have hw01 := hc.f01.size
  obtain ⟨n5, e5⟩ : ∃ n : Nat, i.x5 = (n : Int) := ⟨i.x5.toNat, by have := pO h0; omega⟩
  have hn5 : n5 < (rPr c.m (x.cl lv).n).ob.length := by have := pO h0; omega
  have hnp := hw0.n
  obtain ⟨gf, fa4, fk4, hfa, hgf1, hgf2, hf0, _, hob⟩ := hc.frm _ hw0.n
  obtain ⟨gh, rfl, hgh1, hgh2, hoc⟩ := hob n5 hn5
  have hgfl : gf < c.w1.heap.size := World.block_lt_of_cell? c.w1 _ hf0
  have hghl : gh < c.w1.heap.size := World.block_lt_of_cell? c.w1 _ hoc
  have ho := rOut_of hc.mp hw0.n
  have hzz := offs_in (slS_slim ho.2.2.2.1) n5 (by rw [slS_len]; omega)
  have hz2 := ho.2.2.1
  have hof := pOff (by omega)
  have hl0 := hw0.l0
  have hl1 := hw0.l1
  refine calls_tw Try.func20 rfl rfl (Nat.le_of_ble_eq_true rfl) ?_
  refine TW.sreg ?_
  refine WL.op rfl rfl rfl (Go.Proofs.Ythdkmjbeemfbbaa.W.quiet_move rfl rfl) ?_
  refine O.nck rfl rfl rfl rfl rfl ?_
  refine WL.op rfl rfl rfl (Go.Proofs.Ythdkmjbeemfbbaa.W.quiet_field rfl rfl (fun W => (qa_irrun_call_0 W _ _))) ?_
  refine WL.ld rfl rfl rfl rfl rfl (ql_irrun_registers _ _ _ _ _ (ha.c0.trans (congrArg some eF))) ?_
  refine WL.op rfl rfl rfl (Go.Proofs.Ythdkmjbeemfbbaa.W.quiet_assign rfl rfl) ?_
  refine WL.nil ?_
  refine TW.sreg ?_
  refine WL.op rfl rfl rfl (Go.Proofs.Ythdkmjbeemfbbaa.W.quiet_move rfl rfl) ?_
  refine O.nck rfl rfl rfl rfl rfl ?_
  refine WL.op rfl rfl rfl (Go.Proofs.Ythdkmjbeemfbbaa.W.quiet_field rfl rfl (fun W => (qa_api_Ins_0 W _ _))) ?_
  refine WL.ld rfl rfl rfl rfl rfl ((ql_int _ _ _ (hx.r.f0.cell hi.1 id)).trans (by rw [h0])) ?_
  refine WL.nil ?_
  refine TW.block ?_
  refine TW.sreg ?_
  refine WL.op rfl rfl rfl (Go.Proofs.Ythdkmjbeemfbbaa.W.quiet_bin rfl rfl rfl (fun W => qb_eql_int W _ _ _ _)) ?_
  refine O.split (fun hb => by exfalso; revert hb; first | (simp; done) | (simp; omega)) (fun hb => ?_)
  refine WL.op rfl rfl rfl (Go.Proofs.Ythdkmjbeemfbbaa.W.quiet_assign rfl rfl) ?_
  refine WL.nil ?_
  refine TW.cond rfl (fun hb => by cases hb) (fun _ => ?_)
  refine TW.sreg ?_
  refine WL.op rfl rfl rfl (Go.Proofs.Ythdkmjbeemfbbaa.W.quiet_bin rfl rfl rfl (fun W => qb_eql_int W _ _ _ _)) ?_
  refine O.split (fun hb => by exfalso; revert hb; first | (simp; done) | (simp; omega)) (fun hb => ?_)
  refine WL.op rfl rfl rfl (Go.Proofs.Ythdkmjbeemfbbaa.W.quiet_assign rfl rfl) ?_
  refine WL.nil ?_
  refine TW.cond rfl (fun hb => by cases hb) (fun _ => ?_)
  refine TW.sreg ?_
  refine WL.op rfl rfl rfl (Go.Proofs.Ythdkmjbeemfbbaa.W.quiet_bin rfl rfl rfl (fun W => qb_eql_int W _ _ _ _)) ?_
  refine O.split (fun hb => by exfalso; revert hb; first | (simp; done) | (simp; omega)) (fun hb => ?_)
  refine WL.op rfl rfl rfl (Go.Proofs.Ythdkmjbeemfbbaa.W.quiet_assign rfl rfl) ?_
  refine WL.nil ?_
  refine TW.cond rfl (fun hb => by cases hb) (fun _ => ?_)
  refine TW.sreg ?_
  refine WL.op rfl rfl rfl (Go.Proofs.Ythdkmjbeemfbbaa.W.quiet_bin rfl rfl rfl (fun W => qb_eql_int W _ _ _ _)) ?_
  refine O.split (fun hb => by exfalso; revert hb; first | (simp; done) | (simp; omega)) (fun hb => ?_)
  refine WL.op rfl rfl rfl (Go.Proofs.Ythdkmjbeemfbbaa.W.quiet_assign rfl rfl) ?_
  refine WL.nil ?_
  refine TW.cond rfl (fun hb => by cases hb) (fun _ => ?_)
  refine TW.sreg ?_
  refine WL.op rfl rfl rfl (Go.Proofs.Ythdkmjbeemfbbaa.W.quiet_bin rfl rfl rfl (fun W => qb_eql_int W _ _ _ _)) ?_
  refine O.split (fun hb => by exfalso; revert hb; first | (simp; done) | (simp; omega)) (fun hb => ?_)
  refine WL.op rfl rfl rfl (Go.Proofs.Ythdkmjbeemfbbaa.W.quiet_assign rfl rfl) ?_
  refine WL.nil ?_
  refine TW.cond rfl (fun hb => by cases hb) (fun _ => ?_)
  refine TW.sreg ?_
  refine WL.op rfl rfl rfl (Go.Proofs.Ythdkmjbeemfbbaa.W.quiet_bin rfl rfl rfl (fun W => qb_eql_int W _ _ _ _)) ?_
  refine O.split (fun hb => by exfalso; revert hb; first | (simp; done) | (simp; omega)) (fun hb => ?_)
  refine WL.op rfl rfl rfl (Go.Proofs.Ythdkmjbeemfbbaa.W.quiet_assign rfl rfl) ?_
  refine WL.nil ?_
  refine TW.cond rfl (fun hb => by cases hb) (fun _ => ?_)
  refine TW.sreg ?_
  refine WL.op rfl rfl rfl (Go.Proofs.Ythdkmjbeemfbbaa.W.quiet_bin rfl rfl rfl (fun W => qb_eql_int W _ _ _ _)) ?_
  refine O.split (fun hb => ?_) (fun hb => by exfalso; revert hb; first | (simp; done) | (simp; omega))
  refine WL.op rfl rfl rfl (Go.Proofs.Ythdkmjbeemfbbaa.W.quiet_assign rfl rfl) ?_
  refine WL.nil ?_
  refine TW.cond rfl (fun _ => ?_) (fun hb => by cases hb)
  have f0g : ∀ W, Fr (fun q => q = g) w W → Fr (fun _ => False) c.w0 W := fun W hW => hx.r.f0.trans' hW (fun q hq e => by omega)
  have f1g : ∀ W, Fr (fun q => q = g) w W → Fr (fun q => q = c.M ∨ q = c.mb) c.w1 W := fun W hW => hx.r.f1.trans' hW (fun q hq e => by omega)
  have hx0 := hx
  refine TW.regH (fun W => Fr (fun q => q = g) w W) (by kernel_rfl) ?_
  have fd : Fr (fun _ => False) w w.drew := (Fr.refl _ _).drewN 1
  have HW : Fr (fun q => q = g) w w.drew := (Fr.refl _ _).drewN 1
  replace hx := hx.fr0 hc fd
  generalize hV : w.drew = V1 at *
  clear hV
  refine WH.take 0 rfl (by kernel_rfl) (by kernel_rfl) (by kernel_rfl) (fun _ _ _ _ _ h => h) rfl rfl rfl HW (RH.move rfl rfl) ?_
  refine WH.take 1 rfl (by kernel_rfl) (by kernel_rfl) (by kernel_rfl) (fun _ _ _ _ _ h => h) rfl rfl rfl HW (RH.move rfl rfl) ?_
  refine WH.take 2 rfl (by kernel_rfl) (by kernel_rfl) (by kernel_rfl) (fun _ _ _ _ _ h => h) rfl rfl rfl HW (RH.nck rfl rfl) ?_
  refine WH.take 3 rfl (by kernel_rfl) (by kernel_rfl) (by kernel_rfl) (fun _ _ _ _ _ h => h) rfl rfl rfl HW (RH.field rfl rfl (fun W => qa_api_Ins_1 W _ _)) ?_
  refine WH.take 4 rfl (by kernel_rfl) (by kernel_rfl) (by kernel_rfl) (fun _ _ _ _ _ h => h) rfl rfl rfl HW (RH.load rfl rfl (fun W hW => ((ql_int _ _ _ ((f0g W hW).cell hi.2.1 id)).trans (by rw [e1])))) ?_
  refine WH.take 5 rfl (by kernel_rfl) (by kernel_rfl) (by kernel_rfl) (fun _ _ _ _ _ h => h) rfl rfl rfl HW (RH.move rfl rfl) ?_
  refine WH.take 6 rfl (by kernel_rfl) (by kernel_rfl) (by kernel_rfl) (fun _ _ _ _ _ h => h) rfl rfl rfl HW (RH.nck rfl rfl) ?_
  refine WH.take 7 rfl (by kernel_rfl) (by kernel_rfl) (by kernel_rfl) (fun _ _ _ _ _ h => h) rfl rfl rfl HW (RH.field rfl rfl (fun W => qa_irrun_call_4 W _ _)) ?_
  refine WH.take 8 rfl (by kernel_rfl) (by kernel_rfl) (by kernel_rfl) (fun _ _ _ _ _ h => h) rfl rfl rfl HW (RH.load rfl rfl (fun W hW => (ql_int _ _ _ (hW.cell ha.c4 hcbg)))) ?_
  refine WH.take 9 rfl (by kernel_rfl) (by kernel_rfl) (by kernel_rfl) (fun _ _ _ _ _ h => h) rfl rfl rfl HW (RH.move rfl rfl) ?_
  refine WH.take 10 rfl (by kernel_rfl) (by kernel_rfl) (by kernel_rfl) (fun _ _ _ _ _ h => h) rfl rfl rfl HW (RH.nck rfl rfl) ?_
  refine WH.take 11 rfl (by kernel_rfl) (by kernel_rfl) (by kernel_rfl) (fun _ _ _ _ _ h => h) rfl rfl rfl HW (RH.field rfl rfl (fun W => qa_irrun_machine_7 W _ _)) ?_
  refine WH.take 12 rfl (by kernel_rfl) (by kernel_rfl) (by kernel_rfl) (fun _ _ _ _ _ h => h) rfl rfl rfl HW (RH.load rfl rfl (fun W hW => ((ql_s_irrun_frame _ _ _ _ _ ((hx0.m.fr hW (fun e => by omega)).cell (j := 13) rfl)).trans (by rw [hfa])))) ?_
  refine WH.take 13 rfl (by kernel_rfl) (by kernel_rfl) (by kernel_rfl) (fun _ _ _ _ _ h => h) rfl rfl rfl HW (RH.move rfl rfl) ?_
  refine WH.take 14 rfl (by kernel_rfl) (by kernel_rfl) (by kernel_rfl) (fun _ _ _ _ _ h => h) rfl rfl rfl HW (RH.nck rfl rfl) ?_
  refine WH.take 15 rfl (by kernel_rfl) (by kernel_rfl) (by kernel_rfl) (fun _ _ _ _ _ h => h) rfl rfl rfl HW (RH.field rfl rfl (fun W => qa_irrun_call_1 W _ _)) ?_
  refine WH.take 16 rfl (by kernel_rfl) (by kernel_rfl) (by kernel_rfl) (fun _ _ _ _ _ h => h) rfl rfl rfl HW (RH.load rfl rfl (fun W hW => (ql_int _ _ _ (hW.cell ha.c1 hcbg)))) ?_
  refine WH.take 17 rfl (by kernel_rfl) (by kernel_rfl) (by kernel_rfl) (fun _ _ _ _ _ h => h) rfl rfl rfl HW (RH.index rfl rfl rfl (fun W => (qi_s_irrun_frame _ _ _ _ _ _ (by omega)))) ?_
  refine WH.take 18 rfl (by kernel_rfl) (by kernel_rfl) (by kernel_rfl) (fun _ _ _ _ _ h => h) rfl rfl rfl HW (RH.field rfl rfl (fun W => qa_irrun_frame_0 W _ _)) ?_
  refine WH.take 19 rfl (by kernel_rfl) (by kernel_rfl) (by kernel_rfl) (fun _ _ _ _ _ h => h) rfl rfl rfl HW (RH.load rfl rfl (fun W hW => (ql_s_int _ _ _ _ _ ((f1g W hW).cell (by rw [Nat.zero_add]; exact hf0) (by rintro (e | e); exact hgf1 e; exact hgf2 e))))) ?_
  refine WH.take 20 rfl (by kernel_rfl) (by kernel_rfl) (by kernel_rfl) (fun _ _ _ _ _ h => h) rfl rfl rfl HW (RH.move rfl rfl) ?_
  refine WH.take 21 rfl (by kernel_rfl) (by kernel_rfl) (by kernel_rfl) (fun _ _ _ _ _ h => h) rfl rfl rfl HW (RH.nck rfl rfl) ?_
  refine WH.take 22 rfl (by kernel_rfl) (by kernel_rfl) (by kernel_rfl) (fun _ _ _ _ _ h => h) rfl rfl rfl HW (RH.field rfl rfl (fun W => qa_api_Ins_5 W _ _)) ?_
  refine WH.take 23 rfl (by kernel_rfl) (by kernel_rfl) (by kernel_rfl) (fun _ _ _ _ _ h => h) rfl rfl rfl HW (RH.load rfl rfl (fun W hW => ((ql_int _ _ _ ((f0g W hW).cell hi.2.2.2.2.2.1 id)).trans (by rw [e5])))) ?_
  refine WH.take 24 rfl (by kernel_rfl) (by kernel_rfl) (by kernel_rfl) (fun _ _ _ _ _ h => h) rfl rfl rfl HW (RH.index rfl rfl rfl (fun W => (qi_s_int _ _ _ _ _ _ (by omega)))) ?_
  refine WH.take 25 rfl (by kernel_rfl) (by kernel_rfl) (by kernel_rfl) (fun _ _ _ _ _ h => h) rfl rfl rfl HW (RH.load rfl rfl (fun W hW => (ql_int _ _ _ ((f1g W hW).cell (by rw [Nat.zero_add]; exact hoc) (by rintro (e | e); exact hgh1 e; exact hgh2 e))))) ?_
  refine WH.take 26 rfl (by kernel_rfl) (by kernel_rfl) (by kernel_rfl) (fun _ _ _ _ _ h => h) rfl rfl rfl HW (RH.bin rfl rfl rfl (fun W => qb_add_int W _ _ _ _ (by omega) (by omega))) ?_
  refine WH.take 27 rfl (by kernel_rfl) (by kernel_rfl) (by kernel_rfl) (fun _ _ _ _ _ h => h) rfl rfl rfl HW (RH.move rfl rfl) ?_
  refine WH.take 28 rfl (by kernel_rfl) (by kernel_rfl) (by kernel_rfl) (fun _ _ _ _ _ h => h) rfl rfl rfl HW (RH.nck rfl rfl) ?_
  refine WH.take 29 rfl (by kernel_rfl) (by kernel_rfl) (by kernel_rfl) (fun _ _ _ _ _ h => h) rfl rfl rfl HW (RH.field rfl rfl (fun W => qa_api_Ins_6 W _ _)) ?_
  refine WH.take 30 rfl (by kernel_rfl) (by kernel_rfl) (by kernel_rfl) (fun _ _ _ _ _ h => h) rfl rfl rfl HW (RH.load rfl rfl (fun W hW => (ql_int _ _ _ ((f0g W hW).cell hi.2.2.2.2.2.2.1 id)))) ?_
  refine WH.take 31 rfl (by kernel_rfl) (by kernel_rfl) (by kernel_rfl) (fun _ _ _ _ _ h => h) rfl rfl rfl HW (RH.bin rfl rfl rfl (fun W => qb_add_int W _ _ _ _ (by omega) (by omega))) ?_
  refine WH.one 32 (by kernel_rfl) rfl ?_ 
  refine WL.call (hr := (t_address _ _)) rfl rfl rfl rfl rfl (fun W => qk_irrun_address W _) ?_
  rintro e wz ⟨rfl, hwz⟩
  refine ⟨_, rfl, ?_⟩
  obtain rfl := hwz.symm
  refine WL.fin HW ?_
  refine WH.take 33 rfl (by kernel_rfl) (by kernel_rfl) (by kernel_rfl) (fun _ _ _ _ _ h => h) rfl rfl rfl HW (RH.index rfl rfl rfl (fun W => (qi_irrun_registers _ _ _ _ _ _ (by omega)))) ?_
  refine WH.one 34 (by kernel_rfl) rfl ?_ 
  refine O.storeR rfl rfl rfl rfl rfl ((RM.rc hc hx hk eF hr1).2 _) ?_
  rintro w8 ⟨hx8, hf8⟩
  replace HW := HW.trans' hf8 (fun q hq e => e)
  refine WL.fin HW ?_
  refine WH.end (by kernel_rfl) ?_
  refine Xw.nblk ?_
  refine O.end0 rfl ?_
  refine ⟨L, rfl, ?_⟩
  rw [rEx7 hd2 h0, rSet_eq hd2 e1, e5, Int.toNat_natCast]
  exact hx8
set_option maxRecDepth 100000 in
theorem t_ex8 {c : RC} {L : RL} {x : RSt} {fu : Int} {s lv cb gi oi : Nat} (hc : c.ok) (hd2 : x.d = lv + 1) (hcb : L.ca = some ⟨cb, 0, none⟩) (i : Inn) (hi : InsAt c.w0 gi oi i) (hiM : InsM c.m (rPr c.m (x.cl lv).n) i) (hu : U32 i.u) (hwf : RWf c.m s x) (hs : s ≤ 100000) (h0 : i.x0 = 8) (w : World) (h : RM c w L x fu x.d) : Calls Try.prog 20 #[.pointer (some ⟨c.M, 0, none⟩), .pointer (some ⟨cb, 0 + lv * 6, none⟩), .pointer (some ⟨gi, oi, none⟩)] w fun e w' => ∃ L', e = .returned (.tuple #[]) ∧ RM c w' L' (rExec c.m c.inp x i) fu (rExec c.m c.inp x i).d := by
  have hk : lv < x.d := by omega
  have hx := h
  have ha := h.r.at_ hc hcb hk
  obtain ⟨ra, rk, eF⟩ := (h.r.top lv hk).1.form
  obtain ⟨p1, p2, pO, pG, pP, pZ, pD, pDn, pDc, pDv, pA, pAn, pB, pBn, pArg, pArn, pL, pF3, pF4, pF0, pU, pOff, pOffn, pSz, pSzn⟩ := id hiM
  have hw0 := hwf.cl lv hk
  obtain ⟨r1, e1, hr1⟩ := RgP.nat (pD (by omega))
  obtain ⟨g, rfl, hg, hcg⟩ := RM.rg hc h hk eF hr1
  have hcbg := hcg cb hcb
  have hm1 := hc.m1
  have hb1 := hc.b1
  have hw01 := hc.f01.size
  obtain ⟨n5, e5⟩ : ∃ n : Nat, i.x5 = (n : Int) := ⟨i.x5.toNat, by have := pG h0; omega⟩
  have hn5 : n5 < c.m.gl.length := by have := pG h0; omega
  obtain ⟨gh, hla, hgh1, hgh2, hoc⟩ := hc.glb n5 hn5
  have ho := hc.mp.1
  have hzz := offs_in (slS_slim ho.2.2.2.2.2.2.1) n5 (by rw [slS_len]; omega)
  have hz2 := ho.2.1
  have hof := pOff (by omega)
  refine calls_tw Try.func20 rfl rfl (Nat.le_of_ble_eq_true rfl) ?_
  refine TW.sreg ?_
  refine WL.op rfl rfl rfl (Go.Proofs.Ythdkmjbeemfbbaa.W.quiet_move rfl rfl) ?_
  refine O.nck rfl rfl rfl rfl rfl ?_
  refine WL.op rfl rfl rfl (Go.Proofs.Ythdkmjbeemfbbaa.W.quiet_field rfl rfl (fun W => (qa_irrun_call_0 W _ _))) ?_
  refine WL.ld rfl rfl rfl rfl rfl (ql_irrun_registers _ _ _ _ _ (ha.c0.trans (congrArg some eF))) ?_
  refine WL.op rfl rfl rfl (Go.Proofs.Ythdkmjbeemfbbaa.W.quiet_assign rfl rfl) ?_
  refine WL.nil ?_
  refine TW.sreg ?_
  refine WL.op rfl rfl rfl (Go.Proofs.Ythdkmjbeemfbbaa.W.quiet_move rfl rfl) ?_
  refine O.nck rfl rfl rfl rfl rfl ?_
  refine WL.op rfl rfl rfl (Go.Proofs.Ythdkmjbeemfbbaa.W.quiet_field rfl rfl (fun W => (qa_api_Ins_0 W _ _))) ?_
  refine WL.ld rfl rfl rfl rfl rfl ((ql_int _ _ _ (hx.r.f0.cell hi.1 id)).trans (by rw [h0])) ?_
  refine WL.nil ?_
  refine TW.block ?_
  refine TW.sreg ?_
  refine WL.op rfl rfl rfl (Go.Proofs.Ythdkmjbeemfbbaa.W.quiet_bin rfl rfl rfl (fun W => qb_eql_int W _ _ _ _)) ?_
  refine O.split (fun hb => by exfalso; revert hb; first | (simp; done) | (simp; omega)) (fun hb => ?_)
  refine WL.op rfl rfl rfl (Go.Proofs.Ythdkmjbeemfbbaa.W.quiet_assign rfl rfl) ?_
  refine WL.nil ?_
  refine TW.cond rfl (fun hb => by cases hb) (fun _ => ?_)
  refine TW.sreg ?_
  refine WL.op rfl rfl rfl (Go.Proofs.Ythdkmjbeemfbbaa.W.quiet_bin rfl rfl rfl (fun W => qb_eql_int W _ _ _ _)) ?_
  refine O.split (fun hb => by exfalso; revert hb; first | (simp; done) | (simp; omega)) (fun hb => ?_)
  refine WL.op rfl rfl rfl (Go.Proofs.Ythdkmjbeemfbbaa.W.quiet_assign rfl rfl) ?_
  refine WL.nil ?_
  refine TW.cond rfl (fun hb => by cases hb) (fun _ => ?_)
  refine TW.sreg ?_
  refine WL.op rfl rfl rfl (Go.Proofs.Ythdkmjbeemfbbaa.W.quiet_bin rfl rfl rfl (fun W => qb_eql_int W _ _ _ _)) ?_
  refine O.split (fun hb => by exfalso; revert hb; first | (simp; done) | (simp; omega)) (fun hb => ?_)
  refine WL.op rfl rfl rfl (Go.Proofs.Ythdkmjbeemfbbaa.W.quiet_assign rfl rfl) ?_
  refine WL.nil ?_
  refine TW.cond rfl (fun hb => by cases hb) (fun _ => ?_)
  refine TW.sreg ?_
  refine WL.op rfl rfl rfl (Go.Proofs.Ythdkmjbeemfbbaa.W.quiet_bin rfl rfl rfl (fun W => qb_eql_int W _ _ _ _)) ?_
  refine O.split (fun hb => by exfalso; revert hb; first | (simp; done) | (simp; omega)) (fun hb => ?_)
  refine WL.op rfl rfl rfl (Go.Proofs.Ythdkmjbeemfbbaa.W.quiet_assign rfl rfl) ?_
  refine WL.nil ?_
  refine TW.cond rfl (fun hb => by cases hb) (fun _ => ?_)
  refine TW.sreg ?_
  refine WL.op rfl rfl rfl (Go.Proofs.Ythdkmjbeemfbbaa.W.quiet_bin rfl rfl rfl (fun W => qb_eql_int W _ _ _ _)) ?_
  refine O.split (fun hb => by exfalso; revert hb; first | (simp; done) | (simp; omega)) (fun hb => ?_)
  refine WL.op rfl rfl rfl (Go.Proofs.Ythdkmjbeemfbbaa.W.quiet_assign rfl rfl) ?_
  refine WL.nil ?_
  refine TW.cond rfl (fun hb => by cases hb) (fun _ => ?_)
  refine TW.sreg ?_
  refine WL.op rfl rfl rfl (Go.Proofs.Ythdkmjbeemfbbaa.W.quiet_bin rfl rfl rfl (fun W => qb_eql_int W _ _ _ _)) ?_
  refine O.split (fun hb => by exfalso; revert hb; first | (simp; done) | (simp; omega)) (fun hb => ?_)
  refine WL.op rfl rfl rfl (Go.Proofs.Ythdkmjbeemfbbaa.W.quiet_assign rfl rfl) ?_
  refine WL.nil ?_
  refine TW.cond rfl (fun hb => by cases hb) (fun _ => ?_)
  refine TW.sreg ?_
  refine WL.op rfl rfl rfl (Go.Proofs.Ythdkmjbeemfbbaa.W.quiet_bin rfl rfl rfl (fun W => qb_eql_int W _ _ _ _)) ?_
  refine O.split (fun hb => by exfalso; revert hb; first | (simp; done) | (simp; omega)) (fun hb => ?_)
  refine WL.op rfl rfl rfl (Go.Proofs.Ythdkmjbeemfbbaa.W.quiet_assign rfl rfl) ?_
  refine WL.nil ?_
  refine TW.cond rfl (fun hb => by cases hb) (fun _ => ?_)
  refine TW.sreg ?_
  refine WL.op rfl rfl rfl (Go.Proofs.Ythdkmjbeemfbbaa.W.quiet_bin rfl rfl rfl (fun W => qb_eql_int W _ _ _ _)) ?_
  refine O.split (fun hb => ?_) (fun hb => by exfalso; revert hb; first | (simp; done) | (simp; omega))
  refine WL.op rfl rfl rfl (Go.Proofs.Ythdkmjbeemfbbaa.W.quiet_assign rfl rfl) ?_
  refine WL.nil ?_
  refine TW.cond rfl (fun _ => ?_) (fun hb => by cases hb)
  have f0g : ∀ W, Fr (fun q => q = g) w W → Fr (fun _ => False) c.w0 W := fun W hW => hx.r.f0.trans' hW (fun q hq e => by omega)
  have f1g : ∀ W, Fr (fun q => q = g) w W → Fr (fun q => q = c.M ∨ q = c.mb) c.w1 W := fun W hW => hx.r.f1.trans' hW (fun q hq e => by omega)
  have hx0 := hx
  refine TW.regH (fun W => Fr (fun q => q = g) w W) (by kernel_rfl) ?_
  have fd : Fr (fun _ => False) w w.drew := (Fr.refl _ _).drewN 1
  have HW : Fr (fun q => q = g) w w.drew := (Fr.refl _ _).drewN 1
  replace hx := hx.fr0 hc fd
  generalize hV : w.drew = V1 at *
  clear hV
  refine WH.take 0 rfl (by kernel_rfl) (by kernel_rfl) (by kernel_rfl) (fun _ _ _ _ _ h => h) rfl rfl rfl HW (RH.move rfl rfl) ?_
  refine WH.take 1 rfl (by kernel_rfl) (by kernel_rfl) (by kernel_rfl) (fun _ _ _ _ _ h => h) rfl rfl rfl HW (RH.move rfl rfl) ?_
  refine WH.take 2 rfl (by kernel_rfl) (by kernel_rfl) (by kernel_rfl) (fun _ _ _ _ _ h => h) rfl rfl rfl HW (RH.nck rfl rfl) ?_
  refine WH.take 3 rfl (by kernel_rfl) (by kernel_rfl) (by kernel_rfl) (fun _ _ _ _ _ h => h) rfl rfl rfl HW (RH.field rfl rfl (fun W => qa_api_Ins_1 W _ _)) ?_
  refine WH.take 4 rfl (by kernel_rfl) (by kernel_rfl) (by kernel_rfl) (fun _ _ _ _ _ h => h) rfl rfl rfl HW (RH.load rfl rfl (fun W hW => ((ql_int _ _ _ ((f0g W hW).cell hi.2.1 id)).trans (by rw [e1])))) ?_
  refine WH.take 5 rfl (by kernel_rfl) (by kernel_rfl) (by kernel_rfl) (fun _ _ _ _ _ h => h) rfl rfl rfl HW (RH.move rfl rfl) ?_
  refine WH.take 6 rfl (by kernel_rfl) (by kernel_rfl) (by kernel_rfl) (fun _ _ _ _ _ h => h) rfl rfl rfl HW (RH.nck rfl rfl) ?_
  refine WH.take 7 rfl (by kernel_rfl) (by kernel_rfl) (by kernel_rfl) (fun _ _ _ _ _ h => h) rfl rfl rfl HW (RH.field rfl rfl (fun W => qa_irrun_machine_5 W _ _)) ?_
  refine WH.take 8 rfl (by kernel_rfl) (by kernel_rfl) (by kernel_rfl) (fun _ _ _ _ _ h => h) rfl rfl rfl HW (RH.load rfl rfl (fun W hW => ((ql_s_int _ _ _ _ _ ((hx0.m.fr hW (fun e => by omega)).cell (j := 11) rfl)).trans (by rw [hla])))) ?_
  refine WH.take 9 rfl (by kernel_rfl) (by kernel_rfl) (by kernel_rfl) (fun _ _ _ _ _ h => h) rfl rfl rfl HW (RH.move rfl rfl) ?_
  refine WH.take 10 rfl (by kernel_rfl) (by kernel_rfl) (by kernel_rfl) (fun _ _ _ _ _ h => h) rfl rfl rfl HW (RH.nck rfl rfl) ?_
  refine WH.take 11 rfl (by kernel_rfl) (by kernel_rfl) (by kernel_rfl) (fun _ _ _ _ _ h => h) rfl rfl rfl HW (RH.field rfl rfl (fun W => qa_api_Ins_5 W _ _)) ?_
  refine WH.take 12 rfl (by kernel_rfl) (by kernel_rfl) (by kernel_rfl) (fun _ _ _ _ _ h => h) rfl rfl rfl HW (RH.load rfl rfl (fun W hW => ((ql_int _ _ _ ((f0g W hW).cell hi.2.2.2.2.2.1 id)).trans (by rw [e5])))) ?_
  refine WH.take 13 rfl (by kernel_rfl) (by kernel_rfl) (by kernel_rfl) (fun _ _ _ _ _ h => h) rfl rfl rfl HW (RH.index rfl rfl rfl (fun W => (qi_s_int _ _ _ _ _ _ (by omega)))) ?_
  refine WH.take 14 rfl (by kernel_rfl) (by kernel_rfl) (by kernel_rfl) (fun _ _ _ _ _ h => h) rfl rfl rfl HW (RH.load rfl rfl (fun W hW => (ql_int _ _ _ ((f1g W hW).cell (by rw [Nat.zero_add]; exact hoc) (by rintro (e | e); exact hgh1 e; exact hgh2 e))))) ?_
  refine WH.take 15 rfl (by kernel_rfl) (by kernel_rfl) (by kernel_rfl) (fun _ _ _ _ _ h => h) rfl rfl rfl HW (RH.move rfl rfl) ?_
  refine WH.take 16 rfl (by kernel_rfl) (by kernel_rfl) (by kernel_rfl) (fun _ _ _ _ _ h => h) rfl rfl rfl HW (RH.nck rfl rfl) ?_
  refine WH.take 17 rfl (by kernel_rfl) (by kernel_rfl) (by kernel_rfl) (fun _ _ _ _ _ h => h) rfl rfl rfl HW (RH.field rfl rfl (fun W => qa_api_Ins_6 W _ _)) ?_
  refine WH.take 18 rfl (by kernel_rfl) (by kernel_rfl) (by kernel_rfl) (fun _ _ _ _ _ h => h) rfl rfl rfl HW (RH.load rfl rfl (fun W hW => (ql_int _ _ _ ((f0g W hW).cell hi.2.2.2.2.2.2.1 id)))) ?_
  refine WH.take 19 rfl (by kernel_rfl) (by kernel_rfl) (by kernel_rfl) (fun _ _ _ _ _ h => h) rfl rfl rfl HW (RH.bin rfl rfl rfl (fun W => qb_add_int W _ _ _ _ (by omega) (by omega))) ?_
  refine WH.one 20 (by kernel_rfl) rfl ?_ 
  refine WL.call (hr := (t_address _ _)) rfl rfl rfl rfl rfl (fun W => qk_irrun_address W _) ?_
  rintro e wz ⟨rfl, hwz⟩
  refine ⟨_, rfl, ?_⟩
  obtain rfl := hwz.symm
  refine WL.fin HW ?_
  refine WH.take 21 rfl (by kernel_rfl) (by kernel_rfl) (by kernel_rfl) (fun _ _ _ _ _ h => h) rfl rfl rfl HW (RH.index rfl rfl rfl (fun W => (qi_irrun_registers _ _ _ _ _ _ (by omega)))) ?_
  refine WH.one 22 (by kernel_rfl) rfl ?_ 
  refine O.storeR rfl rfl rfl rfl rfl ((RM.rc hc hx hk eF hr1).2 _) ?_
  rintro w8 ⟨hx8, hf8⟩
  replace HW := HW.trans' hf8 (fun q hq e => e)
  refine WL.fin HW ?_
  refine WH.end (by kernel_rfl) ?_
  refine Xw.nblk ?_
  refine O.end0 rfl ?_
  refine ⟨L, rfl, ?_⟩
  rw [rEx8 hd2 h0, rSet_eq hd2 e1, e5, Int.toNat_natCast]
  exact hx8
end Go.Proofs.Ythdkmjbeemfbbaa
