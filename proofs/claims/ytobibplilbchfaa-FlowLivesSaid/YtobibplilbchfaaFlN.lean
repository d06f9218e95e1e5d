/-
  Flow (layer 16): into a block, on, and out, by the document.
-/
import Derived.Test.YtobibplilbchfaaFlM
namespace Go.Proofs.Ytobibplilbchfaa
open Go.RowKit
set_option linter.unusedVariables false
set_option linter.unusedSimpArgs false
set_option linter.unnecessarySimpa false
theorem qa_rushlightref16_Walk_0 (w : World) (b o : Nat) : (Instr.fieldAt 36 (.pointer (some ⟨b, o, none⟩)) 0).run Try.prog w = .ok (.pointer (some ⟨b, o, none⟩)) w := by simp [go_sem]
theorem qa_rushlightref16_Walk_2 (w : World) (b o : Nat) : (Instr.fieldAt 36 (.pointer (some ⟨b, o, none⟩)) 2).run Try.prog w = .ok (.pointer (some ⟨b, o + 2, none⟩)) w := by simp [go_sem]
theorem qk_rushlightref16_Walk_Into (w : World) (vs : Array Value) : (callFunc 24 vs).run Try.prog w = .ok (.enter 24 vs) w := by simp [go_sem]
theorem qa_rushlightref16_Walk_1 (w : World) (b o : Nat) : (Instr.fieldAt 36 (.pointer (some ⟨b, o, none⟩)) 1).run Try.prog w = .ok (.pointer (some ⟨b, o + 1, none⟩)) w := by simp [go_sem]
/-- What a walk into a block does, with so much fuel. -/
def IntoC (nm : ByteArray) (vd : Bool) (pr R : Int) (oa : Option Addr) (on oc : Nat) (ba : Option Addr) (bs : List Bk) (bc : Nat) (f : Nat) : Prop := ∀ (n : Nat) (B tb S : Nat) (vl vb : Value) (x : Wk) (L K : Nat) (hL : L ≤ 100000) (hK : K ≤ 100000) (w0 w : World) (hB : w0.heap.size ≤ B) (f0 : Fr (fun _ => False) w0 w) (hbl : BkL w0 ba bs) (hn : n < bs.length) (h0 : x.st.getD n 0 = 0) (hz : zer x.st ≤ f) (hm : Lim x L K) (hT : Wat B tb S bs.length w vl vb x), Calls Try.prog 24 #[.pointer (some ⟨tb, 0, none⟩), .agg #[.string nm, .bool vd, .int .i64 pr, .int .i64 R, .slice oa on oc, .slice ba bs.length bc], .int .i64 (n : Int)] w (fun e w' => e = .returned (.tuple #[]) ∧ (∃ vl' vb', Wat B tb S bs.length w' vl' vb' (intoF bs (f) (n : Int) x) ∧ (∀ k, vl'.ownBlock = some k → vl.ownBlock = some k ∨ w.heap.size ≤ k) ∧ (∀ k, vb'.ownBlock = some k → vb.ownBlock = some k ∨ w.heap.size ≤ k)) ∧ Fr (WF tb S vl vb) w w')
set_option maxRecDepth 100000 in
theorem into_step (nm : ByteArray) (vd : Bool) (pr R : Int) (oa : Option Addr) (on oc : Nat) (ba : Option Addr) (bs : List Bk) (bc : Nat) (f : Nat) (ih : IntoC nm vd pr R oa on oc ba bs bc f) (n : Nat) (B tb S : Nat) (vl vb : Value) (x : Wk) (L K : Nat) (hL : L ≤ 100000) (hK : K ≤ 100000) (w0 w : World) (hB : w0.heap.size ≤ B) (f0 : Fr (fun _ => False) w0 w) (hbl : BkL w0 ba bs) (hn : n < bs.length) (h0 : x.st.getD n 0 = 0) (hz : zer x.st ≤ f + 1) (hm : Lim x L K) (hT : Wat B tb S bs.length w vl vb x) : Calls Try.prog 24 #[.pointer (some ⟨tb, 0, none⟩), .agg #[.string nm, .bool vd, .int .i64 pr, .int .i64 R, .slice oa on oc, .slice ba bs.length bc], .int .i64 (n : Int)] w (fun e w' => e = .returned (.tuple #[]) ∧ (∃ vl' vb', Wat B tb S bs.length w' vl' vb' (intoF bs (f + 1) (n : Int) x) ∧ (∀ k, vl'.ownBlock = some k → vl.ownBlock = some k ∨ w.heap.size ≤ k) ∧ (∀ k, vb'.ownBlock = some k → vb.ownBlock = some k ∨ w.heap.size ≤ k)) ∧ Fr (WF tb S vl vb) w w') := by
  refine calls_tw Try.func24 rfl rfl (Nat.le_of_ble_eq_true rfl) ?_
  refine TW.sreg ?_
  refine O.boxR rfl rfl rfl rfl rfl (qxR_api_Proc w _ _ _ _ _ _ _ _ _ _) ?_
  rintro wa1 ⟨fa1, bx1⟩
  replace hT := hT.fr fa1
  replace f0 := f0.trans fa1
  have hF := Fr.refl (WF tb S vl vb) w
  have hw1 := fa1.size
  replace hF := hF.trans' fa1 (fun _ _ e => e.elim)
  refine WL.nil ?_
  refine TW.sreg ?_
  refine WL.op rfl rfl rfl (Go.Proofs.Ytobibplilbchfaa.W.quiet_move rfl rfl) ?_
  refine O.nck rfl rfl rfl rfl rfl ?_
  refine WL.op rfl rfl rfl (Go.Proofs.Ytobibplilbchfaa.W.quiet_field rfl rfl (fun W => (qa_rushlightref16_Walk_0 W _ _))) ?_
  refine WL.ld rfl rfl rfl rfl rfl (ql_s_int _ _ _ _ _ (hT.bx.cell (j := 0) rfl)) ?_
  refine WL.op rfl rfl rfl (Go.Proofs.Ytobibplilbchfaa.W.quiet_move rfl rfl) ?_
  refine O.ixa rfl rfl rfl rfl rfl rfl (qi_s_int _ _ _ _ _ _ (by omega)) ?_
  refine O.storeR rfl rfl rfl rfl rfl (hT.hs.store (k := n) (by have := (Row.capLe hT.hs).1; omega) 1) ?_
  rintro w2 ⟨hI2, hFs⟩
  have hst : x.st.length = bs.length := (Row.capLe hT.hs).1.symm
  replace hF := hF.trans' hFs (fun q hq e => .inr (.inl e))
  replace bx1 := bx1.fr hFs (fun e => by obtain ⟨cs, q⟩ := Row.typ hT.hs S rfl; exact typ_ne bx1 q (by decide) e)
  replace f0 := f0.trans' hFs (fun q hq e => by have := (hT.ge (.inr (.inl e))).1; omega)
  replace hT := hT.setS hI2 hFs
  have hz1 := zer_set (st := x.st) (n := n) (by omega) h0
  have ho2 := outsF_len bs n
  refine WL.nil ?_
  refine TW.sreg ?_
  refine WL.ld rfl rfl rfl rfl rfl (qlB_api_Proc _ _ _ _ _ _ _ _ _ _ _ _ _ bx1) ?_
  refine WL.op rfl rfl rfl (Go.Proofs.Ytobibplilbchfaa.W.quiet_move rfl rfl) ?_
  have hTp := hT
  refine WL.call (hr := r_outs nm vd pr R oa on oc ba bs bc n hn _ (hbl.fr f0)) rfl rfl rfl rfl rfl (fun W => qk_rushlightref16_Outs W _) ?_
  rintro e w1 ⟨v0, rfl, hI0, f1⟩
  refine ⟨_, rfl, ?_⟩
  replace hT := hT.fr f1
  replace f0 := f0.trans f1
  replace hF := hF.trans' f1 (fun _ _ e => e.elim)
  replace bx1 := bx1.fr f1 id
  obtain ⟨oa2, oc2, rfl, _, hO⟩ := hI0.rest (S := S) (vl := vl) (fun k hk => ⟨fun e => by have := (hTp.ge (.inr (.inl e))).2; have := (Row.lt hI0 k hk).1; omega, fun e => by have := (hTp.ge (.inr (.inr (.inl e)))).2; have := (Row.lt hI0 k hk).1; omega⟩)
  refine WL.op rfl rfl rfl (Go.Proofs.Ytobibplilbchfaa.W.quiet_assign rfl rfl) ?_
  refine WL.nil ?_
  refine TW.seq ?_
  refine TW.sreg ?_
  refine WL.op rfl rfl rfl (Go.Proofs.Ytobibplilbchfaa.W.quiet_assign rfl rfl) ?_
  refine WL.nil ?_
  refine TW.block ?_
  refine O.loopG (n := (outsF bs n).length) (fun a _ => (intOf (a.tmps.getD 7 undef)).toNat) (fun j a W => ∃ (vl1 vb1 : Value), Kn Try.f24.ntmps [(0, .pointer (some ⟨tb, 0, none⟩)), (2, .int .i64 (n : Int)), (4, .pointer (some ⟨w.heap.size, 0, none⟩)), (6, .slice oa2 (outsF bs n).length oc2), (7, .int .i64 (j : Int))] a ∧ Fr (fun _ => False) w0 W ∧ Fr (WF tb S vl vb) w W ∧ Wat B tb S bs.length W vl1 vb1 (onF bs f (n : Int) ((outsF bs n).take (j)) (⟨x.st.set n 1, x.left, x.back⟩ : Wk)) ∧ (∀ k, vl1.ownBlock = some k → vl.ownBlock = some k ∨ w.heap.size ≤ k) ∧ (∀ k, vb1.ownBlock = some k → vb.ownBlock = some k ∨ w.heap.size ≤ k) ∧ Bx W w.heap.size #[.string nm, .bool vd, .int .i64 pr, .int .i64 R, .slice oa on oc, .slice ba bs.length bc] 25 ∧ RestA W S vl1 oa2 (outsF bs n)) (fun j a W h => by obtain ⟨_, _, h⟩ := h; exact O.slotv h.1 rfl) 0 (Nat.zero_le _) (fun a k => ⟨_, _, (by (repeat (refine Kn.cons k rfl ?_)); exact k.base), f0, hF, (by rw [List.take_zero, on_nil]; exact hT), (fun k e => .inl e), (fun k e => .inl e), bx1, hO⟩) ?_
  rintro j a wl hj ⟨vl1, vb1, k, f0, hF, hT, hv1, hv2, bx1, hO⟩
  refine TW.app (s := [(0, .pointer (some ⟨tb, 0, none⟩)), (2, .int .i64 (n : Int)), (4, .pointer (some ⟨w.heap.size, 0, none⟩)), (6, .slice oa2 (outsF bs n).length oc2), (7, .int .i64 (j : Int))]) ?_ k
  refine TW.seq ?_
  refine TW.sreg ?_
  refine WL.op rfl rfl rfl (Go.Proofs.Ytobibplilbchfaa.W.quiet_move rfl rfl) ?_
  refine WL.op rfl rfl rfl (Go.Proofs.Ytobibplilbchfaa.W.quiet_move rfl rfl) ?_
  refine O.len rfl rfl rfl rfl rfl (qn_s_int _ _ _ _) ?_
  refine WL.op rfl rfl rfl (Go.Proofs.Ytobibplilbchfaa.W.quiet_bin rfl rfl rfl (fun W => qb_lss_int W _ _ _ _)) ?_
  refine O.split (fun hbj => ?_) (fun hbj => ?_)
  · skip
    have hj2 : j < (outsF bs n).length := by have := of_decide_eq_true hbj; omega
    have hnext := on_take (bs := bs) (f := f) (n := (n : Int)) (w := (⟨x.st.set n 1, x.left, x.back⟩ : Wk)) hj2
    obtain ⟨xj, hxj⟩ : ∃ xj, (onF bs f (n : Int) ((outsF bs n).take (j)) (⟨x.st.set n 1, x.left, x.back⟩ : Wk)) = xj := ⟨_, rfl⟩
    rw [hxj] at hT
    obtain ⟨m1, m2, m3, m4⟩ := lim_on bs f (n : Int) ((outsF bs n).take j) (⟨x.st.set n 1, x.left, x.back⟩ : Wk) (L - 1) K (fun y hy => outsF_in (List.mem_of_mem_take hy)) (by show (x.st.set n 1).length = _; rw [List.length_set]; omega) (by show zer (x.st.set n 1) ≤ f; omega) (by show x.left.length + zer (x.st.set n 1) ≤ L - 1; have := hm.l; omega) (by show x.back.length + ((outsF bs n).take j).length + 2 * zer (x.st.set n 1) ≤ K; have := hm.b; rw [List.length_take]; omega)
    rw [hxj] at m1 m2 m3 m4
    have m4 : zer xj.st ≤ zer (x.st.set n 1) := m4
    have hlim : Lim xj L K := ⟨by omega, m2⟩
    obtain ⟨gc, oc_, hoa, hc, hc0, hc1, hc2⟩ := hO j hj2
    obtain ⟨hy0, hy1⟩ := outsF_in (show (outsF bs n).getD j 0 ∈ outsF bs n by rw [List.getD_eq_getElem?_getD, List.getElem?_eq_getElem hj2]; exact List.getElem_mem hj2)
    obtain ⟨yn, hyn⟩ : ∃ yn : Nat, (outsF bs n).getD j 0 = (yn : Int) := ⟨((outsF bs n).getD j 0).toNat, by omega⟩
    rw [hyn] at hc hnext
    subst hoa
    refine WL.nil ?_
    refine TW.cond rfl (fun _ => ?_) (fun hb => by cases hb)
    refine TW.skip ?_
    refine TW.seq ?_
    refine TW.block ?_
    refine TW.seq ?_
    refine Q.sreg (C := fun W => Fr (fun _ => False) wl W) (by kernel_rfl) (by kernel_rfl) (fun W h => h.drewN 1) (Fr.refl _ _) ?_
    refine W.op rfl rfl rfl (Go.Proofs.Ytobibplilbchfaa.W.quiet_move rfl rfl) ?_
    refine W.op rfl rfl rfl (Q.nck rfl rfl) ?_
    refine W.op rfl rfl rfl (Go.Proofs.Ytobibplilbchfaa.W.quiet_field rfl rfl (fun W => (qa_rushlightref16_Walk_0 W _ _))) ?_
    refine W.op rfl rfl rfl (Go.Proofs.Ytobibplilbchfaa.W.quiet_load rfl rfl (fun W hW => (ql_s_int _ _ _ _ _ ((hT.fr hW).bx.cell (j := 0) rfl)))) ?_
    refine W.op rfl rfl rfl (Go.Proofs.Ytobibplilbchfaa.W.quiet_move rfl rfl) ?_
    refine W.op rfl rfl rfl (Go.Proofs.Ytobibplilbchfaa.W.quiet_move rfl rfl) ?_
    refine W.op rfl rfl rfl (Go.Proofs.Ytobibplilbchfaa.W.quiet_index rfl rfl rfl (fun W => (qi_s_int _ _ _ _ _ _ (by omega)))) ?_
    refine W.op rfl rfl rfl (Go.Proofs.Ytobibplilbchfaa.W.quiet_load rfl rfl (fun W hW => (ql_int _ _ _ (hW.cell hc id)))) ?_
    refine W.op rfl rfl rfl (Go.Proofs.Ytobibplilbchfaa.W.quiet_index rfl rfl rfl (fun W => (qi_s_int _ _ _ _ _ _ (by omega)))) ?_
    refine W.op rfl rfl rfl (Go.Proofs.Ytobibplilbchfaa.W.quiet_load rfl rfl (fun W hW => (ql_int _ _ _ ((hT.fr hW).hs.cell (k := yn) (show yn < xj.st.length by omega))))) ?_
    refine W.op rfl rfl rfl (Go.Proofs.Ytobibplilbchfaa.W.quiet_bin rfl rfl rfl (fun W => qb_eql_int W _ _ _ _)) ?_
    refine Q.split (fun hb5 => ?_) (fun hb5 => ?_)
    · skip
      have h3 : xj.st.getD (yn : Int).toNat 0 = 1 := by simpa using hb5
      obtain ⟨vba, vbc, rfl⟩ := Row.form hT.hb
      refine Q.nil (T.tw fun wq1 fq1 => ?_)
      replace hT := hT.fr fq1
      replace f0 := f0.trans fq1
      replace hF := hF.trans' fq1 (fun _ _ e => e.elim)
      replace bx1 := bx1.fr fq1 id
      replace hO := hO.fr fq1 (fun _ _ _ _ => id)
      replace hc := fq1.cell hc id
      refine TW.cond rfl (fun _ => ?_) (fun hb => by cases hb)
      obtain ⟨_, _, e9, hcs, hc1s, hc2s, hc3s⟩ := hO j hj2
      cases e9
      rw [hyn] at hcs
      have hTs := hT
      have bx1s := bx1
      refine TW.regH (fun W => Fr (WF tb S vl1 (Value.slice vba xj.back.length vbc)) wq1 W) (by kernel_rfl) ?_
      have fd : Fr (fun _ => False) wq1 wq1.drew := (Fr.refl _ _).drewN 1
      have HW : Fr (WF tb S vl1 (Value.slice vba xj.back.length vbc)) wq1 wq1.drew := (Fr.refl _ _).drewN 1
      replace hT := hT.fr fd
      replace f0 := f0.trans fd
      replace hF := hF.trans' fd (fun _ _ e => e.elim)
      replace bx1 := bx1.fr fd id
      replace hO := hO.fr fd (fun _ _ _ _ => id)
      replace hc := fd.cell hc id
      generalize hV : wq1.drew = V1 at *
      clear hV
      refine WH.take 0 rfl (by kernel_rfl) (by kernel_rfl) (by kernel_rfl) (fun _ _ _ _ _ h => h) rfl rfl rfl HW (RH.move rfl rfl) ?_
      refine WH.take 1 rfl (by kernel_rfl) (by kernel_rfl) (by kernel_rfl) (fun _ _ _ _ _ h => h) rfl rfl rfl HW (RH.move rfl rfl) ?_
      refine WH.take 2 rfl (by kernel_rfl) (by kernel_rfl) (by kernel_rfl) (fun _ _ _ _ _ h => h) rfl rfl rfl HW (RH.nck rfl rfl) ?_
      refine WH.take 3 rfl (by kernel_rfl) (by kernel_rfl) (by kernel_rfl) (fun _ _ _ _ _ h => h) rfl rfl rfl HW (RH.field rfl rfl (fun W => qa_rushlightref16_Walk_2 W _ _)) ?_
      refine WH.take 5 rfl (by kernel_rfl) (by kernel_rfl) (by kernel_rfl) (fun _ _ _ _ _ h => h) rfl rfl rfl HW (RH.move rfl rfl) ?_
      refine WH.take 6 rfl (by kernel_rfl) (by kernel_rfl) (by kernel_rfl) (fun _ _ _ _ _ h => h) rfl rfl rfl HW (RH.move rfl rfl) ?_
      refine WH.take 7 rfl (by kernel_rfl) (by kernel_rfl) (by kernel_rfl) (fun _ _ _ _ _ h => h) rfl rfl rfl HW (RH.move rfl rfl) ?_
      refine WH.take 8 rfl (by kernel_rfl) (by kernel_rfl) (by kernel_rfl) (fun _ _ _ _ _ h => h) rfl rfl rfl HW (RH.index rfl rfl rfl (fun W => (qi_s_int _ _ _ _ _ _ (by omega)))) ?_
      refine WH.take 9 rfl (by kernel_rfl) (by kernel_rfl) (by kernel_rfl) (fun _ _ _ _ _ h => h) rfl rfl rfl HW (RH.load rfl rfl (fun W hW => ql_int _ _ _ (hW.cell hcs (hTs.noR hc1s hc2s hc3s)))) ?_
      refine WH.two 4 10 (by kernel_rfl) rfl rfl ?_ ?_ 
      · skip
        refine WL.ld rfl rfl rfl rfl rfl (ql_s_2_int _ _ _ _ _ (by first | exact hT.bx.cell (j := 2) rfl | exact (hT.bx.fr (fr_al (Fr.refl (fun _ => False) _) _) id).cell (j := 2) rfl)) ?_
        refine WL.fin HW ?_
        refine WH.one 10 (by kernel_rfl) rfl ?_ 
        refine O.bld rfl rfl rfl rfl rfl (qd_2_int_0_1 _ _ _) ?_
        refine WL.fin HW ?_
        refine WH.one 11 (by kernel_rfl) rfl ?_ 
        refine O.bsl rfl rfl rfl rfl rfl (qv_s_2_int_1 _ _ _) ?_
        refine WL.fin (fr_al HW _) ?_
        refine WH.one 12 (by kernel_rfl) rfl ?_ 
        refine WL.append rfl rfl rfl rfl rfl rfl (pr_app ((n : Int), (yn : Int)) _ hT.hb (by have := hT.bt; have := hT.bx.lt; omega) (by omega)) ?_
        rintro vq wq ⟨hR, hFa, hn1⟩
        -- world wq
        replace HW := HW.trans' hFa (fun q hq e => by first | exact e | exact .inl e | exact .inr (.inr (.inr e)))
        refine WL.fin HW ?_
        refine WH.take 13 rfl (by kernel_rfl) (by kernel_rfl) (by kernel_rfl) (fun _ _ _ _ _ h => h) rfl rfl rfl HW (RH.nck rfl rfl) ?_
        refine WH.take 14 rfl (by kernel_rfl) (by kernel_rfl) (by kernel_rfl) (fun _ _ _ _ _ h => h) rfl rfl rfl HW (RH.field rfl rfl (fun W => qa_rushlightref16_Walk_2 W _ _)) ?_
        refine WH.one 15 (by kernel_rfl) rfl ?_ 
        obtain ⟨qa, qc, rfl⟩ := Row.form hR
        refine O.storeR rfl rfl rfl rfl rfl (qsF_s_2_int _ tb 2 _ _ _ _ _ _ (hT.bx.fr hFa (fun e => hT.bt' e)) rfl) ?_
        rintro w9 ⟨hFb, hbx2⟩
        replace HW := HW.trans' hFb (fun q hq e => by first | exact e | exact .inl e | exact .inr (.inr (.inr e)))
        refine WL.fin HW ?_
        refine WH.end (by kernel_rfl) ?_
        refine Xw.nrm ?_
        have hF1 : Fr (WF tb S vl1 (Value.slice vba xj.back.length vbc)) _ _ := (hFa.mono (fun q _ e => .inr (.inr (.inr e)))).trans (hFb.mono (fun q _ e => .inl e))
        have hO2 := hT.rest hO hF1 (fun k e => .inl e)
        have bx12 := bx1.fr hF1 (hT.no bx1 (by decide) (by decide) (by decide))
        have f02 := f0.trans' hF1 (fun q hq e => by have := (hT.ge e).1; omega)
        have hF2 := hF.trans' hF1 (fun q hq e => by rcases e with e | e | e | e; exact .inl e; exact .inr (.inl e); exact (hv1 q e).elim (fun e => .inr (.inr (.inl e))) (fun e => by omega); exact (hv2 q e).elim (fun e => .inr (.inr (.inr e))) (fun e => by omega))
        have hws1 := hF.size
        have hv12 := hv1
        have hv22 : ∀ k, (Value.slice qa _ qc).ownBlock = some k → vb.ownBlock = some k ∨ w.heap.size ≤ k := fun k e => (hn1 k e).elim (hv2 k) (fun e => .inr (Nat.le_trans hws1 e))
        have hT2 := hT.setB hR hFa hbx2 hFb
        obtain ⟨_, _, e8, hc8, h81, h82, h83⟩ := hO j hj2
        cases e8
        have hc9 := hF1.cell hc (hT.noR h81 h82 h83)
        clear hc
        have hc := hc9
        clear hO bx1 f0 hF hv1 hv2 hT hF1 hws1
        have hO := hO2
        have bx1 := bx12
        have f0 := f02
        have hF := hF2
        have hv1 := hv12
        have hv2 := hv22
        have hT := hT2
        clear hO2 bx12 f02 hF2 hv12 hv22 hT2
        refine Q.sreg (C := fun W => Fr (fun _ => False) w9 W) (by kernel_rfl) (by kernel_rfl) (fun W h => h.drewN 1) (Fr.refl _ _) ?_
        refine W.op rfl rfl rfl (Go.Proofs.Ytobibplilbchfaa.W.quiet_move rfl rfl) ?_
        refine W.op rfl rfl rfl (Q.nck rfl rfl) ?_
        refine W.op rfl rfl rfl (Go.Proofs.Ytobibplilbchfaa.W.quiet_field rfl rfl (fun W => (qa_rushlightref16_Walk_0 W _ _))) ?_
        refine W.op rfl rfl rfl (Go.Proofs.Ytobibplilbchfaa.W.quiet_load rfl rfl (fun W hW => (ql_s_int _ _ _ _ _ ((hT.fr hW).bx.cell (j := 0) rfl)))) ?_
        refine W.op rfl rfl rfl (Go.Proofs.Ytobibplilbchfaa.W.quiet_move rfl rfl) ?_
        refine W.op rfl rfl rfl (Go.Proofs.Ytobibplilbchfaa.W.quiet_move rfl rfl) ?_
        refine W.op rfl rfl rfl (Go.Proofs.Ytobibplilbchfaa.W.quiet_index rfl rfl rfl (fun W => (qi_s_int _ _ _ _ _ _ (by omega)))) ?_
        refine W.op rfl rfl rfl (Go.Proofs.Ytobibplilbchfaa.W.quiet_load rfl rfl (fun W hW => (ql_int _ _ _ (hW.cell hc id)))) ?_
        refine W.op rfl rfl rfl (Go.Proofs.Ytobibplilbchfaa.W.quiet_index rfl rfl rfl (fun W => (qi_s_int _ _ _ _ _ _ (by omega)))) ?_
        refine W.op rfl rfl rfl (Go.Proofs.Ytobibplilbchfaa.W.quiet_load rfl rfl (fun W hW => (ql_int _ _ _ ((hT.fr hW).hs.cell (k := yn) (show yn < xj.st.length by omega))))) ?_
        refine W.op rfl rfl rfl (Go.Proofs.Ytobibplilbchfaa.W.quiet_bin rfl rfl rfl (fun W => qb_eql_int W _ _ _ _)) ?_
        refine Q.split (fun hb => by rw [show xj.st.getD yn 0 = 1 from h3] at hb; exact absurd hb (by decide)) (fun hb => ?_)
        refine Q.nil (T.tw fun wq2 fq2 => ?_)
        replace hT := hT.fr fq2
        replace f0 := f0.trans fq2
        replace hF := hF.trans' fq2 (fun _ _ e => e.elim)
        replace bx1 := bx1.fr fq2 id
        replace hO := hO.fr fq2 (fun _ _ _ _ => id)
        replace hc := fq2.cell hc id
        refine TW.cond rfl (fun hb => by cases hb) (fun _ => ?_)
        refine TW.skipx ?_
        refine Xw.nblk ?_
        refine Xw.nrm ?_
        refine TW.reg ?_
        refine WL.op rfl rfl rfl (Go.Proofs.Ytobibplilbchfaa.W.quiet_move rfl rfl) ?_
        refine WL.op rfl rfl rfl (Go.Proofs.Ytobibplilbchfaa.W.quiet_bin rfl rfl rfl (fun W => qb_add_int W _ _ _ _ (by omega) (by omega))) ?_
        refine WL.op rfl rfl rfl (Go.Proofs.Ytobibplilbchfaa.W.quiet_assign rfl rfl) ?_
        refine WL.end ?_
        refine Xw.any (fun a k => ?_)
        refine ⟨j + 1, by omega, by omega, _, _, (by (repeat (refine Kn.cons k rfl ?_)); exact k.base), f0, hF, ?_, hv1, hv2, bx1, hO⟩
        rw [hnext, hxj, on_back h3, on_nil]
        exact hT
      · skip
        refine O.bld rfl rfl rfl rfl rfl (qd_2_int_0_1 _ _ _) ?_
        refine WL.fin HW ?_
        refine WH.two 4 11 (by kernel_rfl) rfl rfl ?_ ?_ 
        · skip
          refine WL.ld rfl rfl rfl rfl rfl (ql_s_2_int _ _ _ _ _ (by first | exact hT.bx.cell (j := 2) rfl | exact (hT.bx.fr (fr_al (Fr.refl (fun _ => False) _) _) id).cell (j := 2) rfl)) ?_
          refine WL.fin HW ?_
          refine WH.one 11 (by kernel_rfl) rfl ?_ 
          refine O.bsl rfl rfl rfl rfl rfl (qv_s_2_int_1 _ _ _) ?_
          refine WL.fin (fr_al HW _) ?_
          refine WH.one 12 (by kernel_rfl) rfl ?_ 
          refine WL.append rfl rfl rfl rfl rfl rfl (pr_app ((n : Int), (yn : Int)) _ hT.hb (by have := hT.bt; have := hT.bx.lt; omega) (by omega)) ?_
          rintro vq wq ⟨hR, hFa, hn1⟩
          -- world wq
          replace HW := HW.trans' hFa (fun q hq e => by first | exact e | exact .inl e | exact .inr (.inr (.inr e)))
          refine WL.fin HW ?_
          refine WH.take 13 rfl (by kernel_rfl) (by kernel_rfl) (by kernel_rfl) (fun _ _ _ _ _ h => h) rfl rfl rfl HW (RH.nck rfl rfl) ?_
          refine WH.take 14 rfl (by kernel_rfl) (by kernel_rfl) (by kernel_rfl) (fun _ _ _ _ _ h => h) rfl rfl rfl HW (RH.field rfl rfl (fun W => qa_rushlightref16_Walk_2 W _ _)) ?_
          refine WH.one 15 (by kernel_rfl) rfl ?_ 
          obtain ⟨qa, qc, rfl⟩ := Row.form hR
          refine O.storeR rfl rfl rfl rfl rfl (qsF_s_2_int _ tb 2 _ _ _ _ _ _ (hT.bx.fr hFa (fun e => hT.bt' e)) rfl) ?_
          rintro w9 ⟨hFb, hbx2⟩
          replace HW := HW.trans' hFb (fun q hq e => by first | exact e | exact .inl e | exact .inr (.inr (.inr e)))
          refine WL.fin HW ?_
          refine WH.end (by kernel_rfl) ?_
          refine Xw.nrm ?_
          have hF1 : Fr (WF tb S vl1 (Value.slice vba xj.back.length vbc)) _ _ := (hFa.mono (fun q _ e => .inr (.inr (.inr e)))).trans (hFb.mono (fun q _ e => .inl e))
          have hO2 := hT.rest hO hF1 (fun k e => .inl e)
          have bx12 := bx1.fr hF1 (hT.no bx1 (by decide) (by decide) (by decide))
          have f02 := f0.trans' hF1 (fun q hq e => by have := (hT.ge e).1; omega)
          have hF2 := hF.trans' hF1 (fun q hq e => by rcases e with e | e | e | e; exact .inl e; exact .inr (.inl e); exact (hv1 q e).elim (fun e => .inr (.inr (.inl e))) (fun e => by omega); exact (hv2 q e).elim (fun e => .inr (.inr (.inr e))) (fun e => by omega))
          have hws1 := hF.size
          have hv12 := hv1
          have hv22 : ∀ k, (Value.slice qa _ qc).ownBlock = some k → vb.ownBlock = some k ∨ w.heap.size ≤ k := fun k e => (hn1 k e).elim (hv2 k) (fun e => .inr (Nat.le_trans hws1 e))
          have hT2 := hT.setB hR hFa hbx2 hFb
          obtain ⟨_, _, e8, hc8, h81, h82, h83⟩ := hO j hj2
          cases e8
          have hc9 := hF1.cell hc (hT.noR h81 h82 h83)
          clear hc
          have hc := hc9
          clear hO bx1 f0 hF hv1 hv2 hT hF1 hws1
          have hO := hO2
          have bx1 := bx12
          have f0 := f02
          have hF := hF2
          have hv1 := hv12
          have hv2 := hv22
          have hT := hT2
          clear hO2 bx12 f02 hF2 hv12 hv22 hT2
          refine Q.sreg (C := fun W => Fr (fun _ => False) w9 W) (by kernel_rfl) (by kernel_rfl) (fun W h => h.drewN 1) (Fr.refl _ _) ?_
          refine W.op rfl rfl rfl (Go.Proofs.Ytobibplilbchfaa.W.quiet_move rfl rfl) ?_
          refine W.op rfl rfl rfl (Q.nck rfl rfl) ?_
          refine W.op rfl rfl rfl (Go.Proofs.Ytobibplilbchfaa.W.quiet_field rfl rfl (fun W => (qa_rushlightref16_Walk_0 W _ _))) ?_
          refine W.op rfl rfl rfl (Go.Proofs.Ytobibplilbchfaa.W.quiet_load rfl rfl (fun W hW => (ql_s_int _ _ _ _ _ ((hT.fr hW).bx.cell (j := 0) rfl)))) ?_
          refine W.op rfl rfl rfl (Go.Proofs.Ytobibplilbchfaa.W.quiet_move rfl rfl) ?_
          refine W.op rfl rfl rfl (Go.Proofs.Ytobibplilbchfaa.W.quiet_move rfl rfl) ?_
          refine W.op rfl rfl rfl (Go.Proofs.Ytobibplilbchfaa.W.quiet_index rfl rfl rfl (fun W => (qi_s_int _ _ _ _ _ _ (by omega)))) ?_
          refine W.op rfl rfl rfl (Go.Proofs.Ytobibplilbchfaa.W.quiet_load rfl rfl (fun W hW => (ql_int _ _ _ (hW.cell hc id)))) ?_
          refine W.op rfl rfl rfl (Go.Proofs.Ytobibplilbchfaa.W.quiet_index rfl rfl rfl (fun W => (qi_s_int _ _ _ _ _ _ (by omega)))) ?_
          refine W.op rfl rfl rfl (Go.Proofs.Ytobibplilbchfaa.W.quiet_load rfl rfl (fun W hW => (ql_int _ _ _ ((hT.fr hW).hs.cell (k := yn) (show yn < xj.st.length by omega))))) ?_
          refine W.op rfl rfl rfl (Go.Proofs.Ytobibplilbchfaa.W.quiet_bin rfl rfl rfl (fun W => qb_eql_int W _ _ _ _)) ?_
          refine Q.split (fun hb => by rw [show xj.st.getD yn 0 = 1 from h3] at hb; exact absurd hb (by decide)) (fun hb => ?_)
          refine Q.nil (T.tw fun wq3 fq3 => ?_)
          replace hT := hT.fr fq3
          replace f0 := f0.trans fq3
          replace hF := hF.trans' fq3 (fun _ _ e => e.elim)
          replace bx1 := bx1.fr fq3 id
          replace hO := hO.fr fq3 (fun _ _ _ _ => id)
          replace hc := fq3.cell hc id
          refine TW.cond rfl (fun hb => by cases hb) (fun _ => ?_)
          refine TW.skipx ?_
          refine Xw.nblk ?_
          refine Xw.nrm ?_
          refine TW.reg ?_
          refine WL.op rfl rfl rfl (Go.Proofs.Ytobibplilbchfaa.W.quiet_move rfl rfl) ?_
          refine WL.op rfl rfl rfl (Go.Proofs.Ytobibplilbchfaa.W.quiet_bin rfl rfl rfl (fun W => qb_add_int W _ _ _ _ (by omega) (by omega))) ?_
          refine WL.op rfl rfl rfl (Go.Proofs.Ytobibplilbchfaa.W.quiet_assign rfl rfl) ?_
          refine WL.end ?_
          refine Xw.any (fun a k => ?_)
          refine ⟨j + 1, by omega, by omega, _, _, (by (repeat (refine Kn.cons k rfl ?_)); exact k.base), f0, hF, ?_, hv1, hv2, bx1, hO⟩
          rw [hnext, hxj, on_back h3, on_nil]
          exact hT
        · skip
          refine O.bsl rfl rfl rfl rfl rfl (qv_s_2_int_1 _ _ _) ?_
          refine WL.fin (fr_al HW _) ?_
          refine WH.one 4 (by kernel_rfl) rfl ?_ 
          refine WL.ld rfl rfl rfl rfl rfl (ql_s_2_int _ _ _ _ _ (by first | exact hT.bx.cell (j := 2) rfl | exact (hT.bx.fr (fr_al (Fr.refl (fun _ => False) _) _) id).cell (j := 2) rfl)) ?_
          refine WL.fin (fr_al HW _) ?_
          refine WH.one 12 (by kernel_rfl) rfl ?_ 
          refine WL.append rfl rfl rfl rfl rfl rfl (pr_app ((n : Int), (yn : Int)) _ hT.hb (by have := hT.bt; have := hT.bx.lt; omega) (by omega)) ?_
          rintro vq wq ⟨hR, hFa, hn1⟩
          -- world wq
          replace HW := HW.trans' hFa (fun q hq e => by first | exact e | exact .inl e | exact .inr (.inr (.inr e)))
          refine WL.fin HW ?_
          refine WH.take 13 rfl (by kernel_rfl) (by kernel_rfl) (by kernel_rfl) (fun _ _ _ _ _ h => h) rfl rfl rfl HW (RH.nck rfl rfl) ?_
          refine WH.take 14 rfl (by kernel_rfl) (by kernel_rfl) (by kernel_rfl) (fun _ _ _ _ _ h => h) rfl rfl rfl HW (RH.field rfl rfl (fun W => qa_rushlightref16_Walk_2 W _ _)) ?_
          refine WH.one 15 (by kernel_rfl) rfl ?_ 
          obtain ⟨qa, qc, rfl⟩ := Row.form hR
          refine O.storeR rfl rfl rfl rfl rfl (qsF_s_2_int _ tb 2 _ _ _ _ _ _ (hT.bx.fr hFa (fun e => hT.bt' e)) rfl) ?_
          rintro w9 ⟨hFb, hbx2⟩
          replace HW := HW.trans' hFb (fun q hq e => by first | exact e | exact .inl e | exact .inr (.inr (.inr e)))
          refine WL.fin HW ?_
          refine WH.end (by kernel_rfl) ?_
          refine Xw.nrm ?_
          have hF1 : Fr (WF tb S vl1 (Value.slice vba xj.back.length vbc)) _ _ := (hFa.mono (fun q _ e => .inr (.inr (.inr e)))).trans (hFb.mono (fun q _ e => .inl e))
          have hO2 := hT.rest hO hF1 (fun k e => .inl e)
          have bx12 := bx1.fr hF1 (hT.no bx1 (by decide) (by decide) (by decide))
          have f02 := f0.trans' hF1 (fun q hq e => by have := (hT.ge e).1; omega)
          have hF2 := hF.trans' hF1 (fun q hq e => by rcases e with e | e | e | e; exact .inl e; exact .inr (.inl e); exact (hv1 q e).elim (fun e => .inr (.inr (.inl e))) (fun e => by omega); exact (hv2 q e).elim (fun e => .inr (.inr (.inr e))) (fun e => by omega))
          have hws1 := hF.size
          have hv12 := hv1
          have hv22 : ∀ k, (Value.slice qa _ qc).ownBlock = some k → vb.ownBlock = some k ∨ w.heap.size ≤ k := fun k e => (hn1 k e).elim (hv2 k) (fun e => .inr (Nat.le_trans hws1 e))
          have hT2 := hT.setB hR hFa hbx2 hFb
          obtain ⟨_, _, e8, hc8, h81, h82, h83⟩ := hO j hj2
          cases e8
          have hc9 := hF1.cell hc (hT.noR h81 h82 h83)
          clear hc
          have hc := hc9
          clear hO bx1 f0 hF hv1 hv2 hT hF1 hws1
          have hO := hO2
          have bx1 := bx12
          have f0 := f02
          have hF := hF2
          have hv1 := hv12
          have hv2 := hv22
          have hT := hT2
          clear hO2 bx12 f02 hF2 hv12 hv22 hT2
          refine Q.sreg (C := fun W => Fr (fun _ => False) w9 W) (by kernel_rfl) (by kernel_rfl) (fun W h => h.drewN 1) (Fr.refl _ _) ?_
          refine W.op rfl rfl rfl (Go.Proofs.Ytobibplilbchfaa.W.quiet_move rfl rfl) ?_
          refine W.op rfl rfl rfl (Q.nck rfl rfl) ?_
          refine W.op rfl rfl rfl (Go.Proofs.Ytobibplilbchfaa.W.quiet_field rfl rfl (fun W => (qa_rushlightref16_Walk_0 W _ _))) ?_
          refine W.op rfl rfl rfl (Go.Proofs.Ytobibplilbchfaa.W.quiet_load rfl rfl (fun W hW => (ql_s_int _ _ _ _ _ ((hT.fr hW).bx.cell (j := 0) rfl)))) ?_
          refine W.op rfl rfl rfl (Go.Proofs.Ytobibplilbchfaa.W.quiet_move rfl rfl) ?_
          refine W.op rfl rfl rfl (Go.Proofs.Ytobibplilbchfaa.W.quiet_move rfl rfl) ?_
          refine W.op rfl rfl rfl (Go.Proofs.Ytobibplilbchfaa.W.quiet_index rfl rfl rfl (fun W => (qi_s_int _ _ _ _ _ _ (by omega)))) ?_
          refine W.op rfl rfl rfl (Go.Proofs.Ytobibplilbchfaa.W.quiet_load rfl rfl (fun W hW => (ql_int _ _ _ (hW.cell hc id)))) ?_
          refine W.op rfl rfl rfl (Go.Proofs.Ytobibplilbchfaa.W.quiet_index rfl rfl rfl (fun W => (qi_s_int _ _ _ _ _ _ (by omega)))) ?_
          refine W.op rfl rfl rfl (Go.Proofs.Ytobibplilbchfaa.W.quiet_load rfl rfl (fun W hW => (ql_int _ _ _ ((hT.fr hW).hs.cell (k := yn) (show yn < xj.st.length by omega))))) ?_
          refine W.op rfl rfl rfl (Go.Proofs.Ytobibplilbchfaa.W.quiet_bin rfl rfl rfl (fun W => qb_eql_int W _ _ _ _)) ?_
          refine Q.split (fun hb => by rw [show xj.st.getD yn 0 = 1 from h3] at hb; exact absurd hb (by decide)) (fun hb => ?_)
          refine Q.nil (T.tw fun wq4 fq4 => ?_)
          replace hT := hT.fr fq4
          replace f0 := f0.trans fq4
          replace hF := hF.trans' fq4 (fun _ _ e => e.elim)
          replace bx1 := bx1.fr fq4 id
          replace hO := hO.fr fq4 (fun _ _ _ _ => id)
          replace hc := fq4.cell hc id
          refine TW.cond rfl (fun hb => by cases hb) (fun _ => ?_)
          refine TW.skipx ?_
          refine Xw.nblk ?_
          refine Xw.nrm ?_
          refine TW.reg ?_
          refine WL.op rfl rfl rfl (Go.Proofs.Ytobibplilbchfaa.W.quiet_move rfl rfl) ?_
          refine WL.op rfl rfl rfl (Go.Proofs.Ytobibplilbchfaa.W.quiet_bin rfl rfl rfl (fun W => qb_add_int W _ _ _ _ (by omega) (by omega))) ?_
          refine WL.op rfl rfl rfl (Go.Proofs.Ytobibplilbchfaa.W.quiet_assign rfl rfl) ?_
          refine WL.end ?_
          refine Xw.any (fun a k => ?_)
          refine ⟨j + 1, by omega, by omega, _, _, (by (repeat (refine Kn.cons k rfl ?_)); exact k.base), f0, hF, ?_, hv1, hv2, bx1, hO⟩
          rw [hnext, hxj, on_back h3, on_nil]
          exact hT
    · skip
      have h4 : xj.st.getD (yn : Int).toNat 0 ≠ 1 := by simpa using hb5
      refine Q.nil (T.tw fun wq5 fq5 => ?_)
      replace hT := hT.fr fq5
      replace f0 := f0.trans fq5
      replace hF := hF.trans' fq5 (fun _ _ e => e.elim)
      replace bx1 := bx1.fr fq5 id
      replace hO := hO.fr fq5 (fun _ _ _ _ => id)
      replace hc := fq5.cell hc id
      refine TW.cond rfl (fun hb => by cases hb) (fun _ => ?_)
      refine TW.skip ?_
      refine Q.sreg (C := fun W => Fr (fun _ => False) wq5 W) (by kernel_rfl) (by kernel_rfl) (fun W h => h.drewN 1) (Fr.refl _ _) ?_
      refine W.op rfl rfl rfl (Go.Proofs.Ytobibplilbchfaa.W.quiet_move rfl rfl) ?_
      refine W.op rfl rfl rfl (Q.nck rfl rfl) ?_
      refine W.op rfl rfl rfl (Go.Proofs.Ytobibplilbchfaa.W.quiet_field rfl rfl (fun W => (qa_rushlightref16_Walk_0 W _ _))) ?_
      refine W.op rfl rfl rfl (Go.Proofs.Ytobibplilbchfaa.W.quiet_load rfl rfl (fun W hW => (ql_s_int _ _ _ _ _ ((hT.fr hW).bx.cell (j := 0) rfl)))) ?_
      refine W.op rfl rfl rfl (Go.Proofs.Ytobibplilbchfaa.W.quiet_move rfl rfl) ?_
      refine W.op rfl rfl rfl (Go.Proofs.Ytobibplilbchfaa.W.quiet_move rfl rfl) ?_
      refine W.op rfl rfl rfl (Go.Proofs.Ytobibplilbchfaa.W.quiet_index rfl rfl rfl (fun W => (qi_s_int _ _ _ _ _ _ (by omega)))) ?_
      refine W.op rfl rfl rfl (Go.Proofs.Ytobibplilbchfaa.W.quiet_load rfl rfl (fun W hW => (ql_int _ _ _ (hW.cell hc id)))) ?_
      refine W.op rfl rfl rfl (Go.Proofs.Ytobibplilbchfaa.W.quiet_index rfl rfl rfl (fun W => (qi_s_int _ _ _ _ _ _ (by omega)))) ?_
      refine W.op rfl rfl rfl (Go.Proofs.Ytobibplilbchfaa.W.quiet_load rfl rfl (fun W hW => (ql_int _ _ _ ((hT.fr hW).hs.cell (k := yn) (show yn < xj.st.length by omega))))) ?_
      refine W.op rfl rfl rfl (Go.Proofs.Ytobibplilbchfaa.W.quiet_bin rfl rfl rfl (fun W => qb_eql_int W _ _ _ _)) ?_
      refine Q.split (fun hb6 => ?_) (fun hb6 => ?_)
      · skip
        have h3 : xj.st.getD (yn : Int).toNat 0 = 0 := by simpa using hb6
        refine Q.nil (T.tw fun wq6 fq6 => ?_)
        replace hT := hT.fr fq6
        replace f0 := f0.trans fq6
        replace hF := hF.trans' fq6 (fun _ _ e => e.elim)
        replace bx1 := bx1.fr fq6 id
        replace hO := hO.fr fq6 (fun _ _ _ _ => id)
        replace hc := fq6.cell hc id
        refine TW.cond rfl (fun _ => ?_) (fun hb => by cases hb)
        obtain ⟨_, _, e9, hcs, hc1s, hc2s, hc3s⟩ := hO j hj2
        cases e9
        rw [hyn] at hcs
        have hTs := hT
        have bx1s := bx1
        refine TW.regH (fun W => Fr (WF tb S vl1 vb1) wq6 W) (by kernel_rfl) ?_
        have fd : Fr (fun _ => False) wq6 wq6.drew := (Fr.refl _ _).drewN 1
        have HW : Fr (WF tb S vl1 vb1) wq6 wq6.drew := (Fr.refl _ _).drewN 1
        replace hT := hT.fr fd
        replace f0 := f0.trans fd
        replace hF := hF.trans' fd (fun _ _ e => e.elim)
        replace bx1 := bx1.fr fd id
        replace hO := hO.fr fd (fun _ _ _ _ => id)
        replace hc := fd.cell hc id
        generalize hV : wq6.drew = V2 at *
        clear hV
        refine WH.take 0 rfl (by kernel_rfl) (by kernel_rfl) (by kernel_rfl) (fun _ _ _ _ _ h => h) rfl rfl rfl HW (RH.move rfl rfl) ?_
        refine WH.take 1 rfl (by kernel_rfl) (by kernel_rfl) (by kernel_rfl) (fun _ _ _ _ _ h => h) rfl rfl rfl HW (RH.load rfl rfl (fun W hW => qlB_api_Proc _ _ _ _ _ _ _ _ _ _ _ _ _ (bx1s.fr hW (hTs.no bx1s (by decide) (by decide) (by decide))))) ?_
        refine WH.take 2 rfl (by kernel_rfl) (by kernel_rfl) (by kernel_rfl) (fun _ _ _ _ _ h => h) rfl rfl rfl HW (RH.move rfl rfl) ?_
        refine WH.take 3 rfl (by kernel_rfl) (by kernel_rfl) (by kernel_rfl) (fun _ _ _ _ _ h => h) rfl rfl rfl HW (RH.move rfl rfl) ?_
        refine WH.take 4 rfl (by kernel_rfl) (by kernel_rfl) (by kernel_rfl) (fun _ _ _ _ _ h => h) rfl rfl rfl HW (RH.index rfl rfl rfl (fun W => (qi_s_int _ _ _ _ _ _ (by omega)))) ?_
        refine WH.take 5 rfl (by kernel_rfl) (by kernel_rfl) (by kernel_rfl) (fun _ _ _ _ _ h => h) rfl rfl rfl HW (RH.load rfl rfl (fun W hW => ql_int _ _ _ (hW.cell hcs (hTs.noR hc1s hc2s hc3s)))) ?_
        refine WH.one 6 (by kernel_rfl) rfl ?_ 
        refine WL.call (hr := ih yn B tb S vl1 vb1 xj L K hL hK w0 _ hB f0 hbl (by omega) h3 (by omega) hlim hT) rfl rfl rfl rfl rfl (fun W => qk_rushlightref16_Walk_Into W _) ?_
        rintro e w7 ⟨rfl, ⟨vl2, vb2, hT2, hs1, hs2⟩, hFc⟩
        refine ⟨_, rfl, ?_⟩
        replace HW := HW.trans' hFc (fun q hq e => by first | exact e | exact Or.inl e | exact Or.inr e | omega)
        refine WL.fin HW ?_
        refine WH.end (by kernel_rfl) ?_
        refine Xw.nblk ?_
        refine Xw.nrm ?_
        have hF1 : Fr (WF tb S vl1 vb1) _ _ := hFc
        have hO2 := hT.rest hO hF1 hs1
        have bx12 := bx1.fr hF1 (hT.no bx1 (by decide) (by decide) (by decide))
        have f02 := f0.trans' hF1 (fun q hq e => by have := (hT.ge e).1; omega)
        have hF2 := hF.trans' hF1 (fun q hq e => by rcases e with e | e | e | e; exact .inl e; exact .inr (.inl e); exact (hv1 q e).elim (fun e => .inr (.inr (.inl e))) (fun e => by omega); exact (hv2 q e).elim (fun e => .inr (.inr (.inr e))) (fun e => by omega))
        have hws1 := hF.size
        have hv12 : ∀ k, (vl2).ownBlock = some k → vl.ownBlock = some k ∨ w.heap.size ≤ k := fun k e => (hs1 k e).elim (hv1 k) (fun e => .inr (Nat.le_trans hws1 e))
        have hv22 : ∀ k, (vb2).ownBlock = some k → vb.ownBlock = some k ∨ w.heap.size ≤ k := fun k e => (hs2 k e).elim (hv2 k) (fun e => .inr (Nat.le_trans hws1 e))
        clear hO bx1 f0 hF hv1 hv2 hT hF1 hws1
        have hO := hO2
        have bx1 := bx12
        have f0 := f02
        have hF := hF2
        have hv1 := hv12
        have hv2 := hv22
        have hT := hT2
        clear hO2 bx12 f02 hF2 hv12 hv22 hT2
        refine TW.reg ?_
        refine WL.op rfl rfl rfl (Go.Proofs.Ytobibplilbchfaa.W.quiet_move rfl rfl) ?_
        refine WL.op rfl rfl rfl (Go.Proofs.Ytobibplilbchfaa.W.quiet_bin rfl rfl rfl (fun W => qb_add_int W _ _ _ _ (by omega) (by omega))) ?_
        refine WL.op rfl rfl rfl (Go.Proofs.Ytobibplilbchfaa.W.quiet_assign rfl rfl) ?_
        refine WL.end ?_
        refine Xw.any (fun a k => ?_)
        refine ⟨j + 1, by omega, by omega, _, _, (by (repeat (refine Kn.cons k rfl ?_)); exact k.base), f0, hF, ?_, hv1, hv2, bx1, hO⟩
        rw [hnext, hxj, on_enter h3, on_nil]
        exact hT
      · skip
        have h3 : xj.st.getD (yn : Int).toNat 0 ≠ 0 := by simpa using hb6
        refine Q.nil (T.tw fun wq7 fq7 => ?_)
        replace hT := hT.fr fq7
        replace f0 := f0.trans fq7
        replace hF := hF.trans' fq7 (fun _ _ e => e.elim)
        replace bx1 := bx1.fr fq7 id
        replace hO := hO.fr fq7 (fun _ _ _ _ => id)
        replace hc := fq7.cell hc id
        refine TW.cond rfl (fun hb => by cases hb) (fun _ => ?_)
        refine TW.skipx ?_
        refine Xw.nblk ?_
        refine Xw.nrm ?_
        refine TW.reg ?_
        refine WL.op rfl rfl rfl (Go.Proofs.Ytobibplilbchfaa.W.quiet_move rfl rfl) ?_
        refine WL.op rfl rfl rfl (Go.Proofs.Ytobibplilbchfaa.W.quiet_bin rfl rfl rfl (fun W => qb_add_int W _ _ _ _ (by omega) (by omega))) ?_
        refine WL.op rfl rfl rfl (Go.Proofs.Ytobibplilbchfaa.W.quiet_assign rfl rfl) ?_
        refine WL.end ?_
        refine Xw.any (fun a k => ?_)
        refine ⟨j + 1, by omega, by omega, _, _, (by (repeat (refine Kn.cons k rfl ?_)); exact k.base), f0, hF, ?_, hv1, hv2, bx1, hO⟩
        rw [hnext, hxj, on_skip h3 h4, on_nil]
        exact hT
  · skip
    have hje : j = (outsF bs n).length := by have := of_decide_eq_false hbj; omega
    subst hje
    rw [List.take_length] at hT
    obtain ⟨xj, hxj⟩ : ∃ xj, onF bs f (n : Int) (outsF bs n) (⟨x.st.set n 1, x.left, x.back⟩ : Wk) = xj := ⟨_, rfl⟩
    rw [hxj] at hT
    obtain ⟨m1, m2, m3, m4⟩ := lim_on bs f (n : Int) (outsF bs n) (⟨x.st.set n 1, x.left, x.back⟩ : Wk) (L - 1) K (fun y hy => outsF_in hy) (by show (x.st.set n 1).length = _; rw [List.length_set]; omega) (by show zer (x.st.set n 1) ≤ f; omega) (by show x.left.length + zer (x.st.set n 1) ≤ L - 1; have := hm.l; omega) (by show x.back.length + (outsF bs n).length + 2 * zer (x.st.set n 1) ≤ K; have := hm.b; omega)
    rw [hxj] at m1 m2 m3 m4
    refine WL.nil ?_
    refine TW.cond rfl (fun hb => by cases hb) (fun _ => ?_)
    refine TW.exit ?_
    refine Xw.thn (by simp) ?_
    refine Xw.thn (by simp) ?_
    refine Xw.hit ?_
    refine Xw.nrm ?_
    refine TW.sreg ?_
    refine WL.op rfl rfl rfl (Go.Proofs.Ytobibplilbchfaa.W.quiet_move rfl rfl) ?_
    refine O.nck rfl rfl rfl rfl rfl ?_
    refine WL.op rfl rfl rfl (Go.Proofs.Ytobibplilbchfaa.W.quiet_field rfl rfl (fun W => (qa_rushlightref16_Walk_0 W _ _))) ?_
    refine WL.ld rfl rfl rfl rfl rfl (ql_s_int _ _ _ _ _ (hT.bx.cell (j := 0) rfl)) ?_
    refine WL.op rfl rfl rfl (Go.Proofs.Ytobibplilbchfaa.W.quiet_move rfl rfl) ?_
    refine O.ixa rfl rfl rfl rfl rfl rfl (qi_s_int _ _ _ _ _ _ (by omega)) ?_
    refine O.storeR rfl rfl rfl rfl rfl (hT.hs.store (k := n) (by omega) 2) ?_
    rintro w8 ⟨hI2, hFs⟩
    have hF3 := hF.trans' hFs (fun q hq e => .inr (.inl e))
    have hTa := hT.setS hI2 hFs
    obtain ⟨vla, vlc, rfl⟩ := Row.form hT.hl
    have hws2 := hF.size
    have hws3 := hFs.size
    refine WL.nil ?_
    refine TW.reg ?_
    refine WL.op rfl rfl rfl (Go.Proofs.Ytobibplilbchfaa.W.quiet_move rfl rfl) ?_
    refine WL.op rfl rfl rfl (Go.Proofs.Ytobibplilbchfaa.W.quiet_move rfl rfl) ?_
    refine O.nck rfl rfl rfl rfl rfl ?_
    refine WL.op rfl rfl rfl (Go.Proofs.Ytobibplilbchfaa.W.quiet_field rfl rfl (fun W => (qa_rushlightref16_Walk_1 W _ _))) ?_
    refine WL.ld rfl rfl rfl rfl rfl (ql_s_int _ _ _ _ _ (hTa.bx.cell (j := 1) rfl)) ?_
    refine WL.op rfl rfl rfl (Go.Proofs.Ytobibplilbchfaa.W.quiet_move rfl rfl) ?_
    refine O.bsl rfl rfl rfl rfl rfl (qv_s_int_1 _ _) ?_
    refine WL.append rfl rfl rfl rfl rfl rfl (Ints.app (n : Int) _ hTa.hl (by have := hTa.bt; have := hTa.bx.lt; omega) (show xj.left.length ≤ 1000000 by omega)) ?_
    rintro vq wq ⟨hR, hFa, hn1⟩
    obtain ⟨qa, qc, rfl⟩ := Row.form hR
    -- world wq
    refine O.nck rfl rfl rfl rfl rfl ?_
    refine WL.op rfl rfl rfl (Go.Proofs.Ytobibplilbchfaa.W.quiet_field rfl rfl (fun W => (qa_rushlightref16_Walk_1 W _ _))) ?_
    refine O.storeR rfl rfl rfl rfl rfl (qsF_s_int _ tb 1 _ _ _ _ _ _ (hTa.bx.fr hFa (fun e => hTa.lt e)) rfl) ?_
    rintro w9 ⟨hFb, hbx2⟩
    refine WL.end ?_
    refine O.end0 rfl ?_
    have hTb := hTa.setL hR hFa hn1 hbx2 hFb
    refine ⟨rfl, ⟨_, _, by rw [into_succ, Int.toNat_natCast, hxj]; exact hTb, fun k e => (hn1 k e).elim (hv1 k) (fun e => .inr (by omega)), hv2⟩, (hF3.trans' hFa (fun q hq e => (hv1 q e).elim (fun e => .inr (.inr (.inl e))) (fun e => by omega))).trans' hFb (fun q hq e => .inl e)⟩
theorem t_into (nm : ByteArray) (vd : Bool) (pr R : Int) (oa : Option Addr) (on oc : Nat) (ba : Option Addr) (bs : List Bk) (bc : Nat) : ∀ f, IntoC nm vd pr R oa on oc ba bs bc f
  | 0 => fun n B tb S vl vb x L K hL hK w0 w hB f0 hbl hn h0 hz hm hT => by
    have := zer_set (st := x.st) (n := n) (by have := (Row.capLe hT.hs).1; omega) h0
    omega
  | f + 1 => into_step nm vd pr R oa on oc ba bs bc f (t_into nm vd pr R oa on oc ba bs bc f)
end Go.Proofs.Ytobibplilbchfaa
