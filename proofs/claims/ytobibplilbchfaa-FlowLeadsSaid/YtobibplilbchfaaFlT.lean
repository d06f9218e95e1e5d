/-
  Flow (layer 16): the walk of FlowLeads.
-/
import Derived.Test.YtobibplilbchfaaFlS
import Derived.Test.YtobibplilbchfaaFlU
import Derived.Test.YtobibplilbchfaaFlO
import Derived.Test.YtobibplilbchfaaFlK
import Derived.Test.YtobibplilbchfaaFlQ
namespace Go.Proofs.Ytobibplilbchfaa
open Go.RowKit
set_option linter.unusedVariables false
set_option linter.unusedSimpArgs false
theorem qk_rushlightlaw16_few (w : World) (vs : Array Value) : (callFunc 6 vs).run Try.prog w = .ok (.enter 6 vs) w := by simp [go_sem]
theorem qk_rushlightlaw16_awake (w : World) (vs : Array Value) : (callFunc 7 vs).run Try.prog w = .ok (.enter 7 vs) w := by simp [go_sem]
theorem qk_flow_Reach (w : World) (vs : Array Value) : (callFunc 9 vs).run Try.prog w = .ok (.enter 9 vs) w := by simp [go_sem]
theorem qk_rushlightref16_Reach (w : World) (vs : Array Value) : (callFunc 11 vs).run Try.prog w = .ok (.enter 11 vs) w := by simp [go_sem]
theorem qn_s_s_int (w : World) (a : Option Addr) (k l : Nat) : (Builtin.len_ #[28] 3 #[.slice a k l]).run Try.prog w = .ok (.int .i64 k) w := by simp [go_sem]
theorem qk_rushlightref16_Order (w : World) (vs : Array Value) : (callFunc 15 vs).run Try.prog w = .ok (.enter 15 vs) w := by simp [go_sem]
theorem qk_rushlightlaw16_same (w : World) (vs : Array Value) : (callFunc 13 vs).run Try.prog w = .ok (.enter 13 vs) w := by simp [go_sem]
theorem qb_neq_bool (w : World) (x y : Operand) (m n : Bool) : ((do eqGuard .neq 4 x y (.bool m) (.bool n); binOp .neq 4 (.bool m) (.bool n) : Sem Value)).run Try.prog w = .ok (.bool (m != n)) w := by cases m <;> cases n <;> simp [go_sem]
theorem qk_rushlightref16_Preds (w : World) (vs : Array Value) : (callFunc 16 vs).run Try.prog w = .ok (.enter 16 vs) w := by simp [go_sem]
theorem reach_eq {bs : List Bk} {xs : List Bool} (hf : Fin_ bs xs) {j : Nat} (hj : j < bs.length) : (seenF bs (walkedF bs).left).getD j false = xs.getD j false := by
  have h1 := (walked_ok bs (by omega)).2 j hj
  have h2 := hf j hj
  have e : (seenF bs (walkedF bs).left).getD j false = (walkedF bs).left.contains (j : Int) := by unfold seenF; simp [List.getD_eq_getElem?_getD, hj]
  rw [e, Bool.eq_iff_iff, List.contains_iff_mem, h1, h2]
theorem preds_last {bs : List Bk} {j : Nat} (hj : j < bs.length) : (predsJ bs bs.length 0).getD j [] = predsN bs (j : Int) bs.length := by
  rw [predsJ_get bs _ _ _ hj]
  simp
set_option maxRecDepth 100000 in
theorem t_same1 (a1 a2 : Option Addr) (c1 c2 : Nat) (x : List Int) (hlx : x.length ≤ 1000000) (w : World) (hx : IntsAt w a1 x) (hy : IntsAt w a2 x) : Calls Try.prog 13 #[.slice a1 x.length c1, .slice a2 x.length c2] w fun e w' => e = .returned (.bool true) ∧ Fr (fun _ => False) w w' := by
  have ff := Fr.refl (fun _ => False) w
  refine calls_tw Try.func13 rfl rfl (Nat.le_of_ble_eq_true rfl) ?_
  refine TW.sreg ?_
  refine WL.op rfl rfl rfl (Go.Proofs.Ytobibplilbchfaa.W.quiet_assign rfl rfl) ?_
  refine WL.nil ?_
  refine TW.seq ?_
  refine TW.sreg ?_
  refine WL.op rfl rfl rfl (Go.Proofs.Ytobibplilbchfaa.W.quiet_move rfl rfl) ?_
  refine O.len rfl rfl rfl rfl rfl (qn_s_int _ _ _ _) ?_
  refine WL.op rfl rfl rfl (Go.Proofs.Ytobibplilbchfaa.W.quiet_move rfl rfl) ?_
  refine O.len rfl rfl rfl rfl rfl (qn_s_int _ _ _ _) ?_
  refine WL.op rfl rfl rfl (Go.Proofs.Ytobibplilbchfaa.W.quiet_bin rfl rfl rfl (fun W => qb_neq_int W _ _ _ _)) ?_
  refine O.split (fun hb => by exfalso; revert hb; first | (simp; done) | (simp; omega)) (fun hb => ?_)
  refine WL.nil ?_
  refine TW.cond rfl (fun hb => by cases hb) (fun _ => ?_)
  refine TW.skip ?_
  refine TW.seq ?_
  refine TW.sreg ?_
  refine WL.op rfl rfl rfl (Go.Proofs.Ytobibplilbchfaa.W.quiet_assign rfl rfl) ?_
  refine WL.nil ?_
  refine TW.block ?_
  refine O.loopG (n := x.length) (fun a _ => (intOf (a.tmps.getD 5 undef)).toNat) (fun j a W => Kn Try.f13.ntmps [(0, .slice a1 x.length c1), (1, .slice a2 x.length c2), (5, .int .i64 (j : Int))] a ∧ Fr (fun _ => False) w W) (fun j a W h => O.slotv h.1 rfl) 0 (Nat.zero_le _) (fun a k => ⟨(by (repeat (refine Kn.cons k rfl ?_)); exact k.base), ff⟩) ?_
  rintro j a w1 hj ⟨k, ff⟩
  refine TW.app (s := [(0, .slice a1 x.length c1), (1, .slice a2 x.length c2), (5, .int .i64 (j : Int))]) ?_ k
  refine TW.seq ?_
  refine TW.sreg ?_
  refine WL.op rfl rfl rfl (Go.Proofs.Ytobibplilbchfaa.W.quiet_move rfl rfl) ?_
  refine WL.op rfl rfl rfl (Go.Proofs.Ytobibplilbchfaa.W.quiet_move rfl rfl) ?_
  refine O.len rfl rfl rfl rfl rfl (qn_s_int _ _ _ _) ?_
  refine WL.op rfl rfl rfl (Go.Proofs.Ytobibplilbchfaa.W.quiet_bin rfl rfl rfl (fun W => qb_lss_int W _ _ _ _)) ?_
  refine O.split (fun hb1 => ?_) (fun hb1 => ?_)
  · skip
    have hj2 : j < x.length := by have := of_decide_eq_true hb1; omega
    obtain ⟨g, o, rfl, h1⟩ := (hx.fr ff) j hj2
    obtain ⟨g2, o2, rfl, h2⟩ := (hy.fr ff) j hj2
    refine WL.nil ?_
    refine TW.cond rfl (fun _ => ?_) (fun hb => by cases hb)
    refine TW.skip ?_
    refine TW.seq ?_
    refine TW.block ?_
    refine Q.sreg (C := fun W => Fr (fun _ => False) w1 W) (by kernel_rfl) (by kernel_rfl) (fun W h => h.drewN 1) (Fr.refl _ _) ?_
    refine W.op rfl rfl rfl (Go.Proofs.Ytobibplilbchfaa.W.quiet_move rfl rfl) ?_
    refine W.op rfl rfl rfl (Go.Proofs.Ytobibplilbchfaa.W.quiet_move rfl rfl) ?_
    refine W.op rfl rfl rfl (Go.Proofs.Ytobibplilbchfaa.W.quiet_index rfl rfl rfl (fun W => (qi_s_int _ _ _ _ _ _ (by omega)))) ?_
    refine W.op rfl rfl rfl (Go.Proofs.Ytobibplilbchfaa.W.quiet_load rfl rfl (fun W hW => (ql_int _ _ _ (hW.cell h1 id)))) ?_
    refine W.op rfl rfl rfl (Go.Proofs.Ytobibplilbchfaa.W.quiet_move rfl rfl) ?_
    refine W.op rfl rfl rfl (Go.Proofs.Ytobibplilbchfaa.W.quiet_move rfl rfl) ?_
    refine W.op rfl rfl rfl (Go.Proofs.Ytobibplilbchfaa.W.quiet_index rfl rfl rfl (fun W => (qi_s_int _ _ _ _ _ _ (by omega)))) ?_
    refine W.op rfl rfl rfl (Go.Proofs.Ytobibplilbchfaa.W.quiet_load rfl rfl (fun W hW => (ql_int _ _ _ (hW.cell h2 id)))) ?_
    refine W.op rfl rfl rfl (Go.Proofs.Ytobibplilbchfaa.W.quiet_bin rfl rfl rfl (fun W => qb_neq_int W _ _ _ _)) ?_
    refine Q.split (fun hb => by exfalso; revert hb; first | (simp; done) | (simp; omega)) (fun hb => ?_)
    refine Q.nil (T.tw fun wq1 fq1 => ?_)
    replace ff := ff.trans fq1
    refine TW.cond rfl (fun hb => by cases hb) (fun _ => ?_)
    refine TW.skipx ?_
    refine Xw.nblk ?_
    refine Xw.nrm ?_
    refine TW.reg ?_
    refine WL.op rfl rfl rfl (Go.Proofs.Ytobibplilbchfaa.W.quiet_move rfl rfl) ?_
    refine WL.op rfl rfl rfl (Go.Proofs.Ytobibplilbchfaa.W.quiet_bin rfl rfl rfl (fun W => qb_add_int W _ _ _ _ (by omega) (by omega))) ?_
    refine WL.op rfl rfl rfl (Go.Proofs.Ytobibplilbchfaa.W.quiet_assign rfl rfl) ?_
    refine WL.end ?_
    refine Xw.any (fun a k => ?_)
    exact ⟨j + 1, by omega, by omega, (by (repeat (refine Kn.cons k rfl ?_)); exact k.base), ff⟩
  · skip
    refine WL.nil ?_
    refine TW.cond rfl (fun hb => by cases hb) (fun _ => ?_)
    refine TW.exit ?_
    refine Xw.thn (by simp) ?_
    refine Xw.thn (by simp) ?_
    refine Xw.hit ?_
    refine Xw.nrm ?_
    refine TW.sreg ?_
    refine WL.op rfl rfl rfl (Go.Proofs.Ytobibplilbchfaa.W.quiet_assign rfl rfl) ?_
    refine WL.nil ?_
    refine TW.rt ?_
    refine bodyw_ret rfl rfl ?_
    exact ⟨rfl, ff⟩
set_option maxRecDepth 100000 in
set_option maxHeartbeats 1000000 in
theorem walk_leads (nm : ByteArray) (vd : Bool) (pr R : Int) (oa : Option Addr) (on oc : Nat) (ba : Option Addr) (bs : List Bk) (bc : Nat) (hwd : Wd bs) (w : World) (hbl : BkL w ba bs) : Calls Try.prog 3 #[.agg #[.string nm, .bool vd, .int .i64 pr, .int .i64 R, .slice oa on oc, .slice ba bs.length bc]] w fun e w' => e = .returned (.bool true) ∧ Fr (fun _ => False) w w' := by
  have ff := Fr.refl (fun _ => False) w
  refine calls_tw Try.func3 rfl rfl (Nat.le_of_ble_eq_true rfl) ?_
  refine TW.sreg ?_
  have lw1 := ff.size
  refine O.boxR rfl rfl rfl rfl rfl (qxR_api_Proc w _ _ _ _ _ _ _ _ _ _) ?_
  rintro wa1 ⟨fa1, bx1⟩
  replace ff := ff.trans fa1
  refine WL.op rfl rfl rfl (Go.Proofs.Ytobibplilbchfaa.W.quiet_assign rfl rfl) ?_
  refine WL.nil ?_
  refine TW.seq ?_
  refine TW.sreg ?_
  refine WL.ld rfl rfl rfl rfl rfl (qlB_api_Proc _ _ _ _ _ _ _ _ _ _ _ _ _ bx1) ?_
  refine WL.call (hr := t_few nm vd pr R oa on oc ba bs bc hwd _ (hbl.fr ff)) rfl rfl rfl rfl rfl (fun W => qk_rushlightlaw16_few W _) ?_
  rintro e w1 ⟨b1, rfl, hb1, f1⟩
  refine ⟨_, rfl, ?_⟩
  replace bx1 := bx1.fr f1 id
  replace ff := ff.trans f1
  cases b1
  · clear hb1
    refine WL.op rfl rfl rfl (Go.Proofs.Ytobibplilbchfaa.W.quiet_not rfl rfl) ?_
    refine O.split (fun hb => ?_) (fun hb => by exfalso; revert hb; first | (simp; done) | (simp; omega))
    refine WL.nil ?_
    refine TW.cond rfl (fun _ => ?_) (fun hb => by cases hb)
    refine TW.sreg ?_
    refine WL.call (hr := t_awake _) rfl rfl rfl rfl rfl (fun W => qk_rushlightlaw16_awake W _) ?_
    rintro e w2 ⟨rfl, f2⟩
    refine ⟨_, rfl, ?_⟩
    replace bx1 := bx1.fr f2 id
    replace ff := ff.trans f2
    refine WL.op rfl rfl rfl (Go.Proofs.Ytobibplilbchfaa.W.quiet_assign rfl rfl) ?_
    refine WL.nil ?_
    refine TW.rt ?_
    refine Xw.thn (by simp) ?_
    refine bodyw_ret rfl rfl ?_
    exact ⟨rfl, ff⟩
  · obtain ⟨hR30, hn40, _⟩ := hb1 rfl
    have hlb := left_in bs
    refine WL.op rfl rfl rfl (Go.Proofs.Ytobibplilbchfaa.W.quiet_not rfl rfl) ?_
    refine O.split (fun hb => by exfalso; revert hb; first | (simp; done) | (simp; omega)) (fun hb => ?_)
    obtain ⟨_, hll, hlbk⟩ := hlb
    refine WL.nil ?_
    refine TW.cond rfl (fun hb => by cases hb) (fun _ => ?_)
    refine TW.skip ?_
    refine O.mid (fun a W => ∃ (Sp : Nat) (vs : List Value) (B1 gr cr B2 : Nat) (ab : Option Addr) (cb : Nat), Kn Try.f3.ntmps [(1, .pointer (some ⟨w.heap.size, 0, none⟩)), (3, .slice (some ⟨Sp, 0, none⟩) bs.length bs.length), (4, .slice (some ⟨gr, 0, none⟩) bs.length cr), (5, .slice ab (walkedF bs).back.length cb)] a ∧ Fr (fun _ => False) w W ∧ Bx W w.heap.size #[.string nm, .bool vd, .int .i64 pr, .int .i64 R, .slice oa on oc, .slice ba bs.length bc] 25 ∧ Tbl Sp 3 34 iC W Sp bs.length vs (predsJ bs bs.length 0) ∧ Bools B1 W (.slice (some ⟨gr, 0, none⟩) bs.length cr) (seenF bs (walkedF bs).left) ∧ Row B2 41 2 pC W (.slice ab (walkedF bs).back.length cb) (walkedF bs).back) ?_ ?_
    · skip
      have b1 := bx1
      refine TW.regH (fun W => Fr (fun _ => False) w1 W) (by kernel_rfl) ?_
      have fd : Fr (fun _ => False) w1 w1.drew := (Fr.refl _ _).drewN 1
      have HW : Fr (fun _ => False) w1 w1.drew := (Fr.refl _ _).drewN 1
      replace bx1 := bx1.fr fd id
      replace ff := ff.trans fd
      generalize hV : w1.drew = V1 at *
      clear hV
      refine WH.take 0 rfl (by kernel_rfl) (by kernel_rfl) (by kernel_rfl) (fun _ _ _ _ _ h => h) rfl rfl rfl HW (RH.load rfl rfl (fun W hW => qlB_api_Proc _ _ _ _ _ _ _ _ _ _ _ _ _ (b1.fr hW id))) ?_
      refine WH.take 2 rfl (by kernel_rfl) (by kernel_rfl) (by kernel_rfl) (fun _ _ _ _ _ h => h) rfl rfl rfl HW (RH.load rfl rfl (fun W hW => qlB_api_Proc _ _ _ _ _ _ _ _ _ _ _ _ _ (b1.fr hW id))) ?_
      refine WH.take 4 rfl (by kernel_rfl) (by kernel_rfl) (by kernel_rfl) (fun _ _ _ _ _ h => h) rfl rfl rfl HW (RH.load rfl rfl (fun W hW => qlB_api_Proc _ _ _ _ _ _ _ _ _ _ _ _ _ (b1.fr hW id))) ?_
      refine WH.one 1 (by kernel_rfl) rfl ?_ 
      refine WL.call (hr := (t_preds _ _ _ _ _ _ _ _ bs _ (by omega) _ (hbl.fr ff))) rfl rfl rfl rfl rfl (fun W => qk_flow_Preds W _) ?_
      rintro e wa ⟨Sp, vs, rfl, hP, f1⟩
      refine ⟨_, rfl, ?_⟩
      replace bx1 := bx1.fr f1 id
      replace HW := HW.trans' f1 (fun q hq e => e.elim)
      replace ff := ff.trans f1
      refine WL.fin HW ?_
      refine WH.one 3 (by kernel_rfl) rfl ?_ 
      refine WL.call (hr := (t_reach _ _ _ _ _ _ _ _ bs _ (by omega) _ (hbl.fr ff))) rfl rfl rfl rfl rfl (fun W => qk_flow_Reach W _) ?_
      rintro e wb ⟨B1, gr, cr, rfl, hRe, f2⟩
      refine ⟨_, rfl, ?_⟩
      replace bx1 := bx1.fr f2 id
      replace HW := HW.trans' f2 (fun q hq e => e.elim)
      replace hP := hP.fr0 f2
      replace ff := ff.trans f2
      refine WL.fin HW ?_
      refine WH.one 5 (by kernel_rfl) rfl ?_ 
      refine WL.call (hr := (t_back _ _ _ _ _ _ _ _ bs _ (by omega) _ (hbl.fr ff))) rfl rfl rfl rfl rfl (fun W => qk_flow_Back W _) ?_
      rintro e wc ⟨vb, rfl, hBk, f3⟩
      refine ⟨_, rfl, ?_⟩
      replace bx1 := bx1.fr f3 id
      replace HW := HW.trans' f3 (fun q hq e => e.elim)
      replace hP := hP.fr0 f3
      replace hRe := Bools.fr hRe f3 (fun _ _ => id)
      replace ff := ff.trans f3
      obtain ⟨ab, cb, rfl⟩ := Row.form hBk
      refine WL.fin HW ?_
      refine WH.take 6 rfl (by kernel_rfl) (by kernel_rfl) (by kernel_rfl) (fun _ _ _ _ _ h => h) rfl rfl rfl HW (RH.assign rfl rfl) ?_
      refine WH.take 7 rfl (by kernel_rfl) (by kernel_rfl) (by kernel_rfl) (fun _ _ _ _ _ h => h) rfl rfl rfl HW (RH.assign rfl rfl) ?_
      refine WH.take 8 rfl (by kernel_rfl) (by kernel_rfl) (by kernel_rfl) (fun _ _ _ _ _ h => h) rfl rfl rfl HW (RH.assign rfl rfl) ?_
      refine WH.end (by kernel_rfl) ?_
      refine Xw.any (fun a k => ?_)
      exact ⟨Sp, vs, B1, gr, cr, _, ab, cb, (by (repeat (refine Kn.cons k rfl ?_)); exact k.base), ff, bx1, hP, hRe, hBk⟩
    · rintro a wm ⟨Sp, vs, B1, gr, cr, B2, ab, cb, k, ff, bx1, hP, hRe, hBk⟩
      refine TW.app (s := [(1, .pointer (some ⟨w.heap.size, 0, none⟩)), (3, .slice (some ⟨Sp, 0, none⟩) bs.length bs.length), (4, .slice (some ⟨gr, 0, none⟩) bs.length cr), (5, .slice ab (walkedF bs).back.length cb)]) ?_ k
      refine TW.sreg ?_
      refine WL.ld rfl rfl rfl rfl rfl (qlB_api_Proc _ _ _ _ _ _ _ _ _ _ _ _ _ bx1) ?_
      refine WL.call (hr := (r_reach _ _ _ _ _ _ _ _ bs _ (by omega) _ (hbl.fr ff))) rfl rfl rfl rfl rfl (fun W => qk_rushlightref16_Reach W _) ?_
      rintro e w4 ⟨B3, g3, c3, xs, rfl, hX, hxl, hfin, f4⟩
      refine ⟨_, rfl, ?_⟩
      replace bx1 := bx1.fr f4 id
      replace hP := hP.fr0 f4
      replace hRe := Bools.fr hRe f4 (fun _ _ => id)
      replace hBk := Row.fr hBk f4 (fun _ _ => id)
      replace ff := ff.trans f4
      refine WL.op rfl rfl rfl (Go.Proofs.Ytobibplilbchfaa.W.quiet_assign rfl rfl) ?_
      refine WL.nil ?_
      refine TW.sreg ?_
      refine WL.ld rfl rfl rfl rfl rfl (qlB_api_Proc _ _ _ _ _ _ _ _ _ _ _ _ _ bx1) ?_
      refine WL.call (hr := (r_walked _ _ _ _ _ _ _ _ bs _ (by omega) _ (hbl.fr ff))) rfl rfl rfl rfl rfl (fun W => qk_rushlightref16_Walked W _) ?_
      rintro e w5 ⟨S5, vl, vw, rfl, hl5, hW5, f5⟩
      refine ⟨_, rfl, ?_⟩
      replace bx1 := bx1.fr f5 id
      replace hP := hP.fr0 f5
      replace hRe := Bools.fr hRe f5 (fun _ _ => id)
      replace hBk := Row.fr hBk f5 (fun _ _ => id)
      replace hX := Bools.fr hX f5 (fun _ _ => id)
      replace ff := ff.trans f5
      obtain ⟨la, lc, rfl⟩ := Row.form hl5
      obtain ⟨aw, cw, rfl⟩ := Row.form hW5
      have zP := (Row.lt hP.hs Sp rfl).2
      have zPr := fun (k : Nat) (hk : k < bs.length) (q : Nat) (hq : (vs.getD k nilS).ownBlock = some q) => (Row.lt (hP.hr k hk) q hq).2
      have zRe := fun (q : Nat) hq => (Row.lt hRe q hq).2
      have zBk := fun (q : Nat) hq => (Row.lt hBk q hq).2
      have zX := fun (q : Nat) hq => (Row.lt hX q hq).2
      have zW5 := fun (q : Nat) hq => (Row.lt hW5 q hq).2
      have lt2_bx1 := bx1.lt
      have lw2 := ff.size
      refine O.allocR rfl rfl rfl rfl (qzR_rushlightref16_Walk w5) ?_
      rintro wa2 ⟨fa2, bx2⟩
      replace bx1 := bx1.fr fa2 id
      replace hP := hP.fr0 fa2
      replace hRe := Bools.fr hRe fa2 (fun _ _ => id)
      replace hBk := Row.fr hBk fa2 (fun _ _ => id)
      replace hX := Bools.fr hX fa2 (fun _ _ => id)
      replace hW5 := Row.fr hW5 fa2 (fun _ _ => id)
      replace ff := ff.trans fa2
      refine O.storeR rfl rfl rfl rfl rfl (qsA_rushlightref16_Walk wa2 _ _ _ _ _ _ _ _ _ _ _ _ _ bx2) ?_
      rintro wa3 ⟨fa3, bx2x⟩
      replace bx1 := bx1.fr fa3 (fun e => by omega)
      replace hP := hP.fr fa3 (fun e => by omega) (fun k hk q hq e => by have := zPr k hk q hq; omega)
      replace hRe := Bools.fr hRe fa3 (fun q hq e => by have := zRe q hq; omega)
      replace hX := Bools.fr hX fa3 (fun q hq e => by have := zX q hq; omega)
      replace hBk := Row.fr hBk fa3 (fun q hq e => by have := zBk q hq; omega)
      replace hW5 := Row.fr hW5 fa3 (fun q hq e => by have := zW5 q hq; omega)
      replace ff := ff.trans' fa3 (fun q hq e => by omega)
      clear bx2
      have bx2 := bx2x
      clear bx2x
      refine WL.nil ?_
      refine TW.seq ?_
      refine O.mid (fun a W => Kn Try.f3.ntmps [(1, .pointer (some ⟨w.heap.size, 0, none⟩)), (3, .slice (some ⟨Sp, 0, none⟩) bs.length bs.length), (4, .slice (some ⟨gr, 0, none⟩) bs.length cr), (5, .slice ab (walkedF bs).back.length cb), (6, .slice (some ⟨g3, 0, none⟩) bs.length c3), (7, .pointer (some ⟨w5.heap.size, 0, none⟩)), (52, .bool false)] a ∧ Fr (fun _ => False) w W ∧ Bx W w.heap.size #[.string nm, .bool vd, .int .i64 pr, .int .i64 R, .slice oa on oc, .slice ba bs.length bc] 25 ∧ Bx W w5.heap.size #[.slice (some ⟨S5, 0, none⟩) bs.length bs.length, .slice la (walkedF bs).left.length lc, .slice aw (walkedF bs).back.length cw] 36 ∧ Tbl Sp 3 34 iC W Sp bs.length vs (predsJ bs bs.length 0) ∧ Bools B1 W (.slice (some ⟨gr, 0, none⟩) bs.length cr) (seenF bs (walkedF bs).left) ∧ Row B2 41 2 pC W (.slice ab (walkedF bs).back.length cb) (walkedF bs).back ∧ Bools B3 W (.slice (some ⟨g3, 0, none⟩) bs.length c3) xs ∧ Row w4.heap.size 41 2 pC W (.slice aw (walkedF bs).back.length cw) (walkedF bs).back) ?_ ?_
      · skip
        have b1 := bx1
        have b7 := bx2
        refine TW.regH (fun W => Fr (fun _ => False) wa3 W) (by kernel_rfl) ?_
        have fd : Fr (fun _ => False) wa3 wa3.drew := (Fr.refl _ _).drewN 1
        have HW : Fr (fun _ => False) wa3 wa3.drew := (Fr.refl _ _).drewN 1
        replace bx1 := bx1.fr fd id
        replace bx2 := bx2.fr fd id
        replace hP := hP.fr0 fd
        replace hRe := Bools.fr hRe fd (fun _ _ => id)
        replace hBk := Row.fr hBk fd (fun _ _ => id)
        replace hX := Bools.fr hX fd (fun _ _ => id)
        replace hW5 := Row.fr hW5 fd (fun _ _ => id)
        replace ff := ff.trans fd
        generalize hV : wa3.drew = V2 at *
        clear hV
        refine WH.take 0 rfl (by kernel_rfl) (by kernel_rfl) (by kernel_rfl) (fun _ _ _ _ _ h => h) rfl rfl rfl HW (RH.move rfl rfl) ?_
        refine WH.take 1 rfl (by kernel_rfl) (by kernel_rfl) (by kernel_rfl) (fun _ _ _ _ _ h => h) rfl rfl rfl HW (RH.len rfl rfl (fun W => qn_s_s_int _ _ _ _)) ?_
        refine WH.take 2 rfl (by kernel_rfl) (by kernel_rfl) (by kernel_rfl) (fun _ _ _ _ _ h => h) rfl rfl rfl HW (RH.field rfl rfl (fun W => qa_api_Proc_5 W _ _)) ?_
        refine WH.take 3 rfl (by kernel_rfl) (by kernel_rfl) (by kernel_rfl) (fun _ _ _ _ _ h => h) rfl rfl rfl HW (RH.load rfl rfl (fun W hW => (ql_s_api_Block _ _ _ _ _ ((b1.fr hW id).cell (j := 5) rfl)))) ?_
        refine WH.take 4 rfl (by kernel_rfl) (by kernel_rfl) (by kernel_rfl) (fun _ _ _ _ _ h => h) rfl rfl rfl HW (RH.len rfl rfl (fun W => qn_s_api_Block _ _ _ _)) ?_
        refine WH.take 5 rfl (by kernel_rfl) (by kernel_rfl) (by kernel_rfl) (fun _ _ _ _ _ h => h) rfl rfl rfl HW (RH.bin rfl rfl rfl (fun W => qb_neq_int W _ _ _ _)) ?_
        refine WH.split (fun hb => by exfalso; revert hb; first | (simp; done) | (simp; omega)) (fun hb => ?_)
        refine WH.take 6 rfl (by kernel_rfl) (by kernel_rfl) (by kernel_rfl) (fun _ _ _ _ _ h => h) rfl rfl rfl HW (RH.move rfl rfl) ?_
        refine WH.take 7 rfl (by kernel_rfl) (by kernel_rfl) (by kernel_rfl) (fun _ _ _ _ _ h => h) rfl rfl rfl HW (RH.move rfl rfl) ?_
        refine WH.take 8 rfl (by kernel_rfl) (by kernel_rfl) (by kernel_rfl) (fun _ _ _ _ _ h => h) rfl rfl rfl HW (RH.len rfl rfl (fun W => qn_s_bool _ _ _ _)) ?_
        refine WH.take 9 rfl (by kernel_rfl) (by kernel_rfl) (by kernel_rfl) (fun _ _ _ _ _ h => h) rfl rfl rfl HW (RH.move rfl rfl) ?_
        refine WH.take 10 rfl (by kernel_rfl) (by kernel_rfl) (by kernel_rfl) (fun _ _ _ _ _ h => h) rfl rfl rfl HW (RH.len rfl rfl (fun W => qn_s_bool _ _ _ _)) ?_
        refine WH.take 11 rfl (by kernel_rfl) (by kernel_rfl) (by kernel_rfl) (fun _ _ _ _ _ h => h) rfl rfl rfl HW (RH.bin rfl rfl rfl (fun W => qb_neq_int W _ _ _ _)) ?_
        refine WH.split (fun hb => by exfalso; revert hb; first | (simp; done) | (simp; omega)) (fun hb => ?_)
        refine WH.take 12 rfl (by kernel_rfl) (by kernel_rfl) (by kernel_rfl) (fun _ _ _ _ _ h => h) rfl rfl rfl HW (RH.pick rfl rfl rfl) ?_
        refine WH.take 13 rfl (by kernel_rfl) (by kernel_rfl) (by kernel_rfl) (fun _ _ _ _ _ h => h) rfl rfl rfl HW (RH.move rfl rfl) ?_
        refine WH.take 14 rfl (by kernel_rfl) (by kernel_rfl) (by kernel_rfl) (fun _ _ _ _ _ h => h) rfl rfl rfl HW (RH.move rfl rfl) ?_
        refine WH.take 15 rfl (by kernel_rfl) (by kernel_rfl) (by kernel_rfl) (fun _ _ _ _ _ h => h) rfl rfl rfl HW (RH.len rfl rfl (fun W => qn_s_2_int _ _ _ _)) ?_
        refine WH.take 16 rfl (by kernel_rfl) (by kernel_rfl) (by kernel_rfl) (fun _ _ _ _ _ h => h) rfl rfl rfl HW (RH.field rfl rfl (fun W => qa_rushlightref16_Walk_2 W _ _)) ?_
        refine WH.take 17 rfl (by kernel_rfl) (by kernel_rfl) (by kernel_rfl) (fun _ _ _ _ _ h => h) rfl rfl rfl HW (RH.load rfl rfl (fun W hW => (ql_s_2_int _ _ _ _ _ ((b7.fr hW id).cell (j := 2) rfl)))) ?_
        refine WH.take 18 rfl (by kernel_rfl) (by kernel_rfl) (by kernel_rfl) (fun _ _ _ _ _ h => h) rfl rfl rfl HW (RH.len rfl rfl (fun W => qn_s_2_int _ _ _ _)) ?_
        refine WH.take 19 rfl (by kernel_rfl) (by kernel_rfl) (by kernel_rfl) (fun _ _ _ _ _ h => h) rfl rfl rfl HW (RH.bin rfl rfl rfl (fun W => qb_neq_int W _ _ _ _)) ?_
        refine WH.split (fun hb => by exfalso; revert hb; first | (simp; done) | (simp; omega)) (fun hb => ?_)
        refine WH.take 20 rfl (by kernel_rfl) (by kernel_rfl) (by kernel_rfl) (fun _ _ _ _ _ h => h) rfl rfl rfl HW (RH.pick rfl rfl rfl) ?_
        refine WH.take 21 rfl (by kernel_rfl) (by kernel_rfl) (by kernel_rfl) (fun _ _ _ _ _ h => h) rfl rfl rfl HW (RH.move rfl rfl) ?_
        refine WH.take 22 rfl (by kernel_rfl) (by kernel_rfl) (by kernel_rfl) (fun _ _ _ _ _ h => h) rfl rfl rfl HW (RH.load rfl rfl (fun W hW => qlB_api_Proc _ _ _ _ _ _ _ _ _ _ _ _ _ (b1.fr hW id))) ?_
        refine WH.take 24 rfl (by kernel_rfl) (by kernel_rfl) (by kernel_rfl) (fun _ _ _ _ _ h => h) rfl rfl rfl HW (RH.load rfl rfl (fun W hW => qlB_api_Proc _ _ _ _ _ _ _ _ _ _ _ _ _ (b1.fr hW id))) ?_
        refine WH.one 23 (by kernel_rfl) rfl ?_ 
        refine WL.call (hr := (t_order _ _ _ _ _ _ _ _ bs _ (by omega) _ (hbl.fr ff))) rfl rfl rfl rfl rfl (fun W => qk_flow_Order W _) ?_
        rintro e wo1 ⟨v1, rfl, h1, f1⟩
        refine ⟨_, rfl, ?_⟩
        replace bx1 := bx1.fr f1 id
        replace bx2 := bx2.fr f1 id
        replace hP := hP.fr0 f1
        replace hRe := Bools.fr hRe f1 (fun _ _ => id)
        replace hBk := Row.fr hBk f1 (fun _ _ => id)
        replace hX := Bools.fr hX f1 (fun _ _ => id)
        replace hW5 := Row.fr hW5 f1 (fun _ _ => id)
        replace HW := HW.trans' f1 (fun q hq e => e.elim)
        replace ff := ff.trans f1
        refine WL.fin HW ?_
        refine WH.one 25 (by kernel_rfl) rfl ?_ 
        refine WL.call (hr := (r_order _ _ _ _ _ _ _ _ bs _ (by omega) _ (hbl.fr ff))) rfl rfl rfl rfl rfl (fun W => qk_rushlightref16_Order W _) ?_
        rintro e wo2 ⟨v2, rfl, h2, f2⟩
        refine ⟨_, rfl, ?_⟩
        replace bx1 := bx1.fr f2 id
        replace bx2 := bx2.fr f2 id
        replace hP := hP.fr0 f2
        replace hRe := Bools.fr hRe f2 (fun _ _ => id)
        replace hBk := Row.fr hBk f2 (fun _ _ => id)
        replace hX := Bools.fr hX f2 (fun _ _ => id)
        replace hW5 := Row.fr hW5 f2 (fun _ _ => id)
        replace HW := HW.trans' f2 (fun q hq e => e.elim)
        replace h1 := Ints.fr h1 f2 (fun _ _ => id)
        replace ff := ff.trans f2
        refine WL.fin HW ?_
        refine WH.one 26 (by kernel_rfl) rfl ?_ 
        obtain ⟨a1, c1, rfl, hat1⟩ := h1.at
        obtain ⟨a2, c2, rfl, hat2⟩ := h2.at
        refine WL.call (hr := (t_same1 _ _ _ _ _ (by rw [List.length_reverse]; omega) _ hat1 hat2)) rfl rfl rfl rfl rfl (fun W => qk_rushlightlaw16_same W _) ?_
        rintro e wo3 ⟨rfl, f3⟩
        refine ⟨_, rfl, ?_⟩
        replace bx1 := bx1.fr f3 id
        replace bx2 := bx2.fr f3 id
        replace hP := hP.fr0 f3
        replace hRe := Bools.fr hRe f3 (fun _ _ => id)
        replace hBk := Row.fr hBk f3 (fun _ _ => id)
        replace hX := Bools.fr hX f3 (fun _ _ => id)
        replace hW5 := Row.fr hW5 f3 (fun _ _ => id)
        replace HW := HW.trans' f3 (fun q hq e => e.elim)
        replace h1 := Ints.fr h1 f3 (fun _ _ => id)
        replace h2 := Ints.fr h2 f3 (fun _ _ => id)
        replace ff := ff.trans f3
        refine O.split (fun hb => ?_) (fun hb => by exfalso; revert hb; first | (simp; done) | (simp; omega))
        refine WL.fin HW ?_
        refine WH.take 27 rfl (by kernel_rfl) (by kernel_rfl) (by kernel_rfl) (fun _ _ _ _ _ h => h) rfl rfl rfl HW (RH.not rfl rfl) ?_
        refine WH.take 28 rfl (by kernel_rfl) (by kernel_rfl) (by kernel_rfl) (fun _ _ _ _ _ h => h) rfl rfl rfl HW (RH.pick rfl rfl rfl) ?_
        refine WH.end (by kernel_rfl) ?_
        refine Xw.any (fun a k => ?_)
        exact ⟨(by (repeat (refine Kn.cons k rfl ?_)); exact k.base), ff, bx1, bx2, hP, hRe, hBk, hX, hW5⟩
      · rintro a wn ⟨k, ff, bx1, bx2, hP, hRe, hBk, hX, hW5⟩
        refine TW.app (s := [(1, .pointer (some ⟨w.heap.size, 0, none⟩)), (3, .slice (some ⟨Sp, 0, none⟩) bs.length bs.length), (4, .slice (some ⟨gr, 0, none⟩) bs.length cr), (5, .slice ab (walkedF bs).back.length cb), (6, .slice (some ⟨g3, 0, none⟩) bs.length c3), (7, .pointer (some ⟨w5.heap.size, 0, none⟩)), (52, .bool false)]) ?_ k
        refine TW.cond rfl (fun hb => by cases hb) (fun _ => ?_)
        refine TW.skip ?_
        refine TW.seq ?_
        refine TW.sreg ?_
        refine WL.op rfl rfl rfl (Go.Proofs.Ytobibplilbchfaa.W.quiet_assign rfl rfl) ?_
        refine WL.nil ?_
        refine TW.block ?_
        refine O.loopG (n := bs.length) (fun a _ => (intOf (a.tmps.getD 8 undef)).toNat) (fun j a W => Kn Try.f3.ntmps [(1, .pointer (some ⟨w.heap.size, 0, none⟩)), (3, .slice (some ⟨Sp, 0, none⟩) bs.length bs.length), (4, .slice (some ⟨gr, 0, none⟩) bs.length cr), (5, .slice ab (walkedF bs).back.length cb), (6, .slice (some ⟨g3, 0, none⟩) bs.length c3), (7, .pointer (some ⟨w5.heap.size, 0, none⟩)), (8, .int .i64 (j : Int))] a ∧ Fr (fun _ => False) w W ∧ Bx W w.heap.size #[.string nm, .bool vd, .int .i64 pr, .int .i64 R, .slice oa on oc, .slice ba bs.length bc] 25 ∧ Bx W w5.heap.size #[.slice (some ⟨S5, 0, none⟩) bs.length bs.length, .slice la (walkedF bs).left.length lc, .slice aw (walkedF bs).back.length cw] 36 ∧ Tbl Sp 3 34 iC W Sp bs.length vs (predsJ bs bs.length 0) ∧ Bools B1 W (.slice (some ⟨gr, 0, none⟩) bs.length cr) (seenF bs (walkedF bs).left) ∧ Row B2 41 2 pC W (.slice ab (walkedF bs).back.length cb) (walkedF bs).back ∧ Bools B3 W (.slice (some ⟨g3, 0, none⟩) bs.length c3) xs ∧ Row w4.heap.size 41 2 pC W (.slice aw (walkedF bs).back.length cw) (walkedF bs).back) (fun j a W h => O.slotv h.1 rfl) 0 (Nat.zero_le _) (fun a k => ⟨(by (repeat (refine Kn.cons k rfl ?_)); exact k.base), ff, bx1, bx2, hP, hRe, hBk, hX, hW5⟩) ?_
        rintro j a wl1 hj ⟨k, ff, bx1, bx2, hP, hRe, hBk, hX, hW5⟩
        refine TW.app (s := [(1, .pointer (some ⟨w.heap.size, 0, none⟩)), (3, .slice (some ⟨Sp, 0, none⟩) bs.length bs.length), (4, .slice (some ⟨gr, 0, none⟩) bs.length cr), (5, .slice ab (walkedF bs).back.length cb), (6, .slice (some ⟨g3, 0, none⟩) bs.length c3), (7, .pointer (some ⟨w5.heap.size, 0, none⟩)), (8, .int .i64 (j : Int))]) ?_ k
        refine TW.seq ?_
        refine TW.sreg ?_
        refine WL.op rfl rfl rfl (Go.Proofs.Ytobibplilbchfaa.W.quiet_move rfl rfl) ?_
        refine WL.op rfl rfl rfl (Go.Proofs.Ytobibplilbchfaa.W.quiet_move rfl rfl) ?_
        refine O.len rfl rfl rfl rfl rfl (qn_s_bool _ _ _ _) ?_
        refine WL.op rfl rfl rfl (Go.Proofs.Ytobibplilbchfaa.W.quiet_bin rfl rfl rfl (fun W => qb_lss_int W _ _ _ _)) ?_
        refine O.split (fun hbi => ?_) (fun hbi => ?_)
        · skip
          have hj2 : j < bs.length := by have := of_decide_eq_true hbi; omega
          obtain ⟨ap, cp, hvp, hap⟩ := Ints.at (hP.hr j hj2)
          rw [preds_last hj2] at hvp hap
          refine WL.nil ?_
          refine TW.cond rfl (fun _ => ?_) (fun hb => by cases hb)
          refine TW.skip ?_
          refine TW.seq ?_
          refine TW.block ?_
          have b1 := bx1
          have hcr := hRe.cell (k := j) (by rw [seen_len]; exact hj2)
          rw [reach_eq hfin hj2] at hcr
          have hcx := hX.cell (k := j) (by rw [hxl]; exact hj2)
          have hcp := hP.cell (k := j) hj2
          rw [hvp] at hcp
          refine TW.sregH (fun W => Fr (fun _ => False) wl1 W) (by kernel_rfl) ?_
          have fd : Fr (fun _ => False) wl1 wl1.drew := (Fr.refl _ _).drewN 1
          have HW : Fr (fun _ => False) wl1 wl1.drew := (Fr.refl _ _).drewN 1
          replace bx1 := bx1.fr fd id
          replace bx2 := bx2.fr fd id
          replace hP := hP.fr0 fd
          replace hRe := Bools.fr hRe fd (fun _ _ => id)
          replace hBk := Row.fr hBk fd (fun _ _ => id)
          replace hX := Bools.fr hX fd (fun _ _ => id)
          replace hW5 := Row.fr hW5 fd (fun _ _ => id)
          replace hap := hap.fr fd
          replace ff := ff.trans fd
          generalize hV : wl1.drew = V3 at *
          clear hV
          refine WH.take 0 rfl (by kernel_rfl) (by kernel_rfl) (by kernel_rfl) (fun _ _ _ _ _ h => h) rfl rfl rfl HW (RH.move rfl rfl) ?_
          refine WH.take 1 rfl (by kernel_rfl) (by kernel_rfl) (by kernel_rfl) (fun _ _ _ _ _ h => h) rfl rfl rfl HW (RH.move rfl rfl) ?_
          refine WH.take 2 rfl (by kernel_rfl) (by kernel_rfl) (by kernel_rfl) (fun _ _ _ _ _ h => h) rfl rfl rfl HW (RH.index rfl rfl rfl (fun W => (qi_s_bool _ _ _ _ _ _ (by omega)))) ?_
          refine WH.take 3 rfl (by kernel_rfl) (by kernel_rfl) (by kernel_rfl) (fun _ _ _ _ _ h => h) rfl rfl rfl HW (RH.load rfl rfl (fun W hW => (ql_bool _ _ _ (hW.cell hcr id)))) ?_
          refine WH.take 4 rfl (by kernel_rfl) (by kernel_rfl) (by kernel_rfl) (fun _ _ _ _ _ h => h) rfl rfl rfl HW (RH.move rfl rfl) ?_
          refine WH.take 5 rfl (by kernel_rfl) (by kernel_rfl) (by kernel_rfl) (fun _ _ _ _ _ h => h) rfl rfl rfl HW (RH.move rfl rfl) ?_
          refine WH.take 6 rfl (by kernel_rfl) (by kernel_rfl) (by kernel_rfl) (fun _ _ _ _ _ h => h) rfl rfl rfl HW (RH.index rfl rfl rfl (fun W => (qi_s_bool _ _ _ _ _ _ (by omega)))) ?_
          refine WH.take 7 rfl (by kernel_rfl) (by kernel_rfl) (by kernel_rfl) (fun _ _ _ _ _ h => h) rfl rfl rfl HW (RH.load rfl rfl (fun W hW => (ql_bool _ _ _ (hW.cell hcx id)))) ?_
          refine WH.take 8 rfl (by kernel_rfl) (by kernel_rfl) (by kernel_rfl) (fun _ _ _ _ _ h => h) rfl rfl rfl HW (RH.bin rfl rfl rfl (fun W => qb_neq_bool W _ _ _ _)) ?_
          refine WH.split (fun hb => by exfalso; revert hb; first | (simp; done) | (simp; omega)) (fun hb => ?_)
          refine WH.take 9 rfl (by kernel_rfl) (by kernel_rfl) (by kernel_rfl) (fun _ _ _ _ _ h => h) rfl rfl rfl HW (RH.move rfl rfl) ?_
          refine WH.take 10 rfl (by kernel_rfl) (by kernel_rfl) (by kernel_rfl) (fun _ _ _ _ _ h => h) rfl rfl rfl HW (RH.move rfl rfl) ?_
          refine WH.take 11 rfl (by kernel_rfl) (by kernel_rfl) (by kernel_rfl) (fun _ _ _ _ _ h => h) rfl rfl rfl HW (RH.move rfl rfl) ?_
          refine WH.take 12 rfl (by kernel_rfl) (by kernel_rfl) (by kernel_rfl) (fun _ _ _ _ _ h => h) rfl rfl rfl HW (RH.index rfl rfl rfl (fun W => (qi_s_s_int _ _ _ _ _ _ (by omega)))) ?_
          refine WH.take 13 rfl (by kernel_rfl) (by kernel_rfl) (by kernel_rfl) (fun _ _ _ _ _ h => h) rfl rfl rfl HW (RH.load rfl rfl (fun W hW => (ql_s_int _ _ _ _ _ (hW.cell hcp id)))) ?_
          refine WH.take 14 rfl (by kernel_rfl) (by kernel_rfl) (by kernel_rfl) (fun _ _ _ _ _ h => h) rfl rfl rfl HW (RH.load rfl rfl (fun W hW => qlB_api_Proc _ _ _ _ _ _ _ _ _ _ _ _ _ (b1.fr hW id))) ?_
          refine WH.take 15 rfl (by kernel_rfl) (by kernel_rfl) (by kernel_rfl) (fun _ _ _ _ _ h => h) rfl rfl rfl HW (RH.move rfl rfl) ?_
          refine WH.one 16 (by kernel_rfl) rfl ?_ 
          refine WL.call (hr := (r_preds _ _ _ _ _ _ _ _ bs _ (by omega) (j : Int) _ (hbl.fr ff))) rfl rfl rfl rfl rfl (fun W => qk_rushlightref16_Preds W _) ?_
          rintro e wo1 ⟨v1, rfl, h1, f1⟩
          refine ⟨_, rfl, ?_⟩
          replace bx1 := bx1.fr f1 id
          replace bx2 := bx2.fr f1 id
          replace hP := hP.fr0 f1
          replace hRe := Bools.fr hRe f1 (fun _ _ => id)
          replace hBk := Row.fr hBk f1 (fun _ _ => id)
          replace hX := Bools.fr hX f1 (fun _ _ => id)
          replace hW5 := Row.fr hW5 f1 (fun _ _ => id)
          replace hap := hap.fr f1
          replace HW := HW.trans' f1 (fun q hq e => e.elim)
          replace ff := ff.trans f1
          refine WL.fin HW ?_
          refine WH.one 17 (by kernel_rfl) rfl ?_ 
          obtain ⟨a1, c1, rfl, hat1⟩ := h1.at
          refine WL.call (hr := (t_same1 _ _ _ _ _ (by have := preds_len bs (j : Int) bs.length; omega) _ hap hat1)) rfl rfl rfl rfl rfl (fun W => qk_rushlightlaw16_same W _) ?_
          rintro e wo3 ⟨rfl, f3⟩
          refine ⟨_, rfl, ?_⟩
          replace bx1 := bx1.fr f3 id
          replace bx2 := bx2.fr f3 id
          replace hP := hP.fr0 f3
          replace hRe := Bools.fr hRe f3 (fun _ _ => id)
          replace hBk := Row.fr hBk f3 (fun _ _ => id)
          replace hX := Bools.fr hX f3 (fun _ _ => id)
          replace hW5 := Row.fr hW5 f3 (fun _ _ => id)
          replace hap := hap.fr f3
          replace HW := HW.trans' f3 (fun q hq e => e.elim)
          replace h1 := Ints.fr h1 f3 (fun _ _ => id)
          replace ff := ff.trans f3
          refine O.split (fun hb => ?_) (fun hb => by exfalso; revert hb; first | (simp; done) | (simp; omega))
          refine WL.fin HW ?_
          refine WH.take 18 rfl (by kernel_rfl) (by kernel_rfl) (by kernel_rfl) (fun _ _ _ _ _ h => h) rfl rfl rfl HW (RH.not rfl rfl) ?_
          refine WH.take 19 rfl (by kernel_rfl) (by kernel_rfl) (by kernel_rfl) (fun _ _ _ _ _ h => h) rfl rfl rfl HW (RH.pick rfl rfl rfl) ?_
          refine WH.done (by kernel_rfl) ?_
          refine TW.cond rfl (fun hb => by cases hb) (fun _ => ?_)
          refine TW.skipx ?_
          refine Xw.nblk ?_
          refine Xw.nrm ?_
          refine TW.reg ?_
          refine WL.op rfl rfl rfl (Go.Proofs.Ytobibplilbchfaa.W.quiet_move rfl rfl) ?_
          refine WL.op rfl rfl rfl (Go.Proofs.Ytobibplilbchfaa.W.quiet_bin rfl rfl rfl (fun W => qb_add_int W _ _ _ _ (by omega) (by omega))) ?_
          refine WL.op rfl rfl rfl (Go.Proofs.Ytobibplilbchfaa.W.quiet_assign rfl rfl) ?_
          refine WL.end ?_
          refine Xw.any (fun a k => ?_)
          exact ⟨j + 1, by omega, by omega, (by (repeat (refine Kn.cons k rfl ?_)); exact k.base), ff, bx1, bx2, hP, hRe, hBk, hX, hW5⟩
        · skip
          refine WL.nil ?_
          refine TW.cond rfl (fun hb => by cases hb) (fun _ => ?_)
          refine TW.exit ?_
          refine Xw.thn (by simp) ?_
          refine Xw.thn (by simp) ?_
          refine Xw.hit ?_
          refine Xw.nrm ?_
          refine TW.seq ?_
          refine TW.sreg ?_
          refine WL.op rfl rfl rfl (Go.Proofs.Ytobibplilbchfaa.W.quiet_assign rfl rfl) ?_
          refine WL.nil ?_
          refine TW.block ?_
          refine O.loopG (n := (walkedF bs).back.length) (fun a _ => (intOf (a.tmps.getD 9 undef)).toNat) (fun j a W => Kn Try.f3.ntmps [(5, .slice ab (walkedF bs).back.length cb), (7, .pointer (some ⟨w5.heap.size, 0, none⟩)), (9, .int .i64 (j : Int))] a ∧ Fr (fun _ => False) w W ∧ Bx W w5.heap.size #[.slice (some ⟨S5, 0, none⟩) bs.length bs.length, .slice la (walkedF bs).left.length lc, .slice aw (walkedF bs).back.length cw] 36 ∧ Row B2 41 2 pC W (.slice ab (walkedF bs).back.length cb) (walkedF bs).back ∧ Row w4.heap.size 41 2 pC W (.slice aw (walkedF bs).back.length cw) (walkedF bs).back) (fun j a W h => O.slotv h.1 rfl) 0 (Nat.zero_le _) (fun a k => ⟨(by (repeat (refine Kn.cons k rfl ?_)); exact k.base), ff, bx2, hBk, hW5⟩) ?_
          rintro j a wl2 hj ⟨k, ff, bx2, hBk, hW5⟩
          refine TW.app (s := [(5, .slice ab (walkedF bs).back.length cb), (7, .pointer (some ⟨w5.heap.size, 0, none⟩)), (9, .int .i64 (j : Int))]) ?_ k
          refine TW.seq ?_
          refine TW.sreg ?_
          refine WL.op rfl rfl rfl (Go.Proofs.Ytobibplilbchfaa.W.quiet_move rfl rfl) ?_
          refine WL.op rfl rfl rfl (Go.Proofs.Ytobibplilbchfaa.W.quiet_move rfl rfl) ?_
          refine O.len rfl rfl rfl rfl rfl (qn_s_2_int _ _ _ _) ?_
          refine WL.op rfl rfl rfl (Go.Proofs.Ytobibplilbchfaa.W.quiet_bin rfl rfl rfl (fun W => qb_lss_int W _ _ _ _)) ?_
          refine O.split (fun hbj => ?_) (fun hbj => ?_)
          · skip
            have hj2 : j < (walkedF bs).back.length := by have := of_decide_eq_true hbj; omega
            obtain ⟨_, _, e1, hat1⟩ := Row.at2 hBk
            cases e1
            obtain ⟨_, _, e2, hat2⟩ := Row.at2 hW5
            cases e2
            obtain ⟨gb, rfl, hd0, hd1⟩ := hat1 j hj2
            obtain ⟨gw, rfl, he0, he1⟩ := hat2 j hj2
            refine WL.nil ?_
            refine TW.cond rfl (fun _ => ?_) (fun hb => by cases hb)
            refine TW.skip ?_
            refine TW.seq ?_
            refine TW.block ?_
            refine Q.sreg (C := fun W => Fr (fun _ => False) wl2 W) (by kernel_rfl) (by kernel_rfl) (fun W h => h.drewN 1) (Fr.refl _ _) ?_
            refine W.op rfl rfl rfl (Go.Proofs.Ytobibplilbchfaa.W.quiet_move rfl rfl) ?_
            refine W.op rfl rfl rfl (Go.Proofs.Ytobibplilbchfaa.W.quiet_move rfl rfl) ?_
            refine W.op rfl rfl rfl (Go.Proofs.Ytobibplilbchfaa.W.quiet_index rfl rfl rfl (fun W => (qi_s_2_int _ _ _ _ _ _ (by omega)))) ?_
            refine W.op rfl rfl rfl (Go.Proofs.Ytobibplilbchfaa.W.quiet_load rfl rfl (fun W hW => (ql_2_int _ _ _ _ _ (hW.cell hd0 id) (hW.cell hd1 id)))) ?_
            refine W.op rfl rfl rfl (Go.Proofs.Ytobibplilbchfaa.W.quiet_field rfl rfl (fun W => (qa_rushlightref16_Walk_2 W _ _))) ?_
            refine W.op rfl rfl rfl (Go.Proofs.Ytobibplilbchfaa.W.quiet_load rfl rfl (fun W hW => (ql_s_2_int _ _ _ _ _ ((bx2.fr hW id).cell (j := 2) rfl)))) ?_
            refine W.op rfl rfl rfl (Go.Proofs.Ytobibplilbchfaa.W.quiet_move rfl rfl) ?_
            refine W.op rfl rfl rfl (Go.Proofs.Ytobibplilbchfaa.W.quiet_index rfl rfl rfl (fun W => (qi_s_2_int _ _ _ _ _ _ (by omega)))) ?_
            refine W.op rfl rfl rfl (Go.Proofs.Ytobibplilbchfaa.W.quiet_load rfl rfl (fun W hW => (ql_2_int _ _ _ _ _ (hW.cell he0 id) (hW.cell he1 id)))) ?_
            refine W.op rfl rfl rfl (Go.Proofs.Ytobibplilbchfaa.W.quiet_bin rfl rfl rfl (fun W => ne_ar W _ _ _ _ _ _)) ?_
            refine Q.split (fun hb => by exfalso; revert hb; first | (simp; done) | (simp; omega)) (fun hb => ?_)
            refine Q.nil (T.tw fun wq1 fq1 => ?_)
            replace bx2 := bx2.fr fq1 id
            replace hBk := Row.fr hBk fq1 (fun _ _ => id)
            replace hW5 := Row.fr hW5 fq1 (fun _ _ => id)
            replace ff := ff.trans fq1
            refine TW.cond rfl (fun hb => by cases hb) (fun _ => ?_)
            refine TW.skipx ?_
            refine Xw.nblk ?_
            refine Xw.nrm ?_
            refine TW.reg ?_
            refine WL.op rfl rfl rfl (Go.Proofs.Ytobibplilbchfaa.W.quiet_move rfl rfl) ?_
            refine WL.op rfl rfl rfl (Go.Proofs.Ytobibplilbchfaa.W.quiet_bin rfl rfl rfl (fun W => qb_add_int W _ _ _ _ (by omega) (by omega))) ?_
            refine WL.op rfl rfl rfl (Go.Proofs.Ytobibplilbchfaa.W.quiet_assign rfl rfl) ?_
            refine WL.end ?_
            refine Xw.any (fun a k => ?_)
            exact ⟨j + 1, by omega, by omega, (by (repeat (refine Kn.cons k rfl ?_)); exact k.base), ff, bx2, hBk, hW5⟩
          · skip
            refine WL.nil ?_
            refine TW.cond rfl (fun hb => by cases hb) (fun _ => ?_)
            refine TW.exit ?_
            refine Xw.thn (by simp) ?_
            refine Xw.thn (by simp) ?_
            refine Xw.hit ?_
            refine Xw.nrm ?_
            refine TW.sreg ?_
            refine WL.call (hr := t_awake _) rfl rfl rfl rfl rfl (fun W => qk_rushlightlaw16_awake W _) ?_
            rintro e wz ⟨rfl, fz⟩
            refine ⟨_, rfl, ?_⟩
            replace bx2 := bx2.fr fz id
            replace hBk := Row.fr hBk fz (fun _ _ => id)
            replace hW5 := Row.fr hW5 fz (fun _ _ => id)
            replace ff := ff.trans fz
            refine WL.op rfl rfl rfl (Go.Proofs.Ytobibplilbchfaa.W.quiet_assign rfl rfl) ?_
            refine WL.nil ?_
            refine TW.rt ?_
            refine bodyw_ret rfl rfl ?_
            exact ⟨rfl, ff⟩
end Go.Proofs.Ytobibplilbchfaa
