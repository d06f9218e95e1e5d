/-
  Power (layer 33): the walk of PowerFails.
-/
import Derived.Test.YtdkjeiemjnmdlaaPwG
namespace Go.Proofs.Ytdkjeiemjnmdlaa
open Go.RowKit
set_option linter.unusedVariables false
set_option linter.unusedSimpArgs false
set_option linter.unnecessarySimpa false
theorem qk_rushlightlaw33_awake (w : World) (vs : Array Value) : (callFunc 6 vs).run Try.prog w = .ok (.enter 6 vs) w := by simp [go_sem]
theorem qb_neq_api_Errno (w : World) (x y : Operand) (m n : Int) : ((do eqGuard .neq 27 x y (.int .i64 m) (.int .i64 n); binOp .neq 27 (.int .i64 m) (.int .i64 n) : Sem Value)).run Try.prog w = .ok (.bool (m != n)) w := by simp [go_sem]
theorem qk_rushlightlaw33_few (w : World) (vs : Array Value) : (callFunc 5 vs).run Try.prog w = .ok (.enter 5 vs) w := by simp [go_sem]
theorem qk_rushlightref33_Right (w : World) (vs : Array Value) : (callFunc 8 vs).run Try.prog w = .ok (.enter 8 vs) w := by simp [go_sem]
theorem qb_neq_bool (w : World) (x y : Operand) (m n : Bool) : ((do eqGuard .neq 4 x y (.bool m) (.bool n); binOp .neq 4 (.bool m) (.bool n) : Sem Value)).run Try.prog w = .ok (.bool (m != n)) w := by cases m <;> cases n <;> simp [go_sem]
theorem qk_power_Steady (w : World) (vs : Array Value) : (callFunc 10 vs).run Try.prog w = .ok (.enter 10 vs) w := by simp [go_sem]
theorem qk_rushlightref33_Go (w : World) (vs : Array Value) : (callFunc 11 vs).run Try.prog w = .ok (.enter 11 vs) w := by simp [go_sem]
theorem qb_neq_int (w : World) (x y : Operand) (m n : Int) : ((do eqGuard .neq 3 x y (.int .i64 m) (.int .i64 n); binOp .neq 3 (.int .i64 m) (.int .i64 n) : Sem Value)).run Try.prog w = .ok (.bool (m != n)) w := by simp [go_sem]
set_option maxRecDepth 100000 in
theorem walk_fails (oa : Option Addr) (c : Nat) (s : List Int) (room lim tm : Int) (w : World) (hat : IntsAt w oa s) : Calls Try.prog 3 #[.agg #[.slice oa s.length c, .int .i64 room, .int .i64 lim], .int .i64 tm] w fun e w' => e = .returned (.bool true) ∧ Fr (fun _ => False) w w' := by
  have ff := Fr.refl (fun _ => False) w
  refine calls_tw Try.func3 rfl rfl (Nat.le_of_ble_eq_true rfl) ?_
  refine TW.sreg ?_
  have lw1 := ff.size
  refine O.boxR rfl rfl rfl rfl rfl (qxR_power_Supply w _ _ _ _ _) ?_
  rintro wa1 ⟨fa1, bx1⟩
  replace ff := ff.trans fa1
  by_cases hR : SupOk s room lim
  · have hI := stP_inv hR (tmN tm)
    have hfl := hI.fl
    refine WL.op rfl rfl rfl (Go.Proofs.Ytdkjeiemjnmdlaa.W.quiet_assign rfl rfl) ?_
    refine WL.nil ?_
    refine TW.seq ?_
    refine TW.sreg ?_
    refine WL.ld rfl rfl rfl rfl rfl (qlB_power_Supply _ _ _ _ _ _ _ _ bx1) ?_
    refine WL.call (hr := t_few oa c s room lim _) rfl rfl rfl rfl rfl (fun W => qk_rushlightlaw33_few W _) ?_
    rintro e w1 ⟨b, rfl, hfw, f1⟩
    refine ⟨_, rfl, ?_⟩
    replace bx1 := bx1.fr f1 id
    replace ff := ff.trans f1
    refine O.split (fun hbf => ?_) (fun hbf => ?_)
    · skip
      have hl5 := hfw hbf
      subst hbf
      refine WL.op rfl rfl rfl (Go.Proofs.Ytdkjeiemjnmdlaa.W.quiet_not rfl rfl) ?_
      refine WL.op rfl rfl rfl (Go.Proofs.Ytdkjeiemjnmdlaa.W.quiet_move rfl rfl) ?_
      refine WL.op rfl rfl rfl (Go.Proofs.Ytdkjeiemjnmdlaa.W.quiet_move rfl rfl) ?_
      refine WL.op rfl rfl rfl (Go.Proofs.Ytdkjeiemjnmdlaa.W.quiet_bin rfl rfl rfl (fun W => qb_gtr_int W _ _ _ _)) ?_
      refine O.split (fun h2 => ?_) (fun h2 => ?_)
      · skip
        refine WL.op rfl rfl rfl (Go.Proofs.Ytdkjeiemjnmdlaa.W.quiet_pick rfl rfl rfl) ?_
        refine WL.nil ?_
        refine TW.cond rfl (fun _ => ?_) (fun hb => by cases hb)
        refine TW.sreg ?_
        refine WL.call (hr := t_awake _) rfl rfl rfl rfl rfl (fun W => qk_rushlightlaw33_awake W _) ?_
        rintro e wq ⟨rfl, fq⟩
        refine ⟨_, rfl, ?_⟩
        replace bx1 := bx1.fr fq id
        replace ff := ff.trans fq
        refine WL.op rfl rfl rfl (Go.Proofs.Ytdkjeiemjnmdlaa.W.quiet_assign rfl rfl) ?_
        refine WL.nil ?_
        refine TW.rt ?_
        refine Xw.thn (by simp) ?_
        refine bodyw_ret rfl rfl ?_
        exact ⟨rfl, ff⟩
      · skip
        have htm : tm ≤ 20000 := by have := of_decide_eq_false h2; omega
        have htn : tmN tm ≤ 4000000 := by unfold tmN; omega
        refine WL.op rfl rfl rfl (Go.Proofs.Ytdkjeiemjnmdlaa.W.quiet_pick rfl rfl rfl) ?_
        refine WL.nil ?_
        refine TW.cond rfl (fun hb => by cases hb) (fun _ => ?_)
        refine TW.skip ?_
        refine TW.sreg ?_
        refine WL.ld rfl rfl rfl rfl rfl (qlB_power_Supply _ _ _ _ _ _ _ _ bx1) ?_
        refine WL.op rfl rfl rfl (Go.Proofs.Ytdkjeiemjnmdlaa.W.quiet_move rfl rfl) ?_
        refine WL.call (hr := (fails_ok oa c s room lim tm _ (by omega) (hat.fr ff) hR)) rfl rfl rfl rfl rfl (fun W => qk_power_Fails W _) ?_
        rintro e w2 ⟨v, rfl, hv, f2⟩
        refine ⟨_, rfl, ?_⟩
        replace bx1 := bx1.fr f2 id
        replace ff := ff.trans f2
        obtain ⟨va, vc, rfl⟩ := Row.form hv
        refine WL.op rfl rfl rfl (Go.Proofs.Ytdkjeiemjnmdlaa.W.quiet_move rfl rfl) ?_
        refine O.ext rfl rfl rfl rfl rfl rfl ?_
        refine O.ext rfl rfl rfl rfl rfl rfl ?_
        refine O.ext rfl rfl rfl rfl rfl rfl ?_
        refine WL.op rfl rfl rfl (Go.Proofs.Ytdkjeiemjnmdlaa.W.quiet_assign rfl rfl) ?_
        refine WL.op rfl rfl rfl (Go.Proofs.Ytdkjeiemjnmdlaa.W.quiet_assign rfl rfl) ?_
        refine WL.op rfl rfl rfl (Go.Proofs.Ytdkjeiemjnmdlaa.W.quiet_assign rfl rfl) ?_
        refine WL.nil ?_
        refine TW.sreg ?_
        refine WL.op rfl rfl rfl (Go.Proofs.Ytdkjeiemjnmdlaa.W.quiet_field rfl rfl (fun W => (qa_power_Supply_0 W _ _))) ?_
        refine WL.ld rfl rfl rfl rfl rfl (ql_s_int _ _ _ _ _ (bx1.cell (j := 0) rfl)) ?_
        refine WL.op rfl rfl rfl (Go.Proofs.Ytdkjeiemjnmdlaa.W.quiet_field rfl rfl (fun W => (qa_power_Supply_1 W _ _))) ?_
        refine WL.ld rfl rfl rfl rfl rfl (ql_int _ _ _ (bx1.cell (j := 1) rfl)) ?_
        refine WL.op rfl rfl rfl (Go.Proofs.Ytdkjeiemjnmdlaa.W.quiet_field rfl rfl (fun W => (qa_power_Supply_2 W _ _))) ?_
        refine WL.ld rfl rfl rfl rfl rfl (ql_int _ _ _ (bx1.cell (j := 2) rfl)) ?_
        refine WL.call (hr := (t_rright oa c s (by omega) room lim _ (hat.fr ff))) rfl rfl rfl rfl rfl (fun W => qk_rushlightref33_Right W _) ?_
        rintro e w4 ⟨br, rfl, hbr, f4⟩
        refine ⟨_, rfl, ?_⟩
        replace bx1 := bx1.fr f4 id
        replace hv := Row.fr hv f4 (fun _ _ => id)
        replace ff := ff.trans f4
        refine WL.op rfl rfl rfl (Go.Proofs.Ytdkjeiemjnmdlaa.W.quiet_assign rfl rfl) ?_
        refine WL.nil ?_
        refine TW.sreg ?_
        refine WL.op rfl rfl rfl (Go.Proofs.Ytdkjeiemjnmdlaa.W.quiet_assign rfl rfl) ?_
        refine WL.nil ?_
        refine TW.seq ?_
        refine TW.sreg ?_
        refine WL.op rfl rfl rfl (Go.Proofs.Ytdkjeiemjnmdlaa.W.quiet_assign rfl rfl) ?_
        refine WL.nil ?_
        refine TW.block ?_
        refine O.loopG (n := s.length) (fun a _ => (intOf (a.tmps.getD 10 undef)).toNat) (fun j a W => Kn Try.f3.ntmps [(1, .int .i64 tm), (2, .pointer (some ⟨w.heap.size, 0, none⟩)), (5, .slice va (stP room lim s (tmN tm)).fl.length vc), (6, .int .i64 (stP room lim s (tmN tm)).ex), (7, .int .i64 0), (8, .bool br), (9, .bool ((s.take j).any isTick)), (10, .int .i64 (j : Int))] a ∧ Fr (fun _ => False) w W ∧ Bx W w.heap.size #[.slice oa s.length c, .int .i64 room, .int .i64 lim] 24 ∧ Ints w1.heap.size W (.slice va (stP room lim s (tmN tm)).fl.length vc) (stP room lim s (tmN tm)).fl) (fun j a W h => O.slotv h.1 rfl) 0 (Nat.zero_le _) (fun a k => ⟨by rw [List.take_zero]; (repeat (refine Kn.cons k rfl ?_)); exact k.base, ff, bx1, hv⟩) ?_
        rintro j a wl hj ⟨k, ff, bx1, hv⟩
        refine TW.app (s := [(1, .int .i64 tm), (2, .pointer (some ⟨w.heap.size, 0, none⟩)), (5, .slice va (stP room lim s (tmN tm)).fl.length vc), (6, .int .i64 (stP room lim s (tmN tm)).ex), (7, .int .i64 0), (8, .bool br), (9, .bool ((s.take j).any isTick)), (10, .int .i64 (j : Int))]) ?_ k
        refine TW.seq ?_
        refine TW.sreg ?_
        refine WL.op rfl rfl rfl (Go.Proofs.Ytdkjeiemjnmdlaa.W.quiet_move rfl rfl) ?_
        refine WL.op rfl rfl rfl (Go.Proofs.Ytdkjeiemjnmdlaa.W.quiet_field rfl rfl (fun W => (qa_power_Supply_0 W _ _))) ?_
        refine WL.ld rfl rfl rfl rfl rfl (ql_s_int _ _ _ _ _ (bx1.cell (j := 0) rfl)) ?_
        refine O.len rfl rfl rfl rfl rfl (qn_s_int _ _ _ _) ?_
        refine WL.op rfl rfl rfl (Go.Proofs.Ytdkjeiemjnmdlaa.W.quiet_bin rfl rfl rfl (fun W => qb_lss_int W _ _ _ _)) ?_
        refine O.split (fun hb1 => ?_) (fun hb1 => ?_)
        · skip
          have hj2 : j < s.length := by have := of_decide_eq_true hb1; omega
          have hsu := any_succ (p := isTick) hj2
          refine WL.nil ?_
          refine TW.cond rfl (fun _ => ?_) (fun hb => by cases hb)
          refine TW.skip ?_
          refine TW.seq ?_
          refine TW.block ?_
          refine TW.reg ?_
          refine WL.op rfl rfl rfl (Go.Proofs.Ytdkjeiemjnmdlaa.W.quiet_move rfl rfl) ?_
          refine O.split (fun hst => ?_) (fun hst => ?_)
          · skip
            have hn : (s.take (j + 1)).any isTick = true := by rw [hsu, hst]; rfl
            refine WL.op rfl rfl rfl (Go.Proofs.Ytdkjeiemjnmdlaa.W.quiet_move rfl rfl) ?_
            refine WL.skip rfl rfl rfl ?_
            refine WL.skip rfl rfl rfl ?_
            refine WL.skip rfl rfl rfl ?_
            refine WL.skip rfl rfl rfl ?_
            refine WL.skip rfl rfl rfl ?_
            refine WL.skip rfl rfl rfl ?_
            refine WL.op rfl rfl rfl (Go.Proofs.Ytdkjeiemjnmdlaa.W.quiet_pick rfl rfl rfl) ?_
            refine WL.op rfl rfl rfl (Go.Proofs.Ytdkjeiemjnmdlaa.W.quiet_assign rfl rfl) ?_
            refine WL.end ?_
            refine Xw.nblk ?_
            refine Xw.nrm ?_
            refine TW.reg ?_
            refine WL.op rfl rfl rfl (Go.Proofs.Ytdkjeiemjnmdlaa.W.quiet_move rfl rfl) ?_
            refine WL.op rfl rfl rfl (Go.Proofs.Ytdkjeiemjnmdlaa.W.quiet_bin rfl rfl rfl (fun W => qb_add_int W _ _ _ _ (by omega) (by omega))) ?_
            refine WL.op rfl rfl rfl (Go.Proofs.Ytdkjeiemjnmdlaa.W.quiet_assign rfl rfl) ?_
            refine WL.end ?_
            refine Xw.any (fun a k => ?_)
            exact ⟨j + 1, by omega, by omega, by rw [hn]; (repeat (refine Kn.cons k rfl ?_)); exact k.base, ff, bx1, hv⟩
          · skip
            have hn : (s.take (j + 1)).any isTick = isTick (s.getD j 0) := by rw [hsu, hst]; rfl
            obtain ⟨g4, o4, rfl, h4⟩ := hat j hj2
            refine WL.op rfl rfl rfl (Go.Proofs.Ytdkjeiemjnmdlaa.W.quiet_move rfl rfl) ?_
            refine WL.op rfl rfl rfl (Go.Proofs.Ytdkjeiemjnmdlaa.W.quiet_field rfl rfl (fun W => (qa_power_Supply_0 W _ _))) ?_
            refine WL.ld rfl rfl rfl rfl rfl (ql_s_int _ _ _ _ _ (bx1.cell (j := 0) rfl)) ?_
            refine WL.op rfl rfl rfl (Go.Proofs.Ytdkjeiemjnmdlaa.W.quiet_move rfl rfl) ?_
            refine O.ixa rfl rfl rfl rfl rfl rfl (qi_s_int _ _ _ _ _ _ (by omega)) ?_
            refine WL.ld rfl rfl rfl rfl rfl (ql_int _ _ _ (ff.cell h4 id)) ?_
            refine WL.op rfl rfl rfl (Go.Proofs.Ytdkjeiemjnmdlaa.W.quiet_bin rfl rfl rfl (fun W => qb_gtr_int W _ _ _ _)) ?_
            refine WL.op rfl rfl rfl (Go.Proofs.Ytdkjeiemjnmdlaa.W.quiet_pick rfl rfl rfl) ?_
            refine WL.op rfl rfl rfl (Go.Proofs.Ytdkjeiemjnmdlaa.W.quiet_assign rfl rfl) ?_
            refine WL.end ?_
            refine Xw.nblk ?_
            refine Xw.nrm ?_
            refine TW.reg ?_
            refine WL.op rfl rfl rfl (Go.Proofs.Ytdkjeiemjnmdlaa.W.quiet_move rfl rfl) ?_
            refine WL.op rfl rfl rfl (Go.Proofs.Ytdkjeiemjnmdlaa.W.quiet_bin rfl rfl rfl (fun W => qb_add_int W _ _ _ _ (by omega) (by omega))) ?_
            refine WL.op rfl rfl rfl (Go.Proofs.Ytdkjeiemjnmdlaa.W.quiet_assign rfl rfl) ?_
            refine WL.end ?_
            refine Xw.any (fun a k => ?_)
            exact ⟨j + 1, by omega, by omega, by rw [hn]; (repeat (refine Kn.cons k rfl ?_)); exact k.base, ff, bx1, hv⟩
        · skip
          have hje : s.length = j := by have := of_decide_eq_false hb1; omega
          subst hje
          rw [List.take_length] at k
          refine WL.nil ?_
          refine TW.cond rfl (fun hb => by cases hb) (fun _ => ?_)
          refine TW.exit ?_
          refine Xw.thn (by simp) ?_
          refine Xw.thn (by simp) ?_
          refine Xw.hit ?_
          refine Xw.nrm ?_
          refine TW.seq ?_
          refine TW.sreg ?_
          refine WL.ld rfl rfl rfl rfl rfl (qlB_power_Supply _ _ _ _ _ _ _ _ bx1) ?_
          refine WL.call (hr := (t_right oa c s room lim _ (hat.fr ff))) rfl rfl rfl rfl rfl (fun W => qk_power_Right W _) ?_
          rintro e w5 ⟨b2, rfl, hb2, f5⟩
          refine ⟨_, rfl, ?_⟩
          replace bx1 := bx1.fr f5 id
          replace hv := Row.fr hv f5 (fun _ _ => id)
          replace ff := ff.trans f5
          have hbb : b2 = br := by cases b2 <;> cases br <;> simp_all
          skip
          refine WL.op rfl rfl rfl (Go.Proofs.Ytdkjeiemjnmdlaa.W.quiet_move rfl rfl) ?_
          refine WL.op rfl rfl rfl (Go.Proofs.Ytdkjeiemjnmdlaa.W.quiet_bin rfl rfl rfl (fun W => qb_neq_bool W _ _ _ _)) ?_
          refine O.split (fun hb => by rw [hbb] at hb; simp at hb) (fun hb => ?_)
          refine WL.op rfl rfl rfl (Go.Proofs.Ytdkjeiemjnmdlaa.W.quiet_move rfl rfl) ?_
          refine WL.ld rfl rfl rfl rfl rfl (qlB_power_Supply _ _ _ _ _ _ _ _ bx1) ?_
          refine WL.call (hr := (t_steady oa c s (by omega) room lim _ (hat.fr ff))) rfl rfl rfl rfl rfl (fun W => qk_power_Steady W _) ?_
          rintro e w6 ⟨rfl, f6⟩
          refine ⟨_, rfl, ?_⟩
          replace bx1 := bx1.fr f6 id
          replace hv := Row.fr hv f6 (fun _ _ => id)
          replace ff := ff.trans f6
          skip
          refine WL.op rfl rfl rfl (Go.Proofs.Ytdkjeiemjnmdlaa.W.quiet_move rfl rfl) ?_
          refine WL.op rfl rfl rfl (Go.Proofs.Ytdkjeiemjnmdlaa.W.quiet_bin rfl rfl rfl (fun W => qb_neq_bool W _ _ _ _)) ?_
          refine O.split (fun hb => by simp at hb) (fun hb => ?_)
          refine WL.op rfl rfl rfl (Go.Proofs.Ytdkjeiemjnmdlaa.W.quiet_pick rfl rfl rfl) ?_
          refine WL.nil ?_
          refine TW.cond rfl (fun hb => by cases hb) (fun _ => ?_)
          refine TW.skip ?_
          refine TW.seq ?_
          refine TW.sreg ?_
          refine WL.op rfl rfl rfl (Go.Proofs.Ytdkjeiemjnmdlaa.W.quiet_move rfl rfl) ?_
          refine WL.op rfl rfl rfl (Go.Proofs.Ytdkjeiemjnmdlaa.W.quiet_not rfl rfl) ?_
          refine O.split (fun hb => by rw [hbr.2 hR] at hb; cases hb) (fun hb => ?_)
          refine WL.nil ?_
          refine TW.cond rfl (fun hb => by cases hb) (fun _ => ?_)
          refine TW.skip ?_
          refine TW.sreg ?_
          refine WL.op rfl rfl rfl (Go.Proofs.Ytdkjeiemjnmdlaa.W.quiet_field rfl rfl (fun W => (qa_power_Supply_0 W _ _))) ?_
          refine WL.ld rfl rfl rfl rfl rfl (ql_s_int _ _ _ _ _ (bx1.cell (j := 0) rfl)) ?_
          refine WL.op rfl rfl rfl (Go.Proofs.Ytdkjeiemjnmdlaa.W.quiet_field rfl rfl (fun W => (qa_power_Supply_1 W _ _))) ?_
          refine WL.ld rfl rfl rfl rfl rfl (ql_int _ _ _ (bx1.cell (j := 1) rfl)) ?_
          refine WL.op rfl rfl rfl (Go.Proofs.Ytdkjeiemjnmdlaa.W.quiet_field rfl rfl (fun W => (qa_power_Supply_2 W _ _))) ?_
          refine WL.ld rfl rfl rfl rfl rfl (ql_int _ _ _ (bx1.cell (j := 2) rfl)) ?_
          refine WL.op rfl rfl rfl (Go.Proofs.Ytdkjeiemjnmdlaa.W.quiet_move rfl rfl) ?_
          refine WL.call (hr := (t_rgo oa c s room lim tm (by omega) hR _ (hat.fr ff))) rfl rfl rfl rfl rfl (fun W => qk_rushlightref33_Go W _) ?_
          rintro e w7 ⟨vr, rfl, hvr, f7⟩
          refine ⟨_, rfl, ?_⟩
          replace bx1 := bx1.fr f7 id
          replace hv := Row.fr hv f7 (fun _ _ => id)
          replace ff := ff.trans f7
          obtain ⟨vb, vd, rfl⟩ := Row.form hvr
          have lt2_bx1 := bx1.lt
          have lw2 := ff.size
          refine O.allocR rfl rfl rfl rfl (qzR_rushlightref33_Run w7) ?_
          rintro wa2 ⟨fa2, bx2⟩
          replace bx1 := bx1.fr fa2 id
          replace hv := Row.fr hv fa2 (fun _ _ => id)
          replace hvr := Row.fr hvr fa2 (fun _ _ => id)
          replace ff := ff.trans fa2
          obtain ⟨gR, hgR⟩ : ∃ g, g = w7.heap.size := ⟨_, rfl⟩
          rw [← hgR] at bx2
          rw [← hgR]
          have hwg : w.heap.size < gR := by have := ff.size; omega
          refine O.storeR rfl rfl rfl rfl rfl (qsA_rushlightref33_Run wa2 _ _ _ _ _ _ _ bx2) ?_
          rintro wa3 ⟨fa3, bx2x⟩
          replace bx1 := bx1.fr fa3 (fun e => by omega)
          replace hv := Row.fr hv fa3 (fun k hk e => Row.apart_typ hv bx2 (by decide) (hk.trans (congrArg some e)))
          replace hvr := Row.fr hvr fa3 (fun k hk e => Row.apart_typ hvr bx2 (by decide) (hk.trans (congrArg some e)))
          replace ff := ff.trans' fa3 (fun q hq e => by omega)
          clear bx2
          have bx2 := bx2x
          clear bx2x
          refine WL.nil ?_
          refine TW.seq ?_
          refine TW.sreg ?_
          refine WL.op rfl rfl rfl (Go.Proofs.Ytdkjeiemjnmdlaa.W.quiet_move rfl rfl) ?_
          refine WL.op rfl rfl rfl (Go.Proofs.Ytdkjeiemjnmdlaa.W.quiet_bin rfl rfl rfl (fun W => qb_neq_api_Errno W _ _ _ _)) ?_
          refine O.split (fun hb => by simp at hb) (fun hb => ?_)
          refine WL.op rfl rfl rfl (Go.Proofs.Ytdkjeiemjnmdlaa.W.quiet_move rfl rfl) ?_
          refine WL.op rfl rfl rfl (Go.Proofs.Ytdkjeiemjnmdlaa.W.quiet_move rfl rfl) ?_
          refine WL.op rfl rfl rfl (Go.Proofs.Ytdkjeiemjnmdlaa.W.quiet_field rfl rfl (fun W => (qa_rushlightref33_Run_1 W _ _))) ?_
          refine WL.ld rfl rfl rfl rfl rfl (ql_int _ _ _ (bx2.cell (j := 1) rfl)) ?_
          refine WL.op rfl rfl rfl (Go.Proofs.Ytdkjeiemjnmdlaa.W.quiet_bin rfl rfl rfl (fun W => qb_neq_int W _ _ _ _)) ?_
          refine O.split (fun hb => by simp at hb) (fun hb => ?_)
          refine WL.op rfl rfl rfl (Go.Proofs.Ytdkjeiemjnmdlaa.W.quiet_pick rfl rfl rfl) ?_
          refine WL.op rfl rfl rfl (Go.Proofs.Ytdkjeiemjnmdlaa.W.quiet_move rfl rfl) ?_
          refine WL.op rfl rfl rfl (Go.Proofs.Ytdkjeiemjnmdlaa.W.quiet_move rfl rfl) ?_
          refine O.len rfl rfl rfl rfl rfl (qn_s_int _ _ _ _) ?_
          refine WL.op rfl rfl rfl (Go.Proofs.Ytdkjeiemjnmdlaa.W.quiet_field rfl rfl (fun W => (qa_rushlightref33_Run_0 W _ _))) ?_
          refine WL.ld rfl rfl rfl rfl rfl (ql_s_int _ _ _ _ _ (bx2.cell (j := 0) rfl)) ?_
          refine O.len rfl rfl rfl rfl rfl (qn_s_int _ _ _ _) ?_
          refine WL.op rfl rfl rfl (Go.Proofs.Ytdkjeiemjnmdlaa.W.quiet_bin rfl rfl rfl (fun W => qb_neq_int W _ _ _ _)) ?_
          refine O.split (fun hb => by simp at hb) (fun hb => ?_)
          refine WL.op rfl rfl rfl (Go.Proofs.Ytdkjeiemjnmdlaa.W.quiet_pick rfl rfl rfl) ?_
          refine WL.nil ?_
          refine TW.cond rfl (fun hb => by cases hb) (fun _ => ?_)
          refine TW.skip ?_
          refine TW.seq ?_
          refine TW.sreg ?_
          refine WL.op rfl rfl rfl (Go.Proofs.Ytdkjeiemjnmdlaa.W.quiet_assign rfl rfl) ?_
          refine WL.nil ?_
          refine TW.block ?_
          refine O.loopG (n := (stP room lim s (tmN tm)).fl.length) (fun a _ => (intOf (a.tmps.getD 12 undef)).toNat) (fun j a W => Kn Try.f3.ntmps [(2, .pointer (some ⟨w.heap.size, 0, none⟩)), (5, .slice va (stP room lim s (tmN tm)).fl.length vc), (11, .pointer (some ⟨gR, 0, none⟩)), (12, .int .i64 (j : Int))] a ∧ Fr (fun _ => False) w W ∧ Bx W gR #[.slice vb (stP room lim s (tmN tm)).fl.length vd, .int .i64 (stP room lim s (tmN tm)).ex] 32 ∧ IntsAt W va (stP room lim s (tmN tm)).fl ∧ IntsAt W vb (stP room lim s (tmN tm)).fl) (fun j a W h => O.slotv h.1 rfl) 0 (Nat.zero_le _) (fun a k => ⟨(by (repeat (refine Kn.cons k rfl ?_)); exact k.base), ff, bx2, Ints.cells hv, Ints.cells hvr⟩) ?_
          rintro j a wc hj ⟨k, ff, bx2, hvi, hvj⟩
          refine TW.app (s := [(2, .pointer (some ⟨w.heap.size, 0, none⟩)), (5, .slice va (stP room lim s (tmN tm)).fl.length vc), (11, .pointer (some ⟨gR, 0, none⟩)), (12, .int .i64 (j : Int))]) ?_ k
          refine TW.seq ?_
          refine TW.sreg ?_
          refine WL.op rfl rfl rfl (Go.Proofs.Ytdkjeiemjnmdlaa.W.quiet_move rfl rfl) ?_
          refine WL.op rfl rfl rfl (Go.Proofs.Ytdkjeiemjnmdlaa.W.quiet_move rfl rfl) ?_
          refine O.len rfl rfl rfl rfl rfl (qn_s_int _ _ _ _) ?_
          refine WL.op rfl rfl rfl (Go.Proofs.Ytdkjeiemjnmdlaa.W.quiet_bin rfl rfl rfl (fun W => qb_lss_int W _ _ _ _)) ?_
          refine O.split (fun hb3 => ?_) (fun hb3 => ?_)
          · skip
            have hj2 : j < (stP room lim s (tmN tm)).fl.length := by have := of_decide_eq_true hb3; omega
            obtain ⟨g4, o4, rfl, h4⟩ := hvi j hj2
            obtain ⟨g5, o5, rfl, h5⟩ := hvj j hj2
            refine WL.nil ?_
            refine TW.cond rfl (fun _ => ?_) (fun hb => by cases hb)
            refine TW.skip ?_
            refine TW.seq ?_
            refine TW.block ?_
            refine Q.sreg (C := fun W => Fr (fun _ => False) wc W) (by kernel_rfl) (by kernel_rfl) (fun W h => h.drewN 1) (Fr.refl _ _) ?_
            refine W.op rfl rfl rfl (Go.Proofs.Ytdkjeiemjnmdlaa.W.quiet_move rfl rfl) ?_
            refine W.op rfl rfl rfl (Go.Proofs.Ytdkjeiemjnmdlaa.W.quiet_move rfl rfl) ?_
            refine W.op rfl rfl rfl (Go.Proofs.Ytdkjeiemjnmdlaa.W.quiet_index rfl rfl rfl (fun W => (qi_s_int _ _ _ _ _ _ (by omega)))) ?_
            refine W.op rfl rfl rfl (Go.Proofs.Ytdkjeiemjnmdlaa.W.quiet_load rfl rfl (fun W hW => (ql_int _ _ _ (hW.cell h4 id)))) ?_
            refine W.op rfl rfl rfl (Go.Proofs.Ytdkjeiemjnmdlaa.W.quiet_field rfl rfl (fun W => (qa_rushlightref33_Run_0 W _ _))) ?_
            refine W.op rfl rfl rfl (Go.Proofs.Ytdkjeiemjnmdlaa.W.quiet_load rfl rfl (fun W hW => (ql_s_int _ _ _ _ _ ((bx2.fr hW id).cell (j := 0) rfl)))) ?_
            refine W.op rfl rfl rfl (Go.Proofs.Ytdkjeiemjnmdlaa.W.quiet_move rfl rfl) ?_
            refine W.op rfl rfl rfl (Go.Proofs.Ytdkjeiemjnmdlaa.W.quiet_index rfl rfl rfl (fun W => (qi_s_int _ _ _ _ _ _ (by omega)))) ?_
            refine W.op rfl rfl rfl (Go.Proofs.Ytdkjeiemjnmdlaa.W.quiet_load rfl rfl (fun W hW => (ql_int _ _ _ (hW.cell h5 id)))) ?_
            refine W.op rfl rfl rfl (Go.Proofs.Ytdkjeiemjnmdlaa.W.quiet_bin rfl rfl rfl (fun W => qb_neq_int W _ _ _ _)) ?_
            refine Q.split (fun hb => by simp at hb) (fun hb => ?_)
            refine Q.nil (T.tw fun wq1 fq1 => ?_)
            replace bx2 := bx2.fr fq1 id
            replace hvi := hvi.fr fq1
            replace hvj := hvj.fr fq1
            replace ff := ff.trans fq1
            refine TW.cond rfl (fun hb => by cases hb) (fun _ => ?_)
            refine TW.skipx ?_
            refine Xw.nblk ?_
            refine Xw.nrm ?_
            refine TW.reg ?_
            refine WL.op rfl rfl rfl (Go.Proofs.Ytdkjeiemjnmdlaa.W.quiet_move rfl rfl) ?_
            refine WL.op rfl rfl rfl (Go.Proofs.Ytdkjeiemjnmdlaa.W.quiet_bin rfl rfl rfl (fun W => qb_add_int W _ _ _ _ (by omega) (by omega))) ?_
            refine WL.op rfl rfl rfl (Go.Proofs.Ytdkjeiemjnmdlaa.W.quiet_assign rfl rfl) ?_
            refine WL.end ?_
            refine Xw.any (fun a k => ?_)
            exact ⟨j + 1, by omega, by omega, (by (repeat (refine Kn.cons k rfl ?_)); exact k.base), ff, bx2, hvi, hvj⟩
          · skip
            refine WL.nil ?_
            refine TW.cond rfl (fun hb => by cases hb) (fun _ => ?_)
            refine TW.exit ?_
            refine Xw.thn (by simp) ?_
            refine Xw.thn (by simp) ?_
            refine Xw.hit ?_
            refine Xw.nrm ?_
            refine TW.sreg ?_
            refine WL.call (hr := t_awake _) rfl rfl rfl rfl rfl (fun W => qk_rushlightlaw33_awake W _) ?_
            rintro e wq ⟨rfl, fq⟩
            refine ⟨_, rfl, ?_⟩
            replace bx2 := bx2.fr fq id
            replace hvi := hvi.fr fq
            replace hvj := hvj.fr fq
            replace ff := ff.trans fq
            refine WL.op rfl rfl rfl (Go.Proofs.Ytdkjeiemjnmdlaa.W.quiet_assign rfl rfl) ?_
            refine WL.nil ?_
            refine TW.rt ?_
            refine bodyw_ret rfl rfl ?_
            exact ⟨rfl, ff⟩
    · skip
      subst hbf
      refine WL.op rfl rfl rfl (Go.Proofs.Ytdkjeiemjnmdlaa.W.quiet_not rfl rfl) ?_
      refine WL.op rfl rfl rfl (Go.Proofs.Ytdkjeiemjnmdlaa.W.quiet_move rfl rfl) ?_
      refine WL.skip rfl rfl rfl ?_
      refine WL.skip rfl rfl rfl ?_
      refine WL.op rfl rfl rfl (Go.Proofs.Ytdkjeiemjnmdlaa.W.quiet_pick rfl rfl rfl) ?_
      refine WL.nil ?_
      refine TW.cond rfl (fun _ => ?_) (fun hb => by cases hb)
      refine TW.sreg ?_
      refine WL.call (hr := t_awake _) rfl rfl rfl rfl rfl (fun W => qk_rushlightlaw33_awake W _) ?_
      rintro e wq ⟨rfl, fq⟩
      refine ⟨_, rfl, ?_⟩
      replace bx1 := bx1.fr fq id
      replace ff := ff.trans fq
      refine WL.op rfl rfl rfl (Go.Proofs.Ytdkjeiemjnmdlaa.W.quiet_assign rfl rfl) ?_
      refine WL.nil ?_
      refine TW.rt ?_
      refine Xw.thn (by simp) ?_
      refine bodyw_ret rfl rfl ?_
      exact ⟨rfl, ff⟩
  · skip
    refine WL.op rfl rfl rfl (Go.Proofs.Ytdkjeiemjnmdlaa.W.quiet_assign rfl rfl) ?_
    refine WL.nil ?_
    refine TW.seq ?_
    refine TW.sreg ?_
    refine WL.ld rfl rfl rfl rfl rfl (qlB_power_Supply _ _ _ _ _ _ _ _ bx1) ?_
    refine WL.call (hr := t_few oa c s room lim _) rfl rfl rfl rfl rfl (fun W => qk_rushlightlaw33_few W _) ?_
    rintro e w1 ⟨b, rfl, hfw, f1⟩
    refine ⟨_, rfl, ?_⟩
    replace bx1 := bx1.fr f1 id
    replace ff := ff.trans f1
    refine O.split (fun hbf => ?_) (fun hbf => ?_)
    · skip
      have hl5 := hfw hbf
      subst hbf
      refine WL.op rfl rfl rfl (Go.Proofs.Ytdkjeiemjnmdlaa.W.quiet_not rfl rfl) ?_
      refine WL.op rfl rfl rfl (Go.Proofs.Ytdkjeiemjnmdlaa.W.quiet_move rfl rfl) ?_
      refine WL.op rfl rfl rfl (Go.Proofs.Ytdkjeiemjnmdlaa.W.quiet_move rfl rfl) ?_
      refine WL.op rfl rfl rfl (Go.Proofs.Ytdkjeiemjnmdlaa.W.quiet_bin rfl rfl rfl (fun W => qb_gtr_int W _ _ _ _)) ?_
      refine O.split (fun h2 => ?_) (fun h2 => ?_)
      · skip
        refine WL.op rfl rfl rfl (Go.Proofs.Ytdkjeiemjnmdlaa.W.quiet_pick rfl rfl rfl) ?_
        refine WL.nil ?_
        refine TW.cond rfl (fun _ => ?_) (fun hb => by cases hb)
        refine TW.sreg ?_
        refine WL.call (hr := t_awake _) rfl rfl rfl rfl rfl (fun W => qk_rushlightlaw33_awake W _) ?_
        rintro e wq ⟨rfl, fq⟩
        refine ⟨_, rfl, ?_⟩
        replace bx1 := bx1.fr fq id
        replace ff := ff.trans fq
        refine WL.op rfl rfl rfl (Go.Proofs.Ytdkjeiemjnmdlaa.W.quiet_assign rfl rfl) ?_
        refine WL.nil ?_
        refine TW.rt ?_
        refine Xw.thn (by simp) ?_
        refine bodyw_ret rfl rfl ?_
        exact ⟨rfl, ff⟩
      · skip
        have htm : tm ≤ 20000 := by have := of_decide_eq_false h2; omega
        refine WL.op rfl rfl rfl (Go.Proofs.Ytdkjeiemjnmdlaa.W.quiet_pick rfl rfl rfl) ?_
        refine WL.nil ?_
        refine TW.cond rfl (fun hb => by cases hb) (fun _ => ?_)
        refine TW.skip ?_
        refine TW.sreg ?_
        refine WL.ld rfl rfl rfl rfl rfl (qlB_power_Supply _ _ _ _ _ _ _ _ bx1) ?_
        refine WL.op rfl rfl rfl (Go.Proofs.Ytdkjeiemjnmdlaa.W.quiet_move rfl rfl) ?_
        refine WL.call (hr := (fails_bad oa c s room lim tm _ (by omega) (hat.fr ff) hR)) rfl rfl rfl rfl rfl (fun W => qk_power_Fails W _) ?_
        rintro e w2 ⟨rfl, f2⟩
        refine ⟨_, rfl, ?_⟩
        replace bx1 := bx1.fr f2 id
        replace ff := ff.trans f2
        refine WL.op rfl rfl rfl (Go.Proofs.Ytdkjeiemjnmdlaa.W.quiet_move rfl rfl) ?_
        refine O.ext rfl rfl rfl rfl rfl rfl ?_
        refine O.ext rfl rfl rfl rfl rfl rfl ?_
        refine O.ext rfl rfl rfl rfl rfl rfl ?_
        refine WL.op rfl rfl rfl (Go.Proofs.Ytdkjeiemjnmdlaa.W.quiet_assign rfl rfl) ?_
        refine WL.op rfl rfl rfl (Go.Proofs.Ytdkjeiemjnmdlaa.W.quiet_assign rfl rfl) ?_
        refine WL.op rfl rfl rfl (Go.Proofs.Ytdkjeiemjnmdlaa.W.quiet_assign rfl rfl) ?_
        refine WL.nil ?_
        refine TW.sreg ?_
        refine WL.op rfl rfl rfl (Go.Proofs.Ytdkjeiemjnmdlaa.W.quiet_field rfl rfl (fun W => (qa_power_Supply_0 W _ _))) ?_
        refine WL.ld rfl rfl rfl rfl rfl (ql_s_int _ _ _ _ _ (bx1.cell (j := 0) rfl)) ?_
        refine WL.op rfl rfl rfl (Go.Proofs.Ytdkjeiemjnmdlaa.W.quiet_field rfl rfl (fun W => (qa_power_Supply_1 W _ _))) ?_
        refine WL.ld rfl rfl rfl rfl rfl (ql_int _ _ _ (bx1.cell (j := 1) rfl)) ?_
        refine WL.op rfl rfl rfl (Go.Proofs.Ytdkjeiemjnmdlaa.W.quiet_field rfl rfl (fun W => (qa_power_Supply_2 W _ _))) ?_
        refine WL.ld rfl rfl rfl rfl rfl (ql_int _ _ _ (bx1.cell (j := 2) rfl)) ?_
        refine WL.call (hr := (t_rright oa c s (by omega) room lim _ (hat.fr ff))) rfl rfl rfl rfl rfl (fun W => qk_rushlightref33_Right W _) ?_
        rintro e w4 ⟨br, rfl, hbr, f4⟩
        refine ⟨_, rfl, ?_⟩
        replace bx1 := bx1.fr f4 id
        replace ff := ff.trans f4
        refine WL.op rfl rfl rfl (Go.Proofs.Ytdkjeiemjnmdlaa.W.quiet_assign rfl rfl) ?_
        refine WL.nil ?_
        refine TW.sreg ?_
        refine WL.op rfl rfl rfl (Go.Proofs.Ytdkjeiemjnmdlaa.W.quiet_assign rfl rfl) ?_
        refine WL.nil ?_
        refine TW.seq ?_
        refine TW.sreg ?_
        refine WL.op rfl rfl rfl (Go.Proofs.Ytdkjeiemjnmdlaa.W.quiet_assign rfl rfl) ?_
        refine WL.nil ?_
        refine TW.block ?_
        refine O.loopG (n := s.length) (fun a _ => (intOf (a.tmps.getD 10 undef)).toNat) (fun j a W => Kn Try.f3.ntmps [(1, .int .i64 tm), (2, .pointer (some ⟨w.heap.size, 0, none⟩)), (5, .slice none 0 0), (6, .int .i64 0), (7, .int .i64 1), (8, .bool br), (9, .bool ((s.take j).any isTick)), (10, .int .i64 (j : Int))] a ∧ Fr (fun _ => False) w W ∧ Bx W w.heap.size #[.slice oa s.length c, .int .i64 room, .int .i64 lim] 24) (fun j a W h => O.slotv h.1 rfl) 0 (Nat.zero_le _) (fun a k => ⟨by rw [List.take_zero]; (repeat (refine Kn.cons k rfl ?_)); exact k.base, ff, bx1⟩) ?_
        rintro j a wl hj ⟨k, ff, bx1⟩
        refine TW.app (s := [(1, .int .i64 tm), (2, .pointer (some ⟨w.heap.size, 0, none⟩)), (5, .slice none 0 0), (6, .int .i64 0), (7, .int .i64 1), (8, .bool br), (9, .bool ((s.take j).any isTick)), (10, .int .i64 (j : Int))]) ?_ k
        refine TW.seq ?_
        refine TW.sreg ?_
        refine WL.op rfl rfl rfl (Go.Proofs.Ytdkjeiemjnmdlaa.W.quiet_move rfl rfl) ?_
        refine WL.op rfl rfl rfl (Go.Proofs.Ytdkjeiemjnmdlaa.W.quiet_field rfl rfl (fun W => (qa_power_Supply_0 W _ _))) ?_
        refine WL.ld rfl rfl rfl rfl rfl (ql_s_int _ _ _ _ _ (bx1.cell (j := 0) rfl)) ?_
        refine O.len rfl rfl rfl rfl rfl (qn_s_int _ _ _ _) ?_
        refine WL.op rfl rfl rfl (Go.Proofs.Ytdkjeiemjnmdlaa.W.quiet_bin rfl rfl rfl (fun W => qb_lss_int W _ _ _ _)) ?_
        refine O.split (fun hb1 => ?_) (fun hb1 => ?_)
        · skip
          have hj2 : j < s.length := by have := of_decide_eq_true hb1; omega
          have hsu := any_succ (p := isTick) hj2
          refine WL.nil ?_
          refine TW.cond rfl (fun _ => ?_) (fun hb => by cases hb)
          refine TW.skip ?_
          refine TW.seq ?_
          refine TW.block ?_
          refine TW.reg ?_
          refine WL.op rfl rfl rfl (Go.Proofs.Ytdkjeiemjnmdlaa.W.quiet_move rfl rfl) ?_
          refine O.split (fun hst => ?_) (fun hst => ?_)
          · skip
            have hn : (s.take (j + 1)).any isTick = true := by rw [hsu, hst]; rfl
            refine WL.op rfl rfl rfl (Go.Proofs.Ytdkjeiemjnmdlaa.W.quiet_move rfl rfl) ?_
            refine WL.skip rfl rfl rfl ?_
            refine WL.skip rfl rfl rfl ?_
            refine WL.skip rfl rfl rfl ?_
            refine WL.skip rfl rfl rfl ?_
            refine WL.skip rfl rfl rfl ?_
            refine WL.skip rfl rfl rfl ?_
            refine WL.op rfl rfl rfl (Go.Proofs.Ytdkjeiemjnmdlaa.W.quiet_pick rfl rfl rfl) ?_
            refine WL.op rfl rfl rfl (Go.Proofs.Ytdkjeiemjnmdlaa.W.quiet_assign rfl rfl) ?_
            refine WL.end ?_
            refine Xw.nblk ?_
            refine Xw.nrm ?_
            refine TW.reg ?_
            refine WL.op rfl rfl rfl (Go.Proofs.Ytdkjeiemjnmdlaa.W.quiet_move rfl rfl) ?_
            refine WL.op rfl rfl rfl (Go.Proofs.Ytdkjeiemjnmdlaa.W.quiet_bin rfl rfl rfl (fun W => qb_add_int W _ _ _ _ (by omega) (by omega))) ?_
            refine WL.op rfl rfl rfl (Go.Proofs.Ytdkjeiemjnmdlaa.W.quiet_assign rfl rfl) ?_
            refine WL.end ?_
            refine Xw.any (fun a k => ?_)
            exact ⟨j + 1, by omega, by omega, by rw [hn]; (repeat (refine Kn.cons k rfl ?_)); exact k.base, ff, bx1⟩
          · skip
            have hn : (s.take (j + 1)).any isTick = isTick (s.getD j 0) := by rw [hsu, hst]; rfl
            obtain ⟨g4, o4, rfl, h4⟩ := hat j hj2
            refine WL.op rfl rfl rfl (Go.Proofs.Ytdkjeiemjnmdlaa.W.quiet_move rfl rfl) ?_
            refine WL.op rfl rfl rfl (Go.Proofs.Ytdkjeiemjnmdlaa.W.quiet_field rfl rfl (fun W => (qa_power_Supply_0 W _ _))) ?_
            refine WL.ld rfl rfl rfl rfl rfl (ql_s_int _ _ _ _ _ (bx1.cell (j := 0) rfl)) ?_
            refine WL.op rfl rfl rfl (Go.Proofs.Ytdkjeiemjnmdlaa.W.quiet_move rfl rfl) ?_
            refine O.ixa rfl rfl rfl rfl rfl rfl (qi_s_int _ _ _ _ _ _ (by omega)) ?_
            refine WL.ld rfl rfl rfl rfl rfl (ql_int _ _ _ (ff.cell h4 id)) ?_
            refine WL.op rfl rfl rfl (Go.Proofs.Ytdkjeiemjnmdlaa.W.quiet_bin rfl rfl rfl (fun W => qb_gtr_int W _ _ _ _)) ?_
            refine WL.op rfl rfl rfl (Go.Proofs.Ytdkjeiemjnmdlaa.W.quiet_pick rfl rfl rfl) ?_
            refine WL.op rfl rfl rfl (Go.Proofs.Ytdkjeiemjnmdlaa.W.quiet_assign rfl rfl) ?_
            refine WL.end ?_
            refine Xw.nblk ?_
            refine Xw.nrm ?_
            refine TW.reg ?_
            refine WL.op rfl rfl rfl (Go.Proofs.Ytdkjeiemjnmdlaa.W.quiet_move rfl rfl) ?_
            refine WL.op rfl rfl rfl (Go.Proofs.Ytdkjeiemjnmdlaa.W.quiet_bin rfl rfl rfl (fun W => qb_add_int W _ _ _ _ (by omega) (by omega))) ?_
            refine WL.op rfl rfl rfl (Go.Proofs.Ytdkjeiemjnmdlaa.W.quiet_assign rfl rfl) ?_
            refine WL.end ?_
            refine Xw.any (fun a k => ?_)
            exact ⟨j + 1, by omega, by omega, by rw [hn]; (repeat (refine Kn.cons k rfl ?_)); exact k.base, ff, bx1⟩
        · skip
          have hje : s.length = j := by have := of_decide_eq_false hb1; omega
          subst hje
          rw [List.take_length] at k
          refine WL.nil ?_
          refine TW.cond rfl (fun hb => by cases hb) (fun _ => ?_)
          refine TW.exit ?_
          refine Xw.thn (by simp) ?_
          refine Xw.thn (by simp) ?_
          refine Xw.hit ?_
          refine Xw.nrm ?_
          refine TW.seq ?_
          refine TW.sreg ?_
          refine WL.ld rfl rfl rfl rfl rfl (qlB_power_Supply _ _ _ _ _ _ _ _ bx1) ?_
          refine WL.call (hr := (t_right oa c s room lim _ (hat.fr ff))) rfl rfl rfl rfl rfl (fun W => qk_power_Right W _) ?_
          rintro e w5 ⟨b2, rfl, hb2, f5⟩
          refine ⟨_, rfl, ?_⟩
          replace bx1 := bx1.fr f5 id
          replace ff := ff.trans f5
          have hbb : b2 = br := by cases b2 <;> cases br <;> simp_all
          skip
          refine WL.op rfl rfl rfl (Go.Proofs.Ytdkjeiemjnmdlaa.W.quiet_move rfl rfl) ?_
          refine WL.op rfl rfl rfl (Go.Proofs.Ytdkjeiemjnmdlaa.W.quiet_bin rfl rfl rfl (fun W => qb_neq_bool W _ _ _ _)) ?_
          refine O.split (fun hb => by rw [hbb] at hb; simp at hb) (fun hb => ?_)
          refine WL.op rfl rfl rfl (Go.Proofs.Ytdkjeiemjnmdlaa.W.quiet_move rfl rfl) ?_
          refine WL.ld rfl rfl rfl rfl rfl (qlB_power_Supply _ _ _ _ _ _ _ _ bx1) ?_
          refine WL.call (hr := (t_steady oa c s (by omega) room lim _ (hat.fr ff))) rfl rfl rfl rfl rfl (fun W => qk_power_Steady W _) ?_
          rintro e w6 ⟨rfl, f6⟩
          refine ⟨_, rfl, ?_⟩
          replace bx1 := bx1.fr f6 id
          replace ff := ff.trans f6
          skip
          refine WL.op rfl rfl rfl (Go.Proofs.Ytdkjeiemjnmdlaa.W.quiet_move rfl rfl) ?_
          refine WL.op rfl rfl rfl (Go.Proofs.Ytdkjeiemjnmdlaa.W.quiet_bin rfl rfl rfl (fun W => qb_neq_bool W _ _ _ _)) ?_
          refine O.split (fun hb => by simp at hb) (fun hb => ?_)
          have hbf : br = false := by cases br <;> simp_all
          subst hbf
          refine WL.op rfl rfl rfl (Go.Proofs.Ytdkjeiemjnmdlaa.W.quiet_pick rfl rfl rfl) ?_
          refine WL.nil ?_
          refine TW.cond rfl (fun hb => by cases hb) (fun _ => ?_)
          refine TW.skip ?_
          refine TW.seq ?_
          refine TW.sreg ?_
          refine WL.op rfl rfl rfl (Go.Proofs.Ytdkjeiemjnmdlaa.W.quiet_move rfl rfl) ?_
          refine WL.op rfl rfl rfl (Go.Proofs.Ytdkjeiemjnmdlaa.W.quiet_not rfl rfl) ?_
          refine O.split (fun hb => ?_) (fun hb => by exfalso; revert hb; first | (simp; done) | (simp; omega))
          refine WL.nil ?_
          refine TW.cond rfl (fun _ => ?_) (fun hb => by cases hb)
          refine TW.sreg ?_
          refine WL.call (hr := t_awake _) rfl rfl rfl rfl rfl (fun W => qk_rushlightlaw33_awake W _) ?_
          rintro e wq ⟨rfl, fq⟩
          refine ⟨_, rfl, ?_⟩
          replace bx1 := bx1.fr fq id
          replace ff := ff.trans fq
          refine O.split (fun hb => ?_) (fun hb => by exfalso; revert hb; first | (simp; done) | (simp; omega))
          refine WL.op rfl rfl rfl (Go.Proofs.Ytdkjeiemjnmdlaa.W.quiet_move rfl rfl) ?_
          refine WL.op rfl rfl rfl (Go.Proofs.Ytdkjeiemjnmdlaa.W.quiet_move rfl rfl) ?_
          refine WL.op rfl rfl rfl (Go.Proofs.Ytdkjeiemjnmdlaa.W.quiet_bin rfl rfl rfl (fun W => qb_eql_api_Errno W _ _ _ _)) ?_
          refine O.split (fun hb => ?_) (fun hb => by exfalso; revert hb; first | (simp; done) | (simp; omega))
          refine WL.op rfl rfl rfl (Go.Proofs.Ytdkjeiemjnmdlaa.W.quiet_pick rfl rfl rfl) ?_
          refine WL.op rfl rfl rfl (Go.Proofs.Ytdkjeiemjnmdlaa.W.quiet_move rfl rfl) ?_
          refine WL.op rfl rfl rfl (Go.Proofs.Ytdkjeiemjnmdlaa.W.quiet_move rfl rfl) ?_
          refine O.len rfl rfl rfl rfl rfl (qn_s_int _ _ _ _) ?_
          refine WL.op rfl rfl rfl (Go.Proofs.Ytdkjeiemjnmdlaa.W.quiet_bin rfl rfl rfl (fun W => qb_eql_int W _ _ _ _)) ?_
          refine O.split (fun hb => ?_) (fun hb => by exfalso; revert hb; first | (simp; done) | (simp; omega))
          refine WL.op rfl rfl rfl (Go.Proofs.Ytdkjeiemjnmdlaa.W.quiet_pick rfl rfl rfl) ?_
          refine WL.op rfl rfl rfl (Go.Proofs.Ytdkjeiemjnmdlaa.W.quiet_move rfl rfl) ?_
          refine WL.op rfl rfl rfl (Go.Proofs.Ytdkjeiemjnmdlaa.W.quiet_move rfl rfl) ?_
          refine WL.op rfl rfl rfl (Go.Proofs.Ytdkjeiemjnmdlaa.W.quiet_bin rfl rfl rfl (fun W => qb_eql_int W _ _ _ _)) ?_
          refine WL.op rfl rfl rfl (Go.Proofs.Ytdkjeiemjnmdlaa.W.quiet_pick rfl rfl rfl) ?_
          refine WL.op rfl rfl rfl (Go.Proofs.Ytdkjeiemjnmdlaa.W.quiet_assign rfl rfl) ?_
          refine WL.nil ?_
          refine TW.rt ?_
          refine Xw.thn (by simp) ?_
          refine bodyw_ret rfl rfl ?_
          exact ⟨rfl, ff⟩
    · skip
      subst hbf
      refine WL.op rfl rfl rfl (Go.Proofs.Ytdkjeiemjnmdlaa.W.quiet_not rfl rfl) ?_
      refine WL.op rfl rfl rfl (Go.Proofs.Ytdkjeiemjnmdlaa.W.quiet_move rfl rfl) ?_
      refine WL.skip rfl rfl rfl ?_
      refine WL.skip rfl rfl rfl ?_
      refine WL.op rfl rfl rfl (Go.Proofs.Ytdkjeiemjnmdlaa.W.quiet_pick rfl rfl rfl) ?_
      refine WL.nil ?_
      refine TW.cond rfl (fun _ => ?_) (fun hb => by cases hb)
      refine TW.sreg ?_
      refine WL.call (hr := t_awake _) rfl rfl rfl rfl rfl (fun W => qk_rushlightlaw33_awake W _) ?_
      rintro e wq ⟨rfl, fq⟩
      refine ⟨_, rfl, ?_⟩
      replace bx1 := bx1.fr fq id
      replace ff := ff.trans fq
      refine WL.op rfl rfl rfl (Go.Proofs.Ytdkjeiemjnmdlaa.W.quiet_assign rfl rfl) ?_
      refine WL.nil ?_
      refine TW.rt ?_
      refine Xw.thn (by simp) ?_
      refine bodyw_ret rfl rfl ?_
      exact ⟨rfl, ff⟩
end Go.Proofs.Ytdkjeiemjnmdlaa
