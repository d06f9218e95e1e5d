/-
  Flow (layer 16): the walk of FlowLives.
-/
import Derived.Test.YtobibplilbchfaaFlZ
import Derived.Test.YtobibplilbchfaaFlS
import Derived.Test.YtobibplilbchfaaFlQ
namespace Go.Proofs.Ytobibplilbchfaa
open Go.RowKit
set_option linter.unusedVariables false
set_option linter.unusedSimpArgs false
set_option linter.unnecessarySimpa false
theorem qk_rushlightlaw16_few (w : World) (vs : Array Value) : (callFunc 6 vs).run Try.prog w = .ok (.enter 6 vs) w := by simp [go_sem]
theorem qk_rushlightlaw16_awake (w : World) (vs : Array Value) : (callFunc 7 vs).run Try.prog w = .ok (.enter 7 vs) w := by simp [go_sem]
theorem qk_rushlightref16_Live (w : World) (vs : Array Value) : (callFunc 19 vs).run Try.prog w = .ok (.enter 19 vs) w := by simp [go_sem]
theorem qb_neq_bool (w : World) (x y : Operand) (m n : Bool) : ((do eqGuard .neq 4 x y (.bool m) (.bool n); binOp .neq 4 (.bool m) (.bool n) : Sem Value)).run Try.prog w = .ok (.bool (m != n)) w := by cases m <;> cases n <;> simp [go_sem]
theorem bi_max2 (w : World) (ty : TypeId) (n : Int) : (Builtin.max_ #[3, 3] ty #[.int .i64 n, .int .i64 0]).run Try.prog w = .ok (.int .i64 (max n 0)) w := by
  by_cases h : n < 0
  · have e : max n 0 = 0 := by omega
    rw [e]; simp [go_sem, Builtin.max_, Builtin.max2]; omega
  · have e : max n 0 = n := by omega
    rw [e]; simp [go_sem, Builtin.max_, Builtin.max2]; omega
theorem Q.bmax {P : Program} {C : World → Prop} {N : Nat} {s : List (Nat × Value)} {o : Oper} {x y : Operand} {t t2 : TypeId} {u u2 v : Value} (hop : o.op = .call ⟨.builtin .max, #[x, y], #[t, t2]⟩) (hu : ev s x = some u) (hu2 : ev s y = some u2) (hr : ∀ w, (Builtin.max_ #[t, t2] o.type #[u, u2]).run P w = .ok v w) : ∀ a, Kn N s a → ∀ w, C w → o.quietAt P a C w v := fun a k w hw => by
  have h1 := k.eval hu
  have h2 := k.eval hu2
  refine quietAt_of ?_
  unfold execOp
  rw [hop]
  generalize a.eval = e at *
  simp [go_sem, h1, h2, hr]
set_option maxRecDepth 100000 in
set_option maxHeartbeats 1000000 in
theorem walk_lives (nm : ByteArray) (vd : Bool) (pr R : Int) (oa : Option Addr) (on oc : Nat) (ba : Option Addr) (bs : List Bk) (bc : Nat) (hwd : Wd bs) (w : World) (hbl : BkL w ba bs) : Calls Try.prog 5 #[.agg #[.string nm, .bool vd, .int .i64 pr, .int .i64 R, .slice oa on oc, .slice ba bs.length bc]] w fun e w' => e = .returned (.bool true) ∧ Fr (fun _ => False) w w' := by
  have ff := Fr.refl (fun _ => False) w
  refine calls_tw Try.func5 rfl rfl (Nat.le_of_ble_eq_true rfl) ?_
  refine TW.sreg ?_
  have lw1 := ff.size
  refine O.boxR rfl rfl rfl rfl rfl (qxR_api_Proc w _ _ _ _ _ _ _ _ _ _) ?_
  rintro wa1 ⟨fa1, bx1⟩
  replace ff := ff.trans fa1
  refine WL.op rfl rfl rfl (Go.Proofs.Ytobibplilbchfaa.W.quiet_assign rfl rfl) ?_
  refine WL.nil ?_
  refine TW.seq ?_
  refine TW.sreg ?_
  refine WL.ld rfl rfl rfl rfl rfl (qlB_api_Proc _ _ _ _ _ _ _ _ _ _ _ _ _ bx1) ?_
  refine WL.call (hr := t_few nm vd pr R oa on oc ba bs bc hwd _ (hbl.fr ff)) rfl rfl rfl rfl rfl (fun W => qk_rushlightlaw16_few W _) ?_
  rintro e w1 ⟨b1, rfl, hb1, f1⟩
  refine ⟨_, rfl, ?_⟩
  replace bx1 := bx1.fr f1 id
  replace ff := ff.trans f1
  cases b1
  · clear hb1
    refine WL.op rfl rfl rfl (Go.Proofs.Ytobibplilbchfaa.W.quiet_not rfl rfl) ?_
    refine O.split (fun hb => ?_) (fun hb => by exfalso; revert hb; first | (simp; done) | (simp; omega))
    refine WL.nil ?_
    refine TW.cond rfl (fun _ => ?_) (fun hb => by cases hb)
    refine TW.sreg ?_
    refine WL.call (hr := t_awake _) rfl rfl rfl rfl rfl (fun W => qk_rushlightlaw16_awake W _) ?_
    rintro e w2 ⟨rfl, f2⟩
    refine ⟨_, rfl, ?_⟩
    replace bx1 := bx1.fr f2 id
    replace ff := ff.trans f2
    refine WL.op rfl rfl rfl (Go.Proofs.Ytobibplilbchfaa.W.quiet_assign rfl rfl) ?_
    refine WL.nil ?_
    refine TW.rt ?_
    refine Xw.thn (by simp) ?_
    refine bodyw_ret rfl rfl ?_
    exact ⟨rfl, ff⟩
  · obtain ⟨hR30, hn40, hfi⟩ := hb1 rfl
    have hins : ∀ b ∈ bs, b.ins.length ≤ 1000 ∧ ∀ i ∈ b.ins, i.args.length ≤ 1000 := fun b hb => ⟨by have := (hfi b hb).1; omega, fun i hi => by have := ((hfi b hb).2 i hi).n; omega⟩
    refine WL.op rfl rfl rfl (Go.Proofs.Ytobibplilbchfaa.W.quiet_not rfl rfl) ?_
    refine O.split (fun hb => by exfalso; revert hb; first | (simp; done) | (simp; omega)) (fun hb => ?_)
    refine WL.nil ?_
    refine TW.cond rfl (fun hb => by cases hb) (fun _ => ?_)
    refine TW.skip ?_
    refine TW.sreg ?_
    refine WL.ld rfl rfl rfl rfl rfl (qlB_api_Proc _ _ _ _ _ _ _ _ _ _ _ _ _ bx1) ?_
    refine WL.call (hr := (M.t_live _ _ _ _ _ _ _ _ bs _ (by omega) (by omega) hins _ (hbl.fr ff))) rfl rfl rfl rfl rfl (fun W => qk_flow_Live W _) ?_
    rintro e wL ⟨Si, So, vi, vo, il, ol, rfl, hI, hO, hli, hlo, hvi, hvo, hdI, hdO, fL⟩
    refine ⟨_, rfl, ?_⟩
    replace bx1 := bx1.fr fL id
    replace ff := ff.trans fL
    refine WL.op rfl rfl rfl (Go.Proofs.Ytobibplilbchfaa.W.quiet_move rfl rfl) ?_
    refine O.ext rfl rfl rfl rfl rfl rfl ?_
    refine O.ext rfl rfl rfl rfl rfl rfl ?_
    refine WL.op rfl rfl rfl (Go.Proofs.Ytobibplilbchfaa.W.quiet_assign rfl rfl) ?_
    refine WL.op rfl rfl rfl (Go.Proofs.Ytobibplilbchfaa.W.quiet_assign rfl rfl) ?_
    refine WL.nil ?_
    refine TW.seq ?_
    refine TW.sreg ?_
    refine WL.op rfl rfl rfl (Go.Proofs.Ytobibplilbchfaa.W.quiet_move rfl rfl) ?_
    refine O.len rfl rfl rfl rfl rfl (qn_s_s_bool _ _ _ _) ?_
    refine WL.op rfl rfl rfl (Go.Proofs.Ytobibplilbchfaa.W.quiet_field rfl rfl (fun W => (qa_api_Proc_5 W _ _))) ?_
    refine WL.ld rfl rfl rfl rfl rfl (ql_s_api_Block _ _ _ _ _ (bx1.cell (j := 5) rfl)) ?_
    refine O.len rfl rfl rfl rfl rfl (qn_s_api_Block _ _ _ _) ?_
    refine WL.op rfl rfl rfl (Go.Proofs.Ytobibplilbchfaa.W.quiet_bin rfl rfl rfl (fun W => qb_neq_int W _ _ _ _)) ?_
    refine O.split (fun hb => by exfalso; revert hb; first | (simp; done) | (simp; omega)) (fun hb => ?_)
    refine WL.op rfl rfl rfl (Go.Proofs.Ytobibplilbchfaa.W.quiet_move rfl rfl) ?_
    refine WL.op rfl rfl rfl (Go.Proofs.Ytobibplilbchfaa.W.quiet_move rfl rfl) ?_
    refine O.len rfl rfl rfl rfl rfl (qn_s_s_bool _ _ _ _) ?_
    refine WL.op rfl rfl rfl (Go.Proofs.Ytobibplilbchfaa.W.quiet_field rfl rfl (fun W => (qa_api_Proc_5 W _ _))) ?_
    refine WL.ld rfl rfl rfl rfl rfl (ql_s_api_Block _ _ _ _ _ (bx1.cell (j := 5) rfl)) ?_
    refine O.len rfl rfl rfl rfl rfl (qn_s_api_Block _ _ _ _) ?_
    refine WL.op rfl rfl rfl (Go.Proofs.Ytobibplilbchfaa.W.quiet_bin rfl rfl rfl (fun W => qb_neq_int W _ _ _ _)) ?_
    refine O.split (fun hb => by exfalso; revert hb; first | (simp; done) | (simp; omega)) (fun hb => ?_)
    refine WL.op rfl rfl rfl (Go.Proofs.Ytobibplilbchfaa.W.quiet_pick rfl rfl rfl) ?_
    refine WL.nil ?_
    refine TW.cond rfl (fun hb => by cases hb) (fun _ => ?_)
    refine TW.skip ?_
    refine TW.seq ?_
    refine TW.sreg ?_
    refine WL.op rfl rfl rfl (Go.Proofs.Ytobibplilbchfaa.W.quiet_assign rfl rfl) ?_
    refine WL.nil ?_
    refine TW.block ?_
    refine O.loopG (n := bs.length) (fun a _ => (intOf (a.tmps.getD 5 undef)).toNat) (fun n a W => Kn Try.f5.ntmps [(1, .pointer (some ⟨w.heap.size, 0, none⟩)), (3, .slice (some ⟨Si, 0, none⟩) bs.length bs.length), (4, .slice (some ⟨So, 0, none⟩) bs.length bs.length), (5, .int .i64 (n : Int))] a ∧ Fr (fun _ => False) w W ∧ Bx W w.heap.size #[.string nm, .bool vd, .int .i64 pr, .int .i64 R, .slice oa on oc, .slice ba bs.length bc] 25 ∧ Tbl Si 4 30 bC W Si bs.length vi il ∧ Tbl So 4 30 bC W So bs.length vo ol) (fun n a W h => O.slotv h.1 rfl) 0 (Nat.zero_le _) (fun a k => ⟨(by (repeat (refine Kn.cons k rfl ?_)); exact k.base), ff, bx1, hI, hO⟩) ?_
    rintro n a wl1 hj ⟨k, ff, bx1, hI, hO⟩
    refine TW.app (s := [(1, .pointer (some ⟨w.heap.size, 0, none⟩)), (3, .slice (some ⟨Si, 0, none⟩) bs.length bs.length), (4, .slice (some ⟨So, 0, none⟩) bs.length bs.length), (5, .int .i64 (n : Int))]) ?_ k
    refine TW.seq ?_
    refine TW.sreg ?_
    refine WL.op rfl rfl rfl (Go.Proofs.Ytobibplilbchfaa.W.quiet_move rfl rfl) ?_
    refine WL.op rfl rfl rfl (Go.Proofs.Ytobibplilbchfaa.W.quiet_move rfl rfl) ?_
    refine O.len rfl rfl rfl rfl rfl (qn_s_s_bool _ _ _ _) ?_
    refine WL.op rfl rfl rfl (Go.Proofs.Ytobibplilbchfaa.W.quiet_bin rfl rfl rfl (fun W => qb_lss_int W _ _ _ _)) ?_
    refine O.split (fun hbn => ?_) (fun hbn => ?_)
    · skip
      have hn2 : n < bs.length := by have := of_decide_eq_true hbn; omega
      obtain ⟨gi, ci, hgi⟩ := hvi n hn2
      obtain ⟨go, co, hgo⟩ := hvo n hn2
      have hci := hI.cell hn2
      rw [hgi] at hci
      have hco := hO.cell hn2
      rw [hgo] at hco
      refine WL.nil ?_
      refine TW.cond rfl (fun _ => ?_) (fun hb => by cases hb)
      refine TW.skip ?_
      refine TW.seq ?_
      refine TW.block ?_
      refine TW.seq ?_
      refine Q.sreg (C := fun W => Fr (fun _ => False) wl1 W) (by kernel_rfl) (by kernel_rfl) (fun W h => h.drewN 1) (Fr.refl _ _) ?_
      refine W.op rfl rfl rfl (Go.Proofs.Ytobibplilbchfaa.W.quiet_move rfl rfl) ?_
      refine W.op rfl rfl rfl (Go.Proofs.Ytobibplilbchfaa.W.quiet_move rfl rfl) ?_
      refine W.op rfl rfl rfl (Go.Proofs.Ytobibplilbchfaa.W.quiet_index rfl rfl rfl (fun W => (qi_s_s_bool _ _ _ _ _ _ (by omega)))) ?_
      refine W.op rfl rfl rfl (Go.Proofs.Ytobibplilbchfaa.W.quiet_load rfl rfl (fun W hW => (ql_s_bool _ _ _ _ _ (hW.cell hci id)))) ?_
      refine W.op rfl rfl rfl (Q.len rfl rfl (fun W => (qn_s_bool _ _ _ _))) ?_
      refine W.op rfl rfl rfl (Go.Proofs.Ytobibplilbchfaa.W.quiet_field rfl rfl (fun W => (qa_api_Proc_3 W _ _))) ?_
      refine W.op rfl rfl rfl (Go.Proofs.Ytobibplilbchfaa.W.quiet_load rfl rfl (fun W hW => (ql_int _ _ _ ((bx1.fr hW id).cell (j := 3) rfl)))) ?_
      refine W.op rfl rfl rfl (Q.bmax rfl rfl rfl (fun W => bi_max2 W _ _)) ?_
      refine W.op rfl rfl rfl (Go.Proofs.Ytobibplilbchfaa.W.quiet_bin rfl rfl rfl (fun W => qb_neq_int W _ _ _ _)) ?_
      refine Q.split (fun hb => by rw [show ((R.toNat : Nat) : Int) = max R 0 by omega] at hb; simp at hb) (fun hb => ?_)
      refine W.op rfl rfl rfl (Go.Proofs.Ytobibplilbchfaa.W.quiet_move rfl rfl) ?_
      refine W.op rfl rfl rfl (Go.Proofs.Ytobibplilbchfaa.W.quiet_move rfl rfl) ?_
      refine W.op rfl rfl rfl (Go.Proofs.Ytobibplilbchfaa.W.quiet_move rfl rfl) ?_
      refine W.op rfl rfl rfl (Go.Proofs.Ytobibplilbchfaa.W.quiet_index rfl rfl rfl (fun W => (qi_s_s_bool _ _ _ _ _ _ (by omega)))) ?_
      refine W.op rfl rfl rfl (Go.Proofs.Ytobibplilbchfaa.W.quiet_load rfl rfl (fun W hW => (ql_s_bool _ _ _ _ _ (hW.cell hco id)))) ?_
      refine W.op rfl rfl rfl (Q.len rfl rfl (fun W => (qn_s_bool _ _ _ _))) ?_
      refine W.op rfl rfl rfl (Go.Proofs.Ytobibplilbchfaa.W.quiet_field rfl rfl (fun W => (qa_api_Proc_3 W _ _))) ?_
      refine W.op rfl rfl rfl (Go.Proofs.Ytobibplilbchfaa.W.quiet_load rfl rfl (fun W hW => (ql_int _ _ _ ((bx1.fr hW id).cell (j := 3) rfl)))) ?_
      refine W.op rfl rfl rfl (Q.bmax rfl rfl rfl (fun W => bi_max2 W _ _)) ?_
      refine W.op rfl rfl rfl (Go.Proofs.Ytobibplilbchfaa.W.quiet_bin rfl rfl rfl (fun W => qb_neq_int W _ _ _ _)) ?_
      refine Q.split (fun hb => by rw [show ((R.toNat : Nat) : Int) = max R 0 by omega] at hb; simp at hb) (fun hb => ?_)
      refine W.op rfl rfl rfl (Go.Proofs.Ytobibplilbchfaa.W.quiet_pick rfl rfl rfl) ?_
      refine Q.nil (T.tw fun wq1 fq1 => ?_)
      replace bx1 := bx1.fr fq1 id
      replace hI := hI.fr0 fq1
      replace hO := hO.fr0 fq1
      replace ff := ff.trans fq1
      refine TW.cond rfl (fun hb => by cases hb) (fun _ => ?_)
      refine TW.skip ?_
      refine TW.sreg ?_
      refine WL.op rfl rfl rfl (Go.Proofs.Ytobibplilbchfaa.W.quiet_assign rfl rfl) ?_
      refine WL.nil ?_
      refine TW.block ?_
      refine O.loopG (n := R.toNat) (fun a _ => (intOf (a.tmps.getD 6 undef)).toNat) (fun i a W => Kn Try.f5.ntmps [(1, .pointer (some ⟨w.heap.size, 0, none⟩)), (3, .slice (some ⟨Si, 0, none⟩) bs.length bs.length), (4, .slice (some ⟨So, 0, none⟩) bs.length bs.length), (5, .int .i64 (n : Int)), (6, .int .i64 (i : Int))] a ∧ Fr (fun _ => False) w W ∧ Bx W w.heap.size #[.string nm, .bool vd, .int .i64 pr, .int .i64 R, .slice oa on oc, .slice ba bs.length bc] 25 ∧ Tbl Si 4 30 bC W Si bs.length vi il ∧ Tbl So 4 30 bC W So bs.length vo ol) (fun i a W h => O.slotv h.1 rfl) 0 (Nat.zero_le _) (fun a k => ⟨(by (repeat (refine Kn.cons k rfl ?_)); exact k.base), ff, bx1, hI, hO⟩) ?_
      rintro i a wl2 hj ⟨k, ff, bx1, hI, hO⟩
      refine TW.app (s := [(1, .pointer (some ⟨w.heap.size, 0, none⟩)), (3, .slice (some ⟨Si, 0, none⟩) bs.length bs.length), (4, .slice (some ⟨So, 0, none⟩) bs.length bs.length), (5, .int .i64 (n : Int)), (6, .int .i64 (i : Int))]) ?_ k
      have hci := hI.cell hn2
      rw [hgi] at hci
      refine TW.seq ?_
      refine TW.sreg ?_
      refine WL.op rfl rfl rfl (Go.Proofs.Ytobibplilbchfaa.W.quiet_move rfl rfl) ?_
      refine WL.op rfl rfl rfl (Go.Proofs.Ytobibplilbchfaa.W.quiet_move rfl rfl) ?_
      refine WL.op rfl rfl rfl (Go.Proofs.Ytobibplilbchfaa.W.quiet_move rfl rfl) ?_
      refine O.ixa rfl rfl rfl rfl rfl rfl (qi_s_s_bool _ _ _ _ _ _ (by omega)) ?_
      refine WL.ld rfl rfl rfl rfl rfl (ql_s_bool _ _ _ _ _ hci) ?_
      refine O.len rfl rfl rfl rfl rfl (qn_s_bool _ _ _ _) ?_
      refine WL.op rfl rfl rfl (Go.Proofs.Ytobibplilbchfaa.W.quiet_bin rfl rfl rfl (fun W => qb_lss_int W _ _ _ _)) ?_
      refine O.split (fun hbi => ?_) (fun hbi => ?_)
      · skip
        have hi2 : i < R.toNat := by have := of_decide_eq_true hbi; omega
        clear hci
        obtain ⟨gb, ob, rfl, ⟨ia, ic, c0, cI⟩, c1, c2, c3, c4⟩ := (hbl.fr ff) n hn2
        refine WL.nil ?_
        refine TW.cond rfl (fun _ => ?_) (fun hb => by cases hb)
        refine TW.skip ?_
        refine TW.seq ?_
        refine TW.block ?_
        have b1 := bx1
        have hci := hI.cell hn2
        rw [hgi] at hci
        have hco := hO.cell hn2
        rw [hgo] at hco
        have hrI := hI.hr n hn2
        rw [hgi] at hrI
        have hbi := Bools.cell (k := i) hrI (by rw [hli n hn2]; exact hi2)
        have hrO := hO.hr n hn2
        rw [hgo] at hrO
        have hbo := Bools.cell (k := i) hrO (by rw [hlo n hn2]; exact hi2)
        refine TW.sregH (fun W => Fr (fun _ => False) wl2 W) (by kernel_rfl) ?_
        have fd : Fr (fun _ => False) wl2 wl2.drew := (Fr.refl _ _).drewN 1
        have HW : Fr (fun _ => False) wl2 wl2.drew := (Fr.refl _ _).drewN 1
        replace bx1 := bx1.fr fd id
        replace hI := hI.fr0 fd
        replace hO := hO.fr0 fd
        replace ff := ff.trans fd
        generalize hV : wl2.drew = V1 at *
        clear hV
        refine WH.take 0 rfl (by kernel_rfl) (by kernel_rfl) (by kernel_rfl) (fun _ _ _ _ _ h => h) rfl rfl rfl HW (RH.move rfl rfl) ?_
        refine WH.take 1 rfl (by kernel_rfl) (by kernel_rfl) (by kernel_rfl) (fun _ _ _ _ _ h => h) rfl rfl rfl HW (RH.move rfl rfl) ?_
        refine WH.take 2 rfl (by kernel_rfl) (by kernel_rfl) (by kernel_rfl) (fun _ _ _ _ _ h => h) rfl rfl rfl HW (RH.index rfl rfl rfl (fun W => (qi_s_s_bool _ _ _ _ _ _ (by omega)))) ?_
        refine WH.take 3 rfl (by kernel_rfl) (by kernel_rfl) (by kernel_rfl) (fun _ _ _ _ _ h => h) rfl rfl rfl HW (RH.load rfl rfl (fun W hW => (ql_s_bool _ _ _ _ _ (hW.cell hci id)))) ?_
        refine WH.take 4 rfl (by kernel_rfl) (by kernel_rfl) (by kernel_rfl) (fun _ _ _ _ _ h => h) rfl rfl rfl HW (RH.move rfl rfl) ?_
        refine WH.take 5 rfl (by kernel_rfl) (by kernel_rfl) (by kernel_rfl) (fun _ _ _ _ _ h => h) rfl rfl rfl HW (RH.index rfl rfl rfl (fun W => (qi_s_bool _ _ _ _ _ _ (by omega)))) ?_
        refine WH.take 6 rfl (by kernel_rfl) (by kernel_rfl) (by kernel_rfl) (fun _ _ _ _ _ h => h) rfl rfl rfl HW (RH.load rfl rfl (fun W hW => (ql_bool _ _ _ (hW.cell hbi id)))) ?_
        refine WH.take 7 rfl (by kernel_rfl) (by kernel_rfl) (by kernel_rfl) (fun _ _ _ _ _ h => h) rfl rfl rfl HW (RH.load rfl rfl (fun W hW => qlB_api_Proc _ _ _ _ _ _ _ _ _ _ _ _ _ (b1.fr hW id))) ?_
        refine WH.take 8 rfl (by kernel_rfl) (by kernel_rfl) (by kernel_rfl) (fun _ _ _ _ _ h => h) rfl rfl rfl HW (RH.move rfl rfl) ?_
        refine WH.take 9 rfl (by kernel_rfl) (by kernel_rfl) (by kernel_rfl) (fun _ _ _ _ _ h => h) rfl rfl rfl HW (RH.move rfl rfl) ?_
        refine WH.one 10 (by kernel_rfl) rfl ?_ 
        refine WL.call (hr := (r_live nm vd pr R oa on oc _ bs bc (by omega) hins n hn2 0 0 rfl (Nat.zero_le _) (i : Int) _ (hbl.fr ff))) rfl rfl rfl rfl rfl (fun W => qk_rushlightref16_Live W _) ?_
        rintro e wv1 ⟨x1, rfl, hx1, f1⟩
        refine ⟨_, rfl, ?_⟩
        replace bx1 := bx1.fr f1 id
        replace hI := hI.fr0 f1
        replace hO := hO.fr0 f1
        replace HW := HW.trans' f1 (fun q hq e => e.elim)
        replace ff := ff.trans f1
        obtain rfl : x1 = (il.getD n []).getD i false := Bool.eq_iff_iff.2 ((hx1.trans (li_lv hn2 hi2).symm).trans (hdI n i hn2 hi2).symm)
        refine WL.fin HW ?_
        refine WH.take 11 rfl (by kernel_rfl) (by kernel_rfl) (by kernel_rfl) (fun _ _ _ _ _ h => h) rfl rfl rfl HW (RH.bin rfl rfl rfl (fun W => qb_neq_bool W _ _ _ _)) ?_
        refine WH.split (fun hb => by exfalso; revert hb; first | (simp; done) | (simp; omega)) (fun hb => ?_)
        refine WH.take 12 rfl (by kernel_rfl) (by kernel_rfl) (by kernel_rfl) (fun _ _ _ _ _ h => h) rfl rfl rfl HW (RH.move rfl rfl) ?_
        refine WH.take 13 rfl (by kernel_rfl) (by kernel_rfl) (by kernel_rfl) (fun _ _ _ _ _ h => h) rfl rfl rfl HW (RH.move rfl rfl) ?_
        refine WH.take 14 rfl (by kernel_rfl) (by kernel_rfl) (by kernel_rfl) (fun _ _ _ _ _ h => h) rfl rfl rfl HW (RH.move rfl rfl) ?_
        refine WH.take 15 rfl (by kernel_rfl) (by kernel_rfl) (by kernel_rfl) (fun _ _ _ _ _ h => h) rfl rfl rfl HW (RH.index rfl rfl rfl (fun W => (qi_s_s_bool _ _ _ _ _ _ (by omega)))) ?_
        refine WH.take 16 rfl (by kernel_rfl) (by kernel_rfl) (by kernel_rfl) (fun _ _ _ _ _ h => h) rfl rfl rfl HW (RH.load rfl rfl (fun W hW => (ql_s_bool _ _ _ _ _ (hW.cell hco id)))) ?_
        refine WH.take 17 rfl (by kernel_rfl) (by kernel_rfl) (by kernel_rfl) (fun _ _ _ _ _ h => h) rfl rfl rfl HW (RH.move rfl rfl) ?_
        refine WH.take 18 rfl (by kernel_rfl) (by kernel_rfl) (by kernel_rfl) (fun _ _ _ _ _ h => h) rfl rfl rfl HW (RH.index rfl rfl rfl (fun W => (qi_s_bool _ _ _ _ _ _ (by omega)))) ?_
        refine WH.take 19 rfl (by kernel_rfl) (by kernel_rfl) (by kernel_rfl) (fun _ _ _ _ _ h => h) rfl rfl rfl HW (RH.load rfl rfl (fun W hW => (ql_bool _ _ _ (hW.cell hbo id)))) ?_
        refine WH.take 20 rfl (by kernel_rfl) (by kernel_rfl) (by kernel_rfl) (fun _ _ _ _ _ h => h) rfl rfl rfl HW (RH.load rfl rfl (fun W hW => qlB_api_Proc _ _ _ _ _ _ _ _ _ _ _ _ _ (b1.fr hW id))) ?_
        refine WH.take 21 rfl (by kernel_rfl) (by kernel_rfl) (by kernel_rfl) (fun _ _ _ _ _ h => h) rfl rfl rfl HW (RH.move rfl rfl) ?_
        refine WH.take 22 rfl (by kernel_rfl) (by kernel_rfl) (by kernel_rfl) (fun _ _ _ _ _ h => h) rfl rfl rfl HW (RH.field rfl rfl (fun W => qa_api_Proc_5 W _ _)) ?_
        refine WH.take 23 rfl (by kernel_rfl) (by kernel_rfl) (by kernel_rfl) (fun _ _ _ _ _ h => h) rfl rfl rfl HW (RH.load rfl rfl (fun W hW => (ql_s_api_Block _ _ _ _ _ ((b1.fr hW id).cell (j := 5) rfl)))) ?_
        refine WH.take 24 rfl (by kernel_rfl) (by kernel_rfl) (by kernel_rfl) (fun _ _ _ _ _ h => h) rfl rfl rfl HW (RH.move rfl rfl) ?_
        refine WH.take 25 rfl (by kernel_rfl) (by kernel_rfl) (by kernel_rfl) (fun _ _ _ _ _ h => h) rfl rfl rfl HW (RH.index rfl rfl rfl (fun W => (qi_s_api_Block _ _ _ _ _ _ (by omega)))) ?_
        refine WH.take 26 rfl (by kernel_rfl) (by kernel_rfl) (by kernel_rfl) (fun _ _ _ _ _ h => h) rfl rfl rfl HW (RH.field rfl rfl (fun W => qa_api_Block_0 W _ _)) ?_
        refine WH.take 27 rfl (by kernel_rfl) (by kernel_rfl) (by kernel_rfl) (fun _ _ _ _ _ h => h) rfl rfl rfl HW (RH.load rfl rfl (fun W hW => (ql_s_api_Ins _ _ _ _ _ (hW.cell c0 id)))) ?_
        refine WH.take 28 rfl (by kernel_rfl) (by kernel_rfl) (by kernel_rfl) (fun _ _ _ _ _ h => h) rfl rfl rfl HW (RH.len rfl rfl (fun W => qn_s_api_Ins _ _ _ _)) ?_
        refine WH.take 29 rfl (by kernel_rfl) (by kernel_rfl) (by kernel_rfl) (fun _ _ _ _ _ h => h) rfl rfl rfl HW (RH.move rfl rfl) ?_
        refine WH.one 30 (by kernel_rfl) rfl ?_ 
        refine WL.call (hr := (r_live nm vd pr R oa on oc _ bs bc (by omega) hins n hn2 _ (bs.getD n bk0).ins.length rfl (Nat.le_refl _) (i : Int) _ (hbl.fr ff))) rfl rfl rfl rfl rfl (fun W => qk_rushlightref16_Live W _) ?_
        rintro e wv2 ⟨x2, rfl, hx2, f2⟩
        refine ⟨_, rfl, ?_⟩
        replace bx1 := bx1.fr f2 id
        replace hI := hI.fr0 f2
        replace hO := hO.fr0 f2
        replace HW := HW.trans' f2 (fun q hq e => e.elim)
        replace ff := ff.trans f2
        obtain rfl : x2 = (ol.getD n []).getD i false := Bool.eq_iff_iff.2 ((hx2.trans (lo_lv hn2 hi2).symm).trans (hdO n i hn2 hi2).symm)
        refine WL.fin HW ?_
        refine WH.take 31 rfl (by kernel_rfl) (by kernel_rfl) (by kernel_rfl) (fun _ _ _ _ _ h => h) rfl rfl rfl HW (RH.bin rfl rfl rfl (fun W => qb_neq_bool W _ _ _ _)) ?_
        refine WH.split (fun hb => by exfalso; revert hb; first | (simp; done) | (simp; omega)) (fun hb => ?_)
        refine WH.take 32 rfl (by kernel_rfl) (by kernel_rfl) (by kernel_rfl) (fun _ _ _ _ _ h => h) rfl rfl rfl HW (RH.pick rfl rfl rfl) ?_
        refine WH.done (by kernel_rfl) ?_
        refine TW.cond rfl (fun hb => by cases hb) (fun _ => ?_)
        refine TW.skipx ?_
        refine Xw.nblk ?_
        refine Xw.nrm ?_
        refine TW.reg ?_
        refine WL.op rfl rfl rfl (Go.Proofs.Ytobibplilbchfaa.W.quiet_move rfl rfl) ?_
        refine WL.op rfl rfl rfl (Go.Proofs.Ytobibplilbchfaa.W.quiet_bin rfl rfl rfl (fun W => qb_add_int W _ _ _ _ (by omega) (by omega))) ?_
        refine WL.op rfl rfl rfl (Go.Proofs.Ytobibplilbchfaa.W.quiet_assign rfl rfl) ?_
        refine WL.end ?_
        refine Xw.any (fun a k => ?_)
        exact ⟨i + 1, by omega, by omega, (by (repeat (refine Kn.cons k rfl ?_)); exact k.base), ff, bx1, hI, hO⟩
      · skip
        refine WL.nil ?_
        refine TW.cond rfl (fun hb => by cases hb) (fun _ => ?_)
        refine TW.exit ?_
        refine Xw.thn (by simp) ?_
        refine Xw.thn (by simp) ?_
        refine Xw.hit ?_
        refine Xw.nblk ?_
        refine Xw.nrm ?_
        refine TW.reg ?_
        refine WL.op rfl rfl rfl (Go.Proofs.Ytobibplilbchfaa.W.quiet_move rfl rfl) ?_
        refine WL.op rfl rfl rfl (Go.Proofs.Ytobibplilbchfaa.W.quiet_bin rfl rfl rfl (fun W => qb_add_int W _ _ _ _ (by omega) (by omega))) ?_
        refine WL.op rfl rfl rfl (Go.Proofs.Ytobibplilbchfaa.W.quiet_assign rfl rfl) ?_
        refine WL.end ?_
        refine Xw.any (fun a k => ?_)
        exact ⟨n + 1, by omega, by omega, (by (repeat (refine Kn.cons k rfl ?_)); exact k.base), ff, bx1, hI, hO⟩
    · skip
      refine WL.nil ?_
      refine TW.cond rfl (fun hb => by cases hb) (fun _ => ?_)
      refine TW.exit ?_
      refine Xw.thn (by simp) ?_
      refine Xw.thn (by simp) ?_
      refine Xw.hit ?_
      refine Xw.nrm ?_
      refine TW.sreg ?_
      refine WL.call (hr := t_awake _) rfl rfl rfl rfl rfl (fun W => qk_rushlightlaw16_awake W _) ?_
      rintro e wz ⟨rfl, fz⟩
      refine ⟨_, rfl, ?_⟩
      replace bx1 := bx1.fr fz id
      replace hI := hI.fr0 fz
      replace hO := hO.fr0 fz
      replace ff := ff.trans fz
      refine WL.op rfl rfl rfl (Go.Proofs.Ytobibplilbchfaa.W.quiet_assign rfl rfl) ?_
      refine WL.nil ?_
      refine TW.rt ?_
      refine bodyw_ret rfl rfl ?_
      exact ⟨rfl, ff⟩
end Go.Proofs.Ytobibplilbchfaa
