/-
  Flow (layer 16): which blocks lead where, by the document.
-/
import Derived.Test.YtobibplilbchfaaFlJ
namespace Go.Proofs.Ytobibplilbchfaa
open Go.RowKit
set_option linter.unusedVariables false
set_option linter.unusedSimpArgs false
set_option linter.unnecessarySimpa false
theorem qlB_api_Proc (w : World) (g : Nat) (up0 : ByteArray) (up1 : Bool) (um2 : Int) (um3 : Int) (up4 : Option Addr) (uk4 ul4 : Nat) (up5 : Option Addr) (uk5 ul5 : Nat) (tt : TypeId) (h : Bx w g #[.string up0, .bool up1, .int .i64 um2, .int .i64 um3, .slice up4 uk4 ul4, .slice up5 uk5 ul5] tt) : (Instr.loadAt 25 (.pointer (some ⟨g, 0, none⟩))).run Try.prog w = .ok (.agg #[.string up0, .bool up1, .int .i64 um2, .int .i64 um3, .slice up4 uk4 ul4, .slice up5 uk5 ul5]) w := by
  have c0 := h.cell (j := 0) rfl
  have c1 := h.cell (j := 1) rfl
  have c2 := h.cell (j := 2) rfl
  have c3 := h.cell (j := 3) rfl
  have c4 := h.cell (j := 4) rfl
  have c5 := h.cell (j := 5) rfl
  simp [go_sem, c0, c1, c2, c3, c4, c5]
theorem qk_rushlightref16_Outs (w : World) (vs : Array Value) : (callFunc 17 vs).run Try.prog w = .ok (.enter 17 vs) w := by simp [go_sem]
theorem qk_rushlightref16_leads (w : World) (vs : Array Value) : (callFunc 23 vs).run Try.prog w = .ok (.enter 23 vs) w := by simp [go_sem]
/-- Which blocks lead to one. -/
def predsN (bs : List Bk) (n : Int) (j : Nat) : List Int := ((List.range j).filter fun i => (outsF bs i).contains n).map fun (i : Nat) => (i : Int)
theorem preds_succ (bs : List Bk) (n : Int) (j : Nat) : predsN bs n (j + 1) = predsN bs n j ++ (if (outsF bs j).contains n = true then [(j : Int)] else []) := by
  unfold predsN
  rw [List.range_succ, List.filter_append, List.map_append]
  congr 1
  by_cases q : (outsF bs j).contains n = true
  · rw [if_pos q, List.filter_cons_of_pos (by exact q)]; rfl
  · rw [if_neg q, List.filter_cons_of_neg (by exact q)]; rfl
theorem preds_len (bs : List Bk) (n : Int) (j : Nat) : (predsN bs n j).length ≤ j := by
  unfold predsN
  rw [List.length_map]
  exact Nat.le_trans (List.length_filter_le _ _) (by simp)
theorem contains_yes {l : List Int} {x : Int} {k : Nat} (h : k < l.length) (e : l.getD k 0 = x) : l.contains x = true := by
  rw [List.contains_iff_mem, ← e, List.getD_eq_getElem?_getD, List.getElem?_eq_getElem h]
  exact List.getElem_mem h
theorem contains_no {l : List Int} {x : Int} (h : ∀ k, k < l.length → l.getD k 0 ≠ x) : l.contains x = false := by
  cases q : l.contains x with
  | false => rfl
  | true =>
    rw [List.contains_iff_mem] at q
    obtain ⟨k, hk, e⟩ := List.getElem_of_mem q
    exact absurd (by rw [List.getD_eq_getElem?_getD, List.getElem?_eq_getElem hk]; exact e) (h k hk)
set_option maxRecDepth 100000 in
theorem r_leads (nm : ByteArray) (vd : Bool) (pr R : Int) (oa : Option Addr) (on oc : Nat) (ba : Option Addr) (bs : List Bk) (bc : Nat) (n : Nat) (hn : n < bs.length) (x : Int) (w : World) (hbl : BkL w ba bs) : Calls Try.prog 23 #[.agg #[.string nm, .bool vd, .int .i64 pr, .int .i64 R, .slice oa on oc, .slice ba bs.length bc], .int .i64 (n : Int), .int .i64 x] w fun e w' => e = .returned (.bool ((outsF bs n).contains x)) ∧ Fr (fun _ => False) w w' := by
  have ff := Fr.refl (fun _ => False) w
  refine calls_tw Try.func23 rfl rfl (Nat.le_of_ble_eq_true rfl) ?_
  refine TW.sreg ?_
  have lw1 := ff.size
  refine O.boxR rfl rfl rfl rfl rfl (qxR_api_Proc w _ _ _ _ _ _ _ _ _ _) ?_
  rintro wa1 ⟨fa1, bx1⟩
  replace ff := ff.trans fa1
  refine WL.op rfl rfl rfl (Go.Proofs.Ytobibplilbchfaa.W.quiet_assign rfl rfl) ?_
  refine WL.nil ?_
  refine TW.sreg ?_
  refine WL.ld rfl rfl rfl rfl rfl (qlB_api_Proc _ _ _ _ _ _ _ _ _ _ _ _ _ bx1) ?_
  refine WL.op rfl rfl rfl (Go.Proofs.Ytobibplilbchfaa.W.quiet_move rfl rfl) ?_
  refine WL.call (hr := r_outs nm vd pr R oa on oc ba bs bc n hn _ (hbl.fr ff)) rfl rfl rfl rfl rfl (fun W => qk_rushlightref16_Outs W _) ?_
  rintro e w1 ⟨v0, rfl, hI0, f1⟩
  refine ⟨_, rfl, ?_⟩
  replace bx1 := bx1.fr f1 id
  replace ff := ff.trans f1
  have ho2 := outsF_len bs n
  obtain ⟨oa2, oc2, rfl, hO⟩ := hI0.at
  refine WL.op rfl rfl rfl (Go.Proofs.Ytobibplilbchfaa.W.quiet_assign rfl rfl) ?_
  refine WL.nil ?_
  refine TW.seq ?_
  refine TW.sreg ?_
  refine WL.op rfl rfl rfl (Go.Proofs.Ytobibplilbchfaa.W.quiet_assign rfl rfl) ?_
  refine WL.nil ?_
  refine TW.block ?_
  refine O.loopG (n := (outsF bs n).length) (fun a _ => (intOf (a.tmps.getD 8 undef)).toNat) (fun j a W => Kn Try.f23.ntmps [(2, .int .i64 x), (7, .slice oa2 (outsF bs n).length oc2), (8, .int .i64 (j : Int))] a ∧ Fr (fun _ => False) w W ∧ IntsAt W oa2 (outsF bs n) ∧ ∀ k, k < j → (outsF bs n).getD k 0 ≠ x) (fun j a W h => O.slotv h.1 rfl) 0 (Nat.zero_le _) (fun a k => ⟨(by (repeat (refine Kn.cons k rfl ?_)); exact k.base), ff, hO, fun k hk => absurd hk (by omega)⟩) ?_
  rintro j a wl hj ⟨k, ff, hO, hle⟩
  refine TW.app (s := [(2, .int .i64 x), (7, .slice oa2 (outsF bs n).length oc2), (8, .int .i64 (j : Int))]) ?_ k
  refine TW.seq ?_
  refine TW.sreg ?_
  refine WL.op rfl rfl rfl (Go.Proofs.Ytobibplilbchfaa.W.quiet_move rfl rfl) ?_
  refine WL.op rfl rfl rfl (Go.Proofs.Ytobibplilbchfaa.W.quiet_move rfl rfl) ?_
  refine O.len rfl rfl rfl rfl rfl (qn_s_int _ _ _ _) ?_
  refine WL.op rfl rfl rfl (Go.Proofs.Ytobibplilbchfaa.W.quiet_bin rfl rfl rfl (fun W => qb_lss_int W _ _ _ _)) ?_
  refine O.split (fun hbj => ?_) (fun hbj => ?_)
  · skip
    have hj2 : j < (outsF bs n).length := by have := of_decide_eq_true hbj; omega
    obtain ⟨g, o, rfl, hc⟩ := hO j hj2
    refine WL.nil ?_
    refine TW.cond rfl (fun _ => ?_) (fun hb => by cases hb)
    refine TW.skip ?_
    refine TW.seq ?_
    refine TW.block ?_
    refine TW.sreg ?_
    refine WL.op rfl rfl rfl (Go.Proofs.Ytobibplilbchfaa.W.quiet_move rfl rfl) ?_
    refine WL.op rfl rfl rfl (Go.Proofs.Ytobibplilbchfaa.W.quiet_move rfl rfl) ?_
    refine O.ixa rfl rfl rfl rfl rfl rfl (qi_s_int _ _ _ _ _ _ (by omega)) ?_
    refine WL.ld rfl rfl rfl rfl rfl (ql_int _ _ _ hc) ?_
    refine WL.op rfl rfl rfl (Go.Proofs.Ytobibplilbchfaa.W.quiet_move rfl rfl) ?_
    refine WL.op rfl rfl rfl (Go.Proofs.Ytobibplilbchfaa.W.quiet_bin rfl rfl rfl (fun W => qb_eql_int W _ _ _ _)) ?_
    refine O.split (fun h1 => ?_) (fun h1 => ?_)
    · skip
      refine WL.nil ?_
      refine TW.cond rfl (fun _ => ?_) (fun hb => by cases hb)
      refine TW.sreg ?_
      refine WL.op rfl rfl rfl (Go.Proofs.Ytobibplilbchfaa.W.quiet_assign rfl rfl) ?_
      refine WL.nil ?_
      refine TW.rt ?_
      refine Xw.rblk ?_
      refine Xw.thn (by simp) ?_
      refine Xw.thn (by simp) ?_
      refine Xw.rblk ?_
      refine Xw.thn (by simp) ?_
      refine bodyw_ret rfl rfl ?_
      exact ⟨by rw [contains_yes hj2 (by simpa using h1)], ff⟩
    · skip
      refine WL.nil ?_
      refine TW.cond rfl (fun hb => by cases hb) (fun _ => ?_)
      refine TW.skipx ?_
      refine Xw.nblk ?_
      refine Xw.nrm ?_
      refine TW.reg ?_
      refine WL.op rfl rfl rfl (Go.Proofs.Ytobibplilbchfaa.W.quiet_move rfl rfl) ?_
      refine WL.op rfl rfl rfl (Go.Proofs.Ytobibplilbchfaa.W.quiet_bin rfl rfl rfl (fun W => qb_add_int W _ _ _ _ (by omega) (by omega))) ?_
      refine WL.op rfl rfl rfl (Go.Proofs.Ytobibplilbchfaa.W.quiet_assign rfl rfl) ?_
      refine WL.end ?_
      refine Xw.any (fun a k => ?_)
      refine ⟨j + 1, by omega, by omega, (by (repeat (refine Kn.cons k rfl ?_)); exact k.base), ff, hO, fun q hq => ?_⟩
      by_cases e : q = j
      · subst e; simpa using h1
      · exact hle q (by omega)
  · skip
    refine WL.nil ?_
    refine TW.cond rfl (fun hb => by cases hb) (fun _ => ?_)
    refine TW.exit ?_
    refine Xw.thn (by simp) ?_
    refine Xw.thn (by simp) ?_
    refine Xw.hit ?_
    refine Xw.nrm ?_
    refine TW.sreg ?_
    refine WL.op rfl rfl rfl (Go.Proofs.Ytobibplilbchfaa.W.quiet_assign rfl rfl) ?_
    refine WL.nil ?_
    refine TW.rt ?_
    refine bodyw_ret rfl rfl ?_
    have hje : j = (outsF bs n).length := by have := of_decide_eq_false hbj; omega
    subst hje
    exact ⟨by rw [contains_no hle], ff⟩
set_option maxRecDepth 100000 in
theorem r_preds (nm : ByteArray) (vd : Bool) (pr R : Int) (oa : Option Addr) (on oc : Nat) (ba : Option Addr) (bs : List Bk) (bc : Nat) (hnb : bs.length ≤ 1000) (x : Int) (w : World) (hbl : BkL w ba bs) : Calls Try.prog 16 #[.agg #[.string nm, .bool vd, .int .i64 pr, .int .i64 R, .slice oa on oc, .slice ba bs.length bc], .int .i64 x] w fun e w' => ∃ v, e = .returned v ∧ Ints w.heap.size w' v (predsN bs x bs.length) ∧ Fr (fun _ => False) w w' := by
  have ff := Fr.refl (fun _ => False) w
  refine calls_tw Try.func16 rfl rfl (Nat.le_of_ble_eq_true rfl) ?_
  refine TW.sreg ?_
  have lw1 := ff.size
  refine O.boxR rfl rfl rfl rfl rfl (qxR_api_Proc w _ _ _ _ _ _ _ _ _ _) ?_
  rintro wa1 ⟨fa1, bx1⟩
  replace ff := ff.trans fa1
  refine WL.op rfl rfl rfl (Go.Proofs.Ytobibplilbchfaa.W.quiet_assign rfl rfl) ?_
  refine WL.nil ?_
  refine TW.sreg ?_
  refine WL.op rfl rfl rfl (Go.Proofs.Ytobibplilbchfaa.W.quiet_assign rfl rfl) ?_
  refine WL.nil ?_
  refine TW.seq ?_
  refine TW.sreg ?_
  refine WL.op rfl rfl rfl (Go.Proofs.Ytobibplilbchfaa.W.quiet_assign rfl rfl) ?_
  refine WL.nil ?_
  refine TW.block ?_
  refine O.loopG (n := bs.length) (fun a _ => (intOf (a.tmps.getD 6 undef)).toNat) (fun j a W => ∃ (v : Value), Kn Try.f16.ntmps [(1, .int .i64 x), (2, .pointer (some ⟨w.heap.size, 0, none⟩)), (5, v), (6, .int .i64 (j : Int))] a ∧ Fr (fun _ => False) w W ∧ Bx W w.heap.size #[.string nm, .bool vd, .int .i64 pr, .int .i64 R, .slice oa on oc, .slice ba bs.length bc] 25 ∧ w.heap.size < W.heap.size ∧ Ints (w.heap.size + 1) W v (predsN bs x j)) (fun j a W h => by obtain ⟨_, h⟩ := h; exact O.slotv h.1 rfl) 0 (Nat.zero_le _) (fun a k => ⟨_, (by (repeat (refine Kn.cons k rfl ?_)); exact k.base), ff, bx1, bx1.lt, Row.nil _ _ _ _ _⟩) ?_
  rintro j a wl hj ⟨v, k, ff, bx1, hz, hV⟩
  refine TW.app (s := [(1, .int .i64 x), (2, .pointer (some ⟨w.heap.size, 0, none⟩)), (5, v), (6, .int .i64 (j : Int))]) ?_ k
  refine TW.seq ?_
  refine TW.sreg ?_
  refine WL.op rfl rfl rfl (Go.Proofs.Ytobibplilbchfaa.W.quiet_move rfl rfl) ?_
  refine WL.op rfl rfl rfl (Go.Proofs.Ytobibplilbchfaa.W.quiet_field rfl rfl (fun W => (qa_api_Proc_5 W _ _))) ?_
  refine WL.ld rfl rfl rfl rfl rfl (ql_s_api_Block _ _ _ _ _ (bx1.cell (j := 5) rfl)) ?_
  refine O.len rfl rfl rfl rfl rfl (qn_s_api_Block _ _ _ _) ?_
  refine WL.op rfl rfl rfl (Go.Proofs.Ytobibplilbchfaa.W.quiet_bin rfl rfl rfl (fun W => qb_lss_int W _ _ _ _)) ?_
  refine O.split (fun hbj => ?_) (fun hbj => ?_)
  · skip
    have hj2 : j < bs.length := by have := of_decide_eq_true hbj; omega
    have hpl := preds_len bs x j
    refine WL.nil ?_
    refine TW.cond rfl (fun _ => ?_) (fun hb => by cases hb)
    refine TW.skip ?_
    refine TW.seq ?_
    refine TW.block ?_
    refine TW.sreg ?_
    refine WL.ld rfl rfl rfl rfl rfl (qlB_api_Proc _ _ _ _ _ _ _ _ _ _ _ _ _ bx1) ?_
    refine WL.op rfl rfl rfl (Go.Proofs.Ytobibplilbchfaa.W.quiet_move rfl rfl) ?_
    refine WL.op rfl rfl rfl (Go.Proofs.Ytobibplilbchfaa.W.quiet_move rfl rfl) ?_
    refine WL.call (hr := r_leads nm vd pr R oa on oc ba bs bc j hj2 x _ (hbl.fr ff)) rfl rfl rfl rfl rfl (fun W => qk_rushlightref16_leads W _) ?_
    rintro e w1 ⟨rfl, f1⟩
    refine ⟨_, rfl, ?_⟩
    replace bx1 := bx1.fr f1 id
    replace hV := hV.fr f1 (fun _ _ => id)
    replace hz := Nat.lt_of_lt_of_le hz f1.size
    replace ff := ff.trans f1
    refine O.split (fun h1 => ?_) (fun h1 => ?_)
    · skip
      refine WL.nil ?_
      refine TW.cond rfl (fun _ => ?_) (fun hb => by cases hb)
      refine TW.reg ?_
      refine WL.op rfl rfl rfl (Go.Proofs.Ytobibplilbchfaa.W.quiet_move rfl rfl) ?_
      refine WL.op rfl rfl rfl (Go.Proofs.Ytobibplilbchfaa.W.quiet_move rfl rfl) ?_
      refine O.bsl rfl rfl rfl rfl rfl (qv_s_int_1 _ _) ?_
      refine WL.append rfl rfl rfl rfl rfl rfl (Ints.app (j : Int) _ hV (by omega) (by omega)) ?_
      rintro v2 wB ⟨hV2, hF2, _⟩
      replace bx1 := bx1.fr hF2 (fun e => by have := (Row.lt hV _ e).1; omega)
      replace ff := ff.trans' hF2 (fun q hq e => by have := (Row.lt hV q e).1; omega)
      replace hz := Nat.lt_of_lt_of_le hz hF2.size
      -- world wB
      refine WL.op rfl rfl rfl (Go.Proofs.Ytobibplilbchfaa.W.quiet_assign rfl rfl) ?_
      refine WL.end ?_
      refine Xw.nblk ?_
      refine Xw.nrm ?_
      refine TW.reg ?_
      refine WL.op rfl rfl rfl (Go.Proofs.Ytobibplilbchfaa.W.quiet_move rfl rfl) ?_
      refine WL.op rfl rfl rfl (Go.Proofs.Ytobibplilbchfaa.W.quiet_bin rfl rfl rfl (fun W => qb_add_int W _ _ _ _ (by omega) (by omega))) ?_
      refine WL.op rfl rfl rfl (Go.Proofs.Ytobibplilbchfaa.W.quiet_assign rfl rfl) ?_
      refine WL.end ?_
      refine Xw.any (fun a k => ?_)
      refine ⟨j + 1, by omega, by omega, v2, (by (repeat (refine Kn.cons k rfl ?_)); exact k.base), ff, bx1, hz, ?_⟩
      rw [preds_succ, if_pos h1]
      exact hV2
    · skip
      refine WL.nil ?_
      refine TW.cond rfl (fun hb => by cases hb) (fun _ => ?_)
      refine TW.skipx ?_
      refine Xw.nblk ?_
      refine Xw.nrm ?_
      refine TW.reg ?_
      refine WL.op rfl rfl rfl (Go.Proofs.Ytobibplilbchfaa.W.quiet_move rfl rfl) ?_
      refine WL.op rfl rfl rfl (Go.Proofs.Ytobibplilbchfaa.W.quiet_bin rfl rfl rfl (fun W => qb_add_int W _ _ _ _ (by omega) (by omega))) ?_
      refine WL.op rfl rfl rfl (Go.Proofs.Ytobibplilbchfaa.W.quiet_assign rfl rfl) ?_
      refine WL.end ?_
      refine Xw.any (fun a k => ?_)
      refine ⟨j + 1, by omega, by omega, v, (by (repeat (refine Kn.cons k rfl ?_)); exact k.base), ff, bx1, hz, ?_⟩
      rw [preds_succ, if_neg (by rw [h1]; decide), List.append_nil]
      exact hV
  · skip
    refine WL.nil ?_
    refine TW.cond rfl (fun hb => by cases hb) (fun _ => ?_)
    refine TW.exit ?_
    refine Xw.thn (by simp) ?_
    refine Xw.thn (by simp) ?_
    refine Xw.hit ?_
    refine Xw.nrm ?_
    refine TW.sreg ?_
    refine WL.op rfl rfl rfl (Go.Proofs.Ytobibplilbchfaa.W.quiet_move rfl rfl) ?_
    refine WL.op rfl rfl rfl (Go.Proofs.Ytobibplilbchfaa.W.quiet_assign rfl rfl) ?_
    refine WL.nil ?_
    refine TW.rt ?_
    refine bodyw_ret rfl rfl ?_
    have hje : j = bs.length := by have := of_decide_eq_false hbj; omega
    subst hje
    exact ⟨_, rfl, Row.base hV (fun k hk => by have := (Row.lt hV k hk).1; omega), ff⟩
end Go.Proofs.Ytobibplilbchfaa
