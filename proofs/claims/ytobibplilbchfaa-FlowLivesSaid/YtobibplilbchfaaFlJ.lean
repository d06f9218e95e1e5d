/-
  Flow (layer 16): where a block leads, by the document.
-/
import Derived.Test.YtobibplilbchfaaFlC
namespace Go.Proofs.Ytobibplilbchfaa
open Go.RowKit
set_option linter.unusedVariables false
set_option linter.unusedSimpArgs false
set_option linter.unnecessarySimpa false
theorem qb_neq_int (w : World) (x y : Operand) (m n : Int) : ((do eqGuard .neq 3 x y (.int .i64 m) (.int .i64 n); binOp .neq 3 (.int .i64 m) (.int .i64 n) : Sem Value)).run Try.prog w = .ok (.bool (m != n)) w := by simp [go_sem]
theorem qk_rushlightref13_Outs (w : World) (vs : Array Value) : (callFunc 26 vs).run Try.prog w = .ok (.enter 26 vs) w := by simp [go_sem]
/-- Numbers in memory, in a block below a bound. -/
def IntsB (Z : Nat) (w : World) (a : Option Addr) (l : List Int) : Prop := ∀ k, k < l.length → ∃ g o, a = some ⟨g, o, none⟩ ∧ g < Z ∧ w.cell? ⟨g, o + k, none⟩ = some (.int .i64 (l.getD k 0))
theorem IntsB.fr {Z : Nat} {w w' : World} {a : Option Addr} {l : List Int} {F : Nat → Prop} (h : IntsB Z w a l) (f : Fr F w w') (hn : ∀ q, q < Z → ¬F q) : IntsB Z w' a l := fun k hk => by
  obtain ⟨g, o, e, hz, hc⟩ := h k hk
  exact ⟨g, o, e, hz, f.cell hc (hn g hz)⟩
theorem IntsB.at {Z : Nat} {w : World} {a : Option Addr} {l : List Int} (h : IntsB Z w a l) : IntsAt w a l := fun k hk => by
  obtain ⟨g, o, e, _, hc⟩ := h k hk
  exact ⟨g, o, e, hc⟩
theorem IntsAt.b {w : World} {a : Option Addr} {l : List Int} (h : IntsAt w a l) : IntsB w.heap.size w a l := fun k hk => by
  obtain ⟨g, o, e, hc⟩ := h k hk
  exact ⟨g, o, e, World.block_lt_of_cell? _ _ hc, hc⟩
theorem filt_succ (p : Int → Bool) (l : List Int) (j : Nat) (hj : j < l.length) : (l.take (j + 1)).filter p = (l.take j).filter p ++ (if p (l.getD j 0) = true then [l.getD j 0] else []) := by
  have e : l.getD j 0 = l[j] := by rw [List.getD_eq_getElem?_getD, List.getElem?_eq_getElem hj]; rfl
  rw [List.take_add_one, List.filter_append, List.getElem?_eq_getElem hj, e]
  congr 1
  show List.filter p [l[j]] = _
  by_cases q : p l[j] = true
  · rw [if_pos q, List.filter_cons_of_pos q]; rfl
  · rw [if_neg q, List.filter_cons_of_neg q]; rfl
theorem Ints.app1 {B : Nat} {W : World} (x : Int) (ty : TypeId) (hB : B ≤ W.heap.size) : ∃ v' w', (Builtin.append_ #[34, 34] ty #[.slice none 0 0, .slice (some ⟨W.heap.size, 0, none⟩) 1 1]).run Try.prog (W.alloc (.cells #[.int .i64 x] 3)) = .ok v' w' ∧ (Ints B w' v' [x] ∧ Fr (fun _ => False) W w') := by
  obtain ⟨v', w', h1, h2, h3, _⟩ := Ints.app x ty (Row.nil B W 3 1 iC) hB (by simp)
  exact ⟨v', w', h1, h2, h3.mono (fun q _ e => by cases e)⟩
set_option maxRecDepth 100000 in
theorem r_outs13 (b : Bk) (ia : Option Addr) (ic : Nat) (w : World) : Calls Try.prog 26 #[.agg #[.slice ia b.ins.length ic, .int .i64 b.en, .int .i64 b.a, .int .i64 b.t, .int .i64 b.el]] w (OutsP b w) := by
  have ff := Fr.refl (fun _ => False) w
  refine calls_tw Try.func26 rfl rfl (Nat.le_of_ble_eq_true rfl) ?_
  refine TW.sreg ?_
  have lw1 := ff.size
  refine O.boxR rfl rfl rfl rfl rfl (qxR_api_Block w _ _ _ _ _ _ _) ?_
  rintro wa1 ⟨fa1, bx1⟩
  replace ff := ff.trans fa1
  refine WL.op rfl rfl rfl (Go.Proofs.Ytobibplilbchfaa.W.quiet_assign rfl rfl) ?_
  refine WL.nil ?_
  refine TW.sreg ?_
  refine WL.op rfl rfl rfl (Go.Proofs.Ytobibplilbchfaa.W.quiet_assign rfl rfl) ?_
  refine WL.nil ?_
  refine TW.seq ?_
  refine TW.sreg ?_
  refine WL.op rfl rfl rfl (Go.Proofs.Ytobibplilbchfaa.W.quiet_field rfl rfl (fun W => (qa_api_Block_1 W _ _))) ?_
  refine WL.ld rfl rfl rfl rfl rfl (ql_int _ _ _ (bx1.cell (j := 1) rfl)) ?_
  refine WL.op rfl rfl rfl (Go.Proofs.Ytobibplilbchfaa.W.quiet_bin rfl rfl rfl (fun W => qb_eql_int W _ _ _ _)) ?_
  refine O.split (fun h1 => ?_) (fun h1 => ?_)
  · skip
    have g1 : b.en = 1 := by simpa using h1
    refine WL.op rfl rfl rfl (Go.Proofs.Ytobibplilbchfaa.W.quiet_move rfl rfl) ?_
    refine WL.skip rfl rfl rfl ?_
    refine WL.skip rfl rfl rfl ?_
    refine WL.skip rfl rfl rfl ?_
    refine WL.op rfl rfl rfl (Go.Proofs.Ytobibplilbchfaa.W.quiet_pick rfl rfl rfl) ?_
    refine WL.nil ?_
    refine TW.cond rfl (fun _ => ?_) (fun hb => by cases hb)
    refine TW.reg ?_
    refine WL.op rfl rfl rfl (Go.Proofs.Ytobibplilbchfaa.W.quiet_move rfl rfl) ?_
    refine WL.op rfl rfl rfl (Go.Proofs.Ytobibplilbchfaa.W.quiet_field rfl rfl (fun W => (qa_api_Block_3 W _ _))) ?_
    refine WL.ld rfl rfl rfl rfl rfl (ql_int _ _ _ (bx1.cell (j := 3) rfl)) ?_
    refine O.bsl rfl rfl rfl rfl rfl (qv_s_int_1 _ _) ?_
    refine WL.append rfl rfl rfl rfl rfl rfl (Ints.app1 (B := w.heap.size) b.t _ (by have := ff.size; omega)) ?_
    rintro v1 wA ⟨hI, hF⟩
    replace bx1 := bx1.fr hF id
    replace ff := ff.trans hF
    -- world wA
    refine WL.op rfl rfl rfl (Go.Proofs.Ytobibplilbchfaa.W.quiet_assign rfl rfl) ?_
    refine WL.nil ?_
    refine TW.seq ?_
    refine TW.sreg ?_
    refine WL.op rfl rfl rfl (Go.Proofs.Ytobibplilbchfaa.W.quiet_field rfl rfl (fun W => (qa_api_Block_1 W _ _))) ?_
    refine WL.ld rfl rfl rfl rfl rfl (ql_int _ _ _ (bx1.cell (j := 1) rfl)) ?_
    refine WL.op rfl rfl rfl (Go.Proofs.Ytobibplilbchfaa.W.quiet_bin rfl rfl rfl (fun W => qb_eql_int W _ _ _ _)) ?_
    refine O.split (fun hb => by rw [g1] at hb; exact absurd hb (by decide)) (fun hb => ?_)
    refine WL.op rfl rfl rfl (Go.Proofs.Ytobibplilbchfaa.W.quiet_move rfl rfl) ?_
    refine WL.skip rfl rfl rfl ?_
    refine WL.skip rfl rfl rfl ?_
    refine WL.skip rfl rfl rfl ?_
    refine WL.skip rfl rfl rfl ?_
    refine WL.skip rfl rfl rfl ?_
    refine WL.op rfl rfl rfl (Go.Proofs.Ytobibplilbchfaa.W.quiet_pick rfl rfl rfl) ?_
    refine WL.nil ?_
    refine TW.cond rfl (fun hb => by cases hb) (fun _ => ?_)
    refine TW.skip ?_
    refine TW.sreg ?_
    refine WL.op rfl rfl rfl (Go.Proofs.Ytobibplilbchfaa.W.quiet_move rfl rfl) ?_
    refine WL.op rfl rfl rfl (Go.Proofs.Ytobibplilbchfaa.W.quiet_assign rfl rfl) ?_
    refine WL.nil ?_
    refine TW.rt ?_
    refine bodyw_ret rfl rfl ?_
    exact ⟨_, rfl, by rw [out_1 g1]; exact hI, ff⟩
  · skip
    have g1 : b.en ≠ 1 := by simpa using h1
    refine WL.op rfl rfl rfl (Go.Proofs.Ytobibplilbchfaa.W.quiet_move rfl rfl) ?_
    refine WL.op rfl rfl rfl (Go.Proofs.Ytobibplilbchfaa.W.quiet_field rfl rfl (fun W => (qa_api_Block_1 W _ _))) ?_
    refine WL.ld rfl rfl rfl rfl rfl (ql_int _ _ _ (bx1.cell (j := 1) rfl)) ?_
    refine WL.op rfl rfl rfl (Go.Proofs.Ytobibplilbchfaa.W.quiet_bin rfl rfl rfl (fun W => qb_eql_int W _ _ _ _)) ?_
    refine O.split (fun h2 => ?_) (fun h2 => ?_)
    · skip
      have g2 : b.en = 2 := by simpa using h2
      refine WL.op rfl rfl rfl (Go.Proofs.Ytobibplilbchfaa.W.quiet_pick rfl rfl rfl) ?_
      refine WL.nil ?_
      refine TW.cond rfl (fun _ => ?_) (fun hb => by cases hb)
      refine TW.reg ?_
      refine WL.op rfl rfl rfl (Go.Proofs.Ytobibplilbchfaa.W.quiet_move rfl rfl) ?_
      refine WL.op rfl rfl rfl (Go.Proofs.Ytobibplilbchfaa.W.quiet_field rfl rfl (fun W => (qa_api_Block_3 W _ _))) ?_
      refine WL.ld rfl rfl rfl rfl rfl (ql_int _ _ _ (bx1.cell (j := 3) rfl)) ?_
      refine O.bsl rfl rfl rfl rfl rfl (qv_s_int_1 _ _) ?_
      refine WL.append rfl rfl rfl rfl rfl rfl (Ints.app1 (B := w.heap.size) b.t _ (by have := ff.size; omega)) ?_
      rintro v1 wA ⟨hI, hF⟩
      replace bx1 := bx1.fr hF id
      replace ff := ff.trans hF
      -- world wA
      refine WL.op rfl rfl rfl (Go.Proofs.Ytobibplilbchfaa.W.quiet_assign rfl rfl) ?_
      refine WL.nil ?_
      refine TW.seq ?_
      refine TW.sreg ?_
      refine WL.op rfl rfl rfl (Go.Proofs.Ytobibplilbchfaa.W.quiet_field rfl rfl (fun W => (qa_api_Block_1 W _ _))) ?_
      refine WL.ld rfl rfl rfl rfl rfl (ql_int _ _ _ (bx1.cell (j := 1) rfl)) ?_
      refine WL.op rfl rfl rfl (Go.Proofs.Ytobibplilbchfaa.W.quiet_bin rfl rfl rfl (fun W => qb_eql_int W _ _ _ _)) ?_
      refine O.split (fun hb => ?_) (fun hb => by rw [h2] at hb; cases hb)
      refine WL.op rfl rfl rfl (Go.Proofs.Ytobibplilbchfaa.W.quiet_move rfl rfl) ?_
      refine WL.op rfl rfl rfl (Go.Proofs.Ytobibplilbchfaa.W.quiet_field rfl rfl (fun W => (qa_api_Block_4 W _ _))) ?_
      refine WL.ld rfl rfl rfl rfl rfl (ql_int _ _ _ (bx1.cell (j := 4) rfl)) ?_
      refine WL.op rfl rfl rfl (Go.Proofs.Ytobibplilbchfaa.W.quiet_field rfl rfl (fun W => (qa_api_Block_3 W _ _))) ?_
      refine WL.ld rfl rfl rfl rfl rfl (ql_int _ _ _ (bx1.cell (j := 3) rfl)) ?_
      refine WL.op rfl rfl rfl (Go.Proofs.Ytobibplilbchfaa.W.quiet_bin rfl rfl rfl (fun W => qb_neq_int W _ _ _ _)) ?_
      refine O.split (fun h3 => ?_) (fun h3 => ?_)
      · skip
        have g3 : b.t ≠ b.el := fun e => by rw [e] at h3; simp at h3
        refine WL.op rfl rfl rfl (Go.Proofs.Ytobibplilbchfaa.W.quiet_pick rfl rfl rfl) ?_
        refine WL.nil ?_
        refine TW.cond rfl (fun _ => ?_) (fun hb => by cases hb)
        refine TW.reg ?_
        refine WL.op rfl rfl rfl (Go.Proofs.Ytobibplilbchfaa.W.quiet_move rfl rfl) ?_
        refine WL.op rfl rfl rfl (Go.Proofs.Ytobibplilbchfaa.W.quiet_field rfl rfl (fun W => (qa_api_Block_4 W _ _))) ?_
        refine WL.ld rfl rfl rfl rfl rfl (ql_int _ _ _ (bx1.cell (j := 4) rfl)) ?_
        refine O.bsl rfl rfl rfl rfl rfl (qv_s_int_1 _ _) ?_
        refine WL.append rfl rfl rfl rfl rfl rfl (Ints.app b.el _ hI (by have := ff.size; omega) (by simp)) ?_
        rintro v2 wB ⟨hI2, hF2, _⟩
        clear bx1
        replace ff := ff.trans' hF2 (fun q hq e => by have := (Row.lt hI q e).1; omega)
        -- world wB
        refine WL.op rfl rfl rfl (Go.Proofs.Ytobibplilbchfaa.W.quiet_assign rfl rfl) ?_
        refine WL.nil ?_
        refine TW.sreg ?_
        refine WL.op rfl rfl rfl (Go.Proofs.Ytobibplilbchfaa.W.quiet_move rfl rfl) ?_
        refine WL.op rfl rfl rfl (Go.Proofs.Ytobibplilbchfaa.W.quiet_assign rfl rfl) ?_
        refine WL.nil ?_
        refine TW.rt ?_
        refine bodyw_ret rfl rfl ?_
        exact ⟨_, rfl, by rw [out_3 g1 g2 g3]; exact hI2, ff⟩
      · skip
        refine WL.op rfl rfl rfl (Go.Proofs.Ytobibplilbchfaa.W.quiet_pick rfl rfl rfl) ?_
        refine WL.nil ?_
        refine TW.cond rfl (fun hb => by cases hb) (fun _ => ?_)
        refine TW.skip ?_
        refine TW.sreg ?_
        refine WL.op rfl rfl rfl (Go.Proofs.Ytobibplilbchfaa.W.quiet_move rfl rfl) ?_
        refine WL.op rfl rfl rfl (Go.Proofs.Ytobibplilbchfaa.W.quiet_assign rfl rfl) ?_
        refine WL.nil ?_
        refine TW.rt ?_
        refine bodyw_ret rfl rfl ?_
        exact ⟨_, rfl, by rw [out_2 g1 g2 (by have h : b.el = b.t := (by simpa using h3); exact h.symm)]; exact hI, ff⟩
    · skip
      have g2 : b.en ≠ 2 := by simpa using h2
      refine WL.op rfl rfl rfl (Go.Proofs.Ytobibplilbchfaa.W.quiet_pick rfl rfl rfl) ?_
      refine WL.nil ?_
      refine TW.cond rfl (fun hb => by cases hb) (fun _ => ?_)
      refine TW.skip ?_
      refine TW.seq ?_
      refine TW.sreg ?_
      refine WL.op rfl rfl rfl (Go.Proofs.Ytobibplilbchfaa.W.quiet_field rfl rfl (fun W => (qa_api_Block_1 W _ _))) ?_
      refine WL.ld rfl rfl rfl rfl rfl (ql_int _ _ _ (bx1.cell (j := 1) rfl)) ?_
      refine WL.op rfl rfl rfl (Go.Proofs.Ytobibplilbchfaa.W.quiet_bin rfl rfl rfl (fun W => qb_eql_int W _ _ _ _)) ?_
      refine O.split (fun hb => by rw [h2] at hb; cases hb) (fun hb => ?_)
      refine WL.op rfl rfl rfl (Go.Proofs.Ytobibplilbchfaa.W.quiet_move rfl rfl) ?_
      refine WL.skip rfl rfl rfl ?_
      refine WL.skip rfl rfl rfl ?_
      refine WL.skip rfl rfl rfl ?_
      refine WL.skip rfl rfl rfl ?_
      refine WL.skip rfl rfl rfl ?_
      refine WL.op rfl rfl rfl (Go.Proofs.Ytobibplilbchfaa.W.quiet_pick rfl rfl rfl) ?_
      refine WL.nil ?_
      refine TW.cond rfl (fun hb => by cases hb) (fun _ => ?_)
      refine TW.skip ?_
      refine TW.sreg ?_
      refine WL.op rfl rfl rfl (Go.Proofs.Ytobibplilbchfaa.W.quiet_move rfl rfl) ?_
      refine WL.op rfl rfl rfl (Go.Proofs.Ytobibplilbchfaa.W.quiet_assign rfl rfl) ?_
      refine WL.nil ?_
      refine TW.rt ?_
      refine bodyw_ret rfl rfl ?_
      exact ⟨_, rfl, by rw [out_4 g1 g2]; exact Row.nil _ _ _ _ _, ff⟩
set_option maxRecDepth 100000 in
theorem r_outs (nm : ByteArray) (vd : Bool) (pr R : Int) (oa : Option Addr) (on oc : Nat) (ba : Option Addr) (bs : List Bk) (bc : Nat) (n : Nat) (hn : n < bs.length) (w : World) (hbl : BkL w ba bs) : Calls Try.prog 17 #[.agg #[.string nm, .bool vd, .int .i64 pr, .int .i64 R, .slice oa on oc, .slice ba bs.length bc], .int .i64 (n : Int)] w fun e w' => ∃ v, e = .returned v ∧ Ints w.heap.size w' v (outsF bs n) ∧ Fr (fun _ => False) w w' := by
  have ff := Fr.refl (fun _ => False) w
  refine calls_tw Try.func17 rfl rfl (Nat.le_of_ble_eq_true rfl) ?_
  refine TW.sreg ?_
  have lw1 := ff.size
  refine O.boxR rfl rfl rfl rfl rfl (qxR_api_Proc w _ _ _ _ _ _ _ _ _ _) ?_
  rintro wa1 ⟨fa1, bx1⟩
  replace ff := ff.trans fa1
  refine WL.op rfl rfl rfl (Go.Proofs.Ytobibplilbchfaa.W.quiet_assign rfl rfl) ?_
  refine WL.nil ?_
  refine TW.sreg ?_
  refine WL.op rfl rfl rfl (Go.Proofs.Ytobibplilbchfaa.W.quiet_assign rfl rfl) ?_
  refine WL.nil ?_
  refine TW.sreg ?_
  refine WL.op rfl rfl rfl (Go.Proofs.Ytobibplilbchfaa.W.quiet_field rfl rfl (fun W => (qa_api_Proc_5 W _ _))) ?_
  refine WL.ld rfl rfl rfl rfl rfl (ql_s_api_Block _ _ _ _ _ (bx1.cell (j := 5) rfl)) ?_
  obtain ⟨gb, ob, rfl, ⟨ia, ic, c0, cI⟩, c1, c2, c3, c4⟩ := (hbl.fr ff) n hn
  refine WL.op rfl rfl rfl (Go.Proofs.Ytobibplilbchfaa.W.quiet_move rfl rfl) ?_
  refine O.ixa rfl rfl rfl rfl rfl rfl (qi_s_api_Block _ _ _ _ _ _ (by omega)) ?_
  refine WL.ld rfl rfl rfl rfl rfl (ql_api_Block _ _ _ _ _ _ _ _ c0 c1 c2 c3 c4) ?_
  refine WL.call (hr := r_outs13 (bs.getD n bk0) ia ic _) rfl rfl rfl rfl rfl (fun W => qk_rushlightref13_Outs W _) ?_
  rintro e w1 ⟨v0, rfl, hI0, f1⟩
  refine ⟨_, rfl, ?_⟩
  replace bx1 := bx1.fr f1 id
  replace ff := ff.trans f1
  have hlw := bx1.lt
  obtain ⟨oa2, oc2, rfl, hO0⟩ := hI0.at
  have hO := hO0.b
  have hz := Nat.le_refl w1.heap.size
  refine WL.op rfl rfl rfl (Go.Proofs.Ytobibplilbchfaa.W.quiet_assign rfl rfl) ?_
  refine WL.nil ?_
  refine TW.seq ?_
  refine TW.sreg ?_
  refine WL.op rfl rfl rfl (Go.Proofs.Ytobibplilbchfaa.W.quiet_assign rfl rfl) ?_
  refine WL.nil ?_
  refine TW.block ?_
  refine O.loopG (n := (outB (bs.getD n bk0)).length) (fun a _ => (intOf (a.tmps.getD 7 undef)).toNat) (fun j a W => ∃ (v : Value), Kn Try.f17.ntmps [(2, .pointer (some ⟨w.heap.size, 0, none⟩)), (5, v), (6, .slice oa2 (outB (bs.getD n bk0)).length oc2), (7, .int .i64 (j : Int))] a ∧ Fr (fun _ => False) w W ∧ Bx W w.heap.size #[.string nm, .bool vd, .int .i64 pr, .int .i64 R, .slice oa on oc, .slice (some ⟨gb, ob, none⟩) bs.length bc] 25 ∧ Ints w1.heap.size W v (((outB (bs.getD n bk0)).take j).filter (fun x => !isOut bs.length x)) ∧ IntsB w1.heap.size W oa2 (outB (bs.getD n bk0)) ∧ w1.heap.size ≤ W.heap.size) (fun j a W h => by obtain ⟨_, h⟩ := h; exact O.slotv h.1 rfl) 0 (Nat.zero_le _) (fun a k => ⟨_, (by (repeat (refine Kn.cons k rfl ?_)); exact k.base), ff, bx1, Row.nil _ _ _ _ _, hO, hz⟩) ?_
  rintro j a wl hj ⟨v, k, ff, bx1, hV, hO, hz⟩
  refine TW.app (s := [(2, .pointer (some ⟨w.heap.size, 0, none⟩)), (5, v), (6, .slice oa2 (outB (bs.getD n bk0)).length oc2), (7, .int .i64 (j : Int))]) ?_ k
  refine TW.seq ?_
  refine TW.sreg ?_
  refine WL.op rfl rfl rfl (Go.Proofs.Ytobibplilbchfaa.W.quiet_move rfl rfl) ?_
  refine WL.op rfl rfl rfl (Go.Proofs.Ytobibplilbchfaa.W.quiet_move rfl rfl) ?_
  refine O.len rfl rfl rfl rfl rfl (qn_s_int _ _ _ _) ?_
  refine WL.op rfl rfl rfl (Go.Proofs.Ytobibplilbchfaa.W.quiet_bin rfl rfl rfl (fun W => qb_lss_int W _ _ _ _)) ?_
  refine O.split (fun hbj => ?_) (fun hbj => ?_)
  · skip
    have hj2 : j < (outB (bs.getD n bk0)).length := by have := of_decide_eq_true hbj; omega
    obtain ⟨g, o, rfl, hgz, hc⟩ := hO j hj2
    have ho2 := outB_len (bs.getD n bk0)
    have hsucc := filt_succ (fun x => !isOut bs.length x) (outB (bs.getD n bk0)) j hj2
    generalize hx : (outB (bs.getD n bk0)).getD j 0 = x at *
    refine WL.nil ?_
    refine TW.cond rfl (fun _ => ?_) (fun hb => by cases hb)
    refine TW.skip ?_
    refine TW.seq ?_
    refine TW.block ?_
    refine Q.sreg (C := fun W => Fr (fun _ => False) wl W) (by kernel_rfl) (by kernel_rfl) (fun W h => h.drewN 1) (Fr.refl _ _) ?_
    refine W.op rfl rfl rfl (Go.Proofs.Ytobibplilbchfaa.W.quiet_move rfl rfl) ?_
    refine W.op rfl rfl rfl (Go.Proofs.Ytobibplilbchfaa.W.quiet_move rfl rfl) ?_
    refine W.op rfl rfl rfl (Go.Proofs.Ytobibplilbchfaa.W.quiet_index rfl rfl rfl (fun W => (qi_s_int _ _ _ _ _ _ (by omega)))) ?_
    refine W.op rfl rfl rfl (Go.Proofs.Ytobibplilbchfaa.W.quiet_load rfl rfl (fun W hW => (ql_int _ _ _ (hW.cell hc id)))) ?_
    refine W.op rfl rfl rfl (Go.Proofs.Ytobibplilbchfaa.W.quiet_bin rfl rfl rfl (fun W => qb_geq_int W _ _ _ _)) ?_
    refine Q.split (fun h1 => ?_) (fun h1 => ?_)
    · skip
      have g1 : 0 ≤ x := of_decide_eq_true h1
      refine W.op rfl rfl rfl (Go.Proofs.Ytobibplilbchfaa.W.quiet_move rfl rfl) ?_
      refine W.op rfl rfl rfl (Go.Proofs.Ytobibplilbchfaa.W.quiet_move rfl rfl) ?_
      refine W.op rfl rfl rfl (Go.Proofs.Ytobibplilbchfaa.W.quiet_move rfl rfl) ?_
      refine W.op rfl rfl rfl (Go.Proofs.Ytobibplilbchfaa.W.quiet_index rfl rfl rfl (fun W => (qi_s_int _ _ _ _ _ _ (by omega)))) ?_
      refine W.op rfl rfl rfl (Go.Proofs.Ytobibplilbchfaa.W.quiet_load rfl rfl (fun W hW => (ql_int _ _ _ (hW.cell hc id)))) ?_
      refine W.op rfl rfl rfl (Go.Proofs.Ytobibplilbchfaa.W.quiet_field rfl rfl (fun W => (qa_api_Proc_5 W _ _))) ?_
      refine W.op rfl rfl rfl (Go.Proofs.Ytobibplilbchfaa.W.quiet_load rfl rfl (fun W hW => (ql_s_api_Block _ _ _ _ _ ((bx1.fr hW id).cell (j := 5) rfl)))) ?_
      refine W.op rfl rfl rfl (Q.len rfl rfl (fun W => (qn_s_api_Block _ _ _ _))) ?_
      refine W.op rfl rfl rfl (Go.Proofs.Ytobibplilbchfaa.W.quiet_bin rfl rfl rfl (fun W => qb_lss_int W _ _ _ _)) ?_
      refine Q.split (fun h2 => ?_) (fun h2 => ?_)
      · skip
        have g2 : x < bs.length := of_decide_eq_true h2
        have g3 : isOut bs.length x = false := by unfold isOut; simp; omega
        rw [if_pos (by rw [g3]; rfl)] at hsucc
        refine W.op rfl rfl rfl (Go.Proofs.Ytobibplilbchfaa.W.quiet_pick rfl rfl rfl) ?_
        refine Q.nil (T.tw fun wq1 fq1 => ?_)
        replace bx1 := bx1.fr fq1 id
        replace hV := hV.fr fq1 (fun _ _ => id)
        replace hO := hO.fr fq1 (fun q h1 => id)
        replace hz := Nat.le_trans hz fq1.size
        replace hc := fq1.cell hc id
        replace ff := ff.trans fq1
        refine TW.cond rfl (fun _ => ?_) (fun hb => by cases hb)
        refine TW.reg ?_
        refine WL.op rfl rfl rfl (Go.Proofs.Ytobibplilbchfaa.W.quiet_move rfl rfl) ?_
        refine WL.op rfl rfl rfl (Go.Proofs.Ytobibplilbchfaa.W.quiet_move rfl rfl) ?_
        refine WL.op rfl rfl rfl (Go.Proofs.Ytobibplilbchfaa.W.quiet_move rfl rfl) ?_
        refine O.ixa rfl rfl rfl rfl rfl rfl (qi_s_int _ _ _ _ _ _ (by omega)) ?_
        refine WL.ld rfl rfl rfl rfl rfl (ql_int _ _ _ hc) ?_
        refine O.bsl rfl rfl rfl rfl rfl (qv_s_int_1 _ _) ?_
        refine WL.append rfl rfl rfl rfl rfl rfl (Ints.app x _ hV hz (Nat.le_trans (List.length_filter_le _ _) (by rw [List.length_take]; omega))) ?_
        rintro v2 wB ⟨hV2, hF2, _⟩
        replace bx1 := bx1.fr hF2 (fun e => by have := (Row.lt hV _ e).1; omega)
        have hO2 := hO.fr hF2 (fun q h1 h2 => by have := (Row.lt hV q h2).1; omega)
        replace ff := ff.trans' hF2 (fun q hq e => by have := (Row.lt hV q e).1; omega)
        replace hz := Nat.le_trans hz hF2.size
        -- world wB
        refine WL.op rfl rfl rfl (Go.Proofs.Ytobibplilbchfaa.W.quiet_assign rfl rfl) ?_
        refine WL.end ?_
        refine Xw.nblk ?_
        refine Xw.nrm ?_
        refine TW.reg ?_
        refine WL.op rfl rfl rfl (Go.Proofs.Ytobibplilbchfaa.W.quiet_move rfl rfl) ?_
        refine WL.op rfl rfl rfl (Go.Proofs.Ytobibplilbchfaa.W.quiet_bin rfl rfl rfl (fun W => qb_add_int W _ _ _ _ (by omega) (by omega))) ?_
        refine WL.op rfl rfl rfl (Go.Proofs.Ytobibplilbchfaa.W.quiet_assign rfl rfl) ?_
        refine WL.end ?_
        refine Xw.any (fun a k => ?_)
        refine ⟨j + 1, by omega, by omega, v2, (by (repeat (refine Kn.cons k rfl ?_)); exact k.base), ff, bx1, ?_, hO2, hz⟩
        rw [hsucc]
        exact hV2
      · skip
        have g2 : isOut bs.length x = true := by have := of_decide_eq_false h2; unfold isOut; simp; omega
        rw [if_neg (by rw [g2]; decide), List.append_nil] at hsucc
        refine W.op rfl rfl rfl (Go.Proofs.Ytobibplilbchfaa.W.quiet_pick rfl rfl rfl) ?_
        refine Q.nil (T.tw fun wq2 fq2 => ?_)
        replace bx1 := bx1.fr fq2 id
        replace hV := hV.fr fq2 (fun _ _ => id)
        replace hO := hO.fr fq2 (fun q h1 => id)
        replace hz := Nat.le_trans hz fq2.size
        replace hc := fq2.cell hc id
        replace ff := ff.trans fq2
        refine TW.cond rfl (fun hb => by cases hb) (fun _ => ?_)
        refine TW.skipx ?_
        refine Xw.nblk ?_
        refine Xw.nrm ?_
        refine TW.reg ?_
        refine WL.op rfl rfl rfl (Go.Proofs.Ytobibplilbchfaa.W.quiet_move rfl rfl) ?_
        refine WL.op rfl rfl rfl (Go.Proofs.Ytobibplilbchfaa.W.quiet_bin rfl rfl rfl (fun W => qb_add_int W _ _ _ _ (by omega) (by omega))) ?_
        refine WL.op rfl rfl rfl (Go.Proofs.Ytobibplilbchfaa.W.quiet_assign rfl rfl) ?_
        refine WL.end ?_
        refine Xw.any (fun a k => ?_)
        refine ⟨j + 1, by omega, by omega, v, (by (repeat (refine Kn.cons k rfl ?_)); exact k.base), ff, bx1, ?_, hO, hz⟩
        rw [hsucc]
        exact hV
    · skip
      have g2 : isOut bs.length x = true := by have := of_decide_eq_false h1; unfold isOut; simp; omega
      rw [if_neg (by rw [g2]; decide), List.append_nil] at hsucc
      refine W.op rfl rfl rfl (Go.Proofs.Ytobibplilbchfaa.W.quiet_move rfl rfl) ?_
      refine W.skip rfl rfl rfl ?_
      refine W.skip rfl rfl rfl ?_
      refine W.skip rfl rfl rfl ?_
      refine W.skip rfl rfl rfl ?_
      refine W.skip rfl rfl rfl ?_
      refine W.skip rfl rfl rfl ?_
      refine W.skip rfl rfl rfl ?_
      refine W.skip rfl rfl rfl ?_
      refine W.op rfl rfl rfl (Go.Proofs.Ytobibplilbchfaa.W.quiet_pick rfl rfl rfl) ?_
      refine Q.nil (T.tw fun wq3 fq3 => ?_)
      replace bx1 := bx1.fr fq3 id
      replace hV := hV.fr fq3 (fun _ _ => id)
      replace hO := hO.fr fq3 (fun q h1 => id)
      replace hz := Nat.le_trans hz fq3.size
      replace hc := fq3.cell hc id
      replace ff := ff.trans fq3
      refine TW.cond rfl (fun hb => by cases hb) (fun _ => ?_)
      refine TW.skipx ?_
      refine Xw.nblk ?_
      refine Xw.nrm ?_
      refine TW.reg ?_
      refine WL.op rfl rfl rfl (Go.Proofs.Ytobibplilbchfaa.W.quiet_move rfl rfl) ?_
      refine WL.op rfl rfl rfl (Go.Proofs.Ytobibplilbchfaa.W.quiet_bin rfl rfl rfl (fun W => qb_add_int W _ _ _ _ (by omega) (by omega))) ?_
      refine WL.op rfl rfl rfl (Go.Proofs.Ytobibplilbchfaa.W.quiet_assign rfl rfl) ?_
      refine WL.end ?_
      refine Xw.any (fun a k => ?_)
      refine ⟨j + 1, by omega, by omega, v, (by (repeat (refine Kn.cons k rfl ?_)); exact k.base), ff, bx1, ?_, hO, hz⟩
      rw [hsucc]
      exact hV
  · skip
    refine WL.nil ?_
    refine TW.cond rfl (fun hb => by cases hb) (fun _ => ?_)
    refine TW.exit ?_
    refine Xw.thn (by simp) ?_
    refine Xw.thn (by simp) ?_
    refine Xw.hit ?_
    refine Xw.nrm ?_
    refine TW.sreg ?_
    refine WL.op rfl rfl rfl (Go.Proofs.Ytobibplilbchfaa.W.quiet_move rfl rfl) ?_
    refine WL.op rfl rfl rfl (Go.Proofs.Ytobibplilbchfaa.W.quiet_assign rfl rfl) ?_
    refine WL.nil ?_
    refine TW.rt ?_
    refine bodyw_ret rfl rfl ?_
    have hje : j = (outB (bs.getD n bk0)).length := by have := of_decide_eq_false hbj; omega
    subst hje
    rw [List.take_length] at hV
    exact ⟨_, rfl, Row.base hV (fun k hk => by have := (Row.lt hV k hk).1; omega), ff⟩
end Go.Proofs.Ytobibplilbchfaa
