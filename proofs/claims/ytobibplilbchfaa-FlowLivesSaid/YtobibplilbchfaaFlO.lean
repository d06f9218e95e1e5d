/-
  Flow (layer 16): the document's walk and order.
-/
import Derived.Test.YtobibplilbchfaaFlN
namespace Go.Proofs.Ytobibplilbchfaa
open Go.RowKit
set_option linter.unusedVariables false
set_option linter.unusedSimpArgs false
theorem qzR_rushlightref16_Walk (w : World) : ∃ w', (Instr.alloc 36 true (.tuple #[])).run Try.prog w = .ok (.pointer (some ⟨w.heap.size, 0, none⟩)) w' ∧ (Fr (fun _ => False) w w' ∧ Bx w' w.heap.size #[.slice none 0 0, .slice none 0 0, .slice none 0 0] 36) := ⟨w.alloc (.cells #[.slice none 0 0, .slice none 0 0, .slice none 0 0] 36), by simp [go_sem], fr_al (Fr.refl _ _) _, Bx.new _ _ _⟩
theorem qd_rushlightref16_Walk_0 (w : World) (p0_p0 : Option Addr) (p0_k0 p0_l0 : Nat) : (Instr.build 36 #[(0, .slice p0_p0 p0_k0 p0_l0)]).run Try.prog w = .ok (.agg #[.slice p0_p0 p0_k0 p0_l0, .slice none 0 0, .slice none 0 0]) w := by simp [go_sem]
theorem qsA_rushlightref16_Walk (w : World) (g : Nat) (z0 z1 z2 : Value) (up0 : Option Addr) (uk0 ul0 : Nat) (up1 : Option Addr) (uk1 ul1 : Nat) (up2 : Option Addr) (uk2 ul2 : Nat) (h : Bx w g #[z0, z1, z2] 36) : ∃ w', (Instr.storeAt 36 (.pointer (some ⟨g, 0, none⟩)) (.agg #[.slice up0 uk0 ul0, .slice up1 uk1 ul1, .slice up2 uk2 ul2])).run Try.prog w = .ok () w' ∧ (Fr (fun q => q = g) w w' ∧ Bx w' g #[.slice up0 uk0 ul0, .slice up1 uk1 ul1, .slice up2 uk2 ul2] 36) := h.store 36 #[.slice up0 uk0 ul0, .slice up1 uk1 ul1, .slice up2 uk2 ul2] (by kernel_rfl) rfl (by simp [Value.oneCell'])
theorem ql_rushlightref16_Walk (w : World) (b o : Nat) (u0 u1 u2 : Value) (h0 : w.cell? ⟨b, o, none⟩ = some u0) (h1 : w.cell? ⟨b, o + 1, none⟩ = some u1) (h2 : w.cell? ⟨b, o + 2, none⟩ = some u2) : (Instr.loadAt 36 (.pointer (some ⟨b, o, none⟩))).run Try.prog w = .ok (.agg #[u0, u1, u2]) w := by simp [go_sem, h0, h1, h2]
theorem qk_rushlightref16_Walked (w : World) (vs : Array Value) : (callFunc 12 vs).run Try.prog w = .ok (.enter 12 vs) w := by simp [go_sem]
set_option maxRecDepth 100000 in
theorem r_walked (nm : ByteArray) (vd : Bool) (pr R : Int) (oa : Option Addr) (on oc : Nat) (ba : Option Addr) (bs : List Bk) (bc : Nat) (hnb : bs.length ≤ 1000) (w : World) (hbl : BkL w ba bs) : Calls Try.prog 12 #[.agg #[.string nm, .bool vd, .int .i64 pr, .int .i64 R, .slice oa on oc, .slice ba bs.length bc]] w fun e w' => ∃ S vl vb, e = .returned (.agg #[.slice (some ⟨S, 0, none⟩) bs.length bs.length, vl, vb]) ∧ Ints w.heap.size w' vl (walkedF bs).left ∧ Row w.heap.size 41 2 pC w' vb (walkedF bs).back ∧ Fr (fun _ => False) w w' := by
  have ff := Fr.refl (fun _ => False) w
  refine calls_tw Try.func12 rfl rfl (Nat.le_of_ble_eq_true rfl) ?_
  refine TW.sreg ?_
  have lw1 := ff.size
  refine O.boxR rfl rfl rfl rfl rfl (qxR_api_Proc w _ _ _ _ _ _ _ _ _ _) ?_
  rintro wa1 ⟨fa1, bx1⟩
  replace ff := ff.trans fa1
  have lt2_bx1 := bx1.lt
  have lw2 := ff.size
  refine O.allocR rfl rfl rfl rfl (qzR_rushlightref16_Walk wa1) ?_
  rintro wa2 ⟨fa2, bx2⟩
  replace bx1 := bx1.fr fa2 id
  replace ff := ff.trans fa2
  have ffa := ff
  have bx1s := bx1
  have bx2s := bx2
  have f0 := Fr.refl (fun _ => False) wa2
  refine WL.nil ?_
  refine TW.sreg ?_
  refine WL.op rfl rfl rfl (Go.Proofs.Ytobibplilbchfaa.W.quiet_field rfl rfl (fun W => (qa_api_Proc_5 W _ _))) ?_
  refine WL.ld rfl rfl rfl rfl rfl (ql_s_api_Block _ _ _ _ _ (bx1.cell (j := 5) rfl)) ?_
  refine O.len rfl rfl rfl rfl rfl (qn_s_api_Block _ _ _ _) ?_
  have lt3_bx1 := bx1.lt
  have lt3_bx2 := bx2.lt
  have lw3 := ff.size
  refine O.mkR rfl rfl rfl rfl rfl rfl (mk_i bs.length (by omega) _) ?_
  rintro wa3 ⟨fa3, bx3⟩
  replace bx1 := bx1.fr fa3 id
  replace bx2 := bx2.fr fa3 id
  replace f0 := f0.trans fa3
  replace ff := ff.trans fa3
  refine O.bld rfl rfl rfl rfl rfl (qd_rushlightref16_Walk_0 _ _ _ _) ?_
  have lt4_bx1 := bx1.lt
  have lt4_bx2 := bx2.lt
  have lt4_bx3 := bx3.lt
  have lw4 := ff.size
  refine O.allocR rfl rfl rfl rfl (qzR_rushlightref16_Walk wa3) ?_
  rintro wa4 ⟨fa4, bx4⟩
  replace bx1 := bx1.fr fa4 id
  replace bx2 := bx2.fr fa4 id
  replace bx3 := bx3.fr fa4 id
  replace f0 := f0.trans fa4
  replace ff := ff.trans fa4
  refine O.storeR rfl rfl rfl rfl rfl (qsA_rushlightref16_Walk wa4 _ _ _ _ _ _ _ _ _ _ _ _ _ bx4) ?_
  rintro wa5 ⟨fa5, bx4x⟩
  replace bx1 := bx1.fr fa5 (fun e => by omega)
  replace bx2 := bx2.fr fa5 (fun e => by omega)
  replace bx3 := bx3.fr fa5 (fun e => by omega)
  replace f0 := f0.trans' fa5 (fun q hq e => by omega)
  replace ff := ff.trans' fa5 (fun q hq e => by omega)
  clear bx4
  have bx4 := bx4x
  clear bx4x
  have hT : Wat wa2.heap.size wa3.heap.size wa2.heap.size bs.length wa5 (.slice none 0 0) (.slice none 0 0) (⟨List.replicate bs.length 0, [], []⟩ : Wk) := ⟨bx4, ints_made bx3 (Nat.le_refl _) (by omega), Row.nil _ _ _ _ _, Row.nil _ _ _ _ _, (fun e => by cases e), (by have := fa3.size; omega)⟩
  have ltb2 : wa1.heap.size < wa2.heap.size := by omega
  have hzr := zer_rep bs.length
  refine WL.nil ?_
  refine TW.seq ?_
  refine TW.sreg ?_
  refine WL.op rfl rfl rfl (Go.Proofs.Ytobibplilbchfaa.W.quiet_field rfl rfl (fun W => (qa_api_Proc_5 W _ _))) ?_
  refine WL.ld rfl rfl rfl rfl rfl (ql_s_api_Block _ _ _ _ _ (bx1.cell (j := 5) rfl)) ?_
  refine O.len rfl rfl rfl rfl rfl (qn_s_api_Block _ _ _ _) ?_
  refine WL.op rfl rfl rfl (Go.Proofs.Ytobibplilbchfaa.W.quiet_bin rfl rfl rfl (fun W => qb_gtr_int W _ _ _ _)) ?_
  refine O.split (fun hb1 => ?_) (fun hb1 => ?_)
  · skip
    have hpos : 0 < bs.length := by have := of_decide_eq_true hb1; omega
    refine WL.nil ?_
    refine TW.cond rfl (fun _ => ?_) (fun hb => by cases hb)
    refine TW.reg ?_
    refine WL.ld rfl rfl rfl rfl rfl (qlB_api_Proc _ _ _ _ _ _ _ _ _ _ _ _ _ (bx1s.fr f0 id)) ?_
    refine WL.call (hr := t_into nm vd pr R oa on oc ba bs bc bs.length 0 wa2.heap.size wa3.heap.size wa2.heap.size _ _ (⟨List.replicate bs.length 0, [], []⟩ : Wk) bs.length (2 * bs.length) (by omega) (by omega) wa2 _ (Nat.le_refl _) f0 (hbl.fr ffa) hpos (by show (List.replicate bs.length (0 : Int)).getD 0 0 = 0; rw [List.getD_eq_getElem?_getD, List.getElem?_replicate]; split <;> rfl) (by show zer (List.replicate bs.length 0) ≤ _; omega) ⟨(by show 0 + zer (List.replicate bs.length 0) ≤ _; omega), (by show 0 + 2 * zer (List.replicate bs.length 0) ≤ _; omega)⟩ hT) rfl rfl rfl rfl rfl (fun W => qk_rushlightref16_Walk_Into W _) ?_
    rintro e w6 ⟨rfl, ⟨vl2, vb2, hT2, hs1, hs2⟩, hFc⟩
    refine ⟨_, rfl, ?_⟩
    replace f0 := f0.trans' hFc (fun q hq e => by have := (hT.ge e).1; omega)
    replace hT : Wat wa2.heap.size wa3.heap.size wa2.heap.size bs.length w6 vl2 vb2 (walkedF bs) := by unfold walkedF; rw [if_neg (by omega)]; exact hT2
    obtain ⟨la, lc, rfl⟩ := Row.form hT.hl
    obtain ⟨ba2, bc2, rfl⟩ := Row.form hT.hb
    have bx2 := bx2s.fr f0 id
    have hlt := bx2.lt
    have hw2 := ffa.size
    refine WL.nil ?_
    refine TW.sreg ?_
    refine WL.ld rfl rfl rfl rfl rfl (ql_rushlightref16_Walk _ _ _ _ _ _ (hT.bx.cell (j := 0) rfl) (hT.bx.cell (j := 1) rfl) (hT.bx.cell (j := 2) rfl)) ?_
    refine O.storeR rfl rfl rfl rfl rfl (qsA_rushlightref16_Walk w6 _ _ _ _ _ _ _ _ _ _ _ _ _ bx2) ?_
    rintro wa6 ⟨fa6, bx2x⟩
    clear bx2
    have bx2 := bx2x
    clear bx2x
    refine WL.nil ?_
    refine TW.rt ?_
    refine O.retc1 rfl rfl (run_loadVar_row _ _ _ 36 _ _ _ bx2 Try.underlying36 rfl (by kernel_rfl)) ?_
    refine ⟨_, _, _, rfl, ?_, ?_, (ffa.trans f0).trans' fa6 (fun q hq e => by omega)⟩
    · exact (Row.base hT.hl (fun k hk => by have := (Row.lt hT.hl k hk).1; omega)).fr fa6 (fun k hk e => by have := (Row.lt hT.hl k hk).1; omega)
    · exact Row.fr (Row.base hT.hb (fun k hk => by have := (Row.lt hT.hb k hk).1; omega)) fa6 (fun k hk e => by have := (Row.lt hT.hb k hk).1; omega)
  · skip
    have hz : bs.length = 0 := by have := of_decide_eq_false hb1; omega
    replace hT : Wat wa2.heap.size wa3.heap.size wa2.heap.size bs.length wa5 (.slice none 0 0) (.slice none 0 0) (walkedF bs) := by unfold walkedF; rw [if_pos hz]; rw [hz] at hT ⊢; exact hT
    have bx2 := bx2s.fr f0 id
    have hlt := bx2.lt
    have hw2 := ffa.size
    refine WL.nil ?_
    refine TW.cond rfl (fun hb => by cases hb) (fun _ => ?_)
    refine TW.skip ?_
    refine TW.sreg ?_
    refine WL.ld rfl rfl rfl rfl rfl (ql_rushlightref16_Walk _ _ _ _ _ _ (hT.bx.cell (j := 0) rfl) (hT.bx.cell (j := 1) rfl) (hT.bx.cell (j := 2) rfl)) ?_
    refine O.storeR rfl rfl rfl rfl rfl (qsA_rushlightref16_Walk wa5 _ _ _ _ _ _ _ _ _ _ _ _ _ bx2) ?_
    rintro wa7 ⟨fa7, bx2x⟩
    clear bx2
    have bx2 := bx2x
    clear bx2x
    refine WL.nil ?_
    refine TW.rt ?_
    refine O.retc1 rfl rfl (run_loadVar_row _ _ _ 36 _ _ _ bx2 Try.underlying36 rfl (by kernel_rfl)) ?_
    refine ⟨_, _, _, rfl, ?_, ?_, (ffa.trans f0).trans' fa7 (fun q hq e => by omega)⟩
    · exact (Row.base hT.hl (fun k hk => by have := (Row.lt hT.hl k hk).1; omega)).fr fa7 (fun k hk e => by have := (Row.lt hT.hl k hk).1; omega)
    · exact Row.fr (Row.base hT.hb (fun k hk => by have := (Row.lt hT.hb k hk).1; omega)) fa7 (fun k hk e => by have := (Row.lt hT.hb k hk).1; omega)
set_option maxRecDepth 100000 in
theorem r_order (nm : ByteArray) (vd : Bool) (pr R : Int) (oa : Option Addr) (on oc : Nat) (ba : Option Addr) (bs : List Bk) (bc : Nat) (hnb : bs.length ≤ 1000) (w : World) (hbl : BkL w ba bs) : Calls Try.prog 15 #[.agg #[.string nm, .bool vd, .int .i64 pr, .int .i64 R, .slice oa on oc, .slice ba bs.length bc]] w fun e w' => ∃ v, e = .returned v ∧ Ints w.heap.size w' v (walkedF bs).left.reverse ∧ Fr (fun _ => False) w w' := by
  have ff := Fr.refl (fun _ => False) w
  refine calls_tw Try.func15 rfl rfl (Nat.le_of_ble_eq_true rfl) ?_
  obtain ⟨_, hll, _⟩ := left_in bs
  refine TW.sreg ?_
  have lw1 := ff.size
  refine O.boxR rfl rfl rfl rfl rfl (qxR_api_Proc w _ _ _ _ _ _ _ _ _ _) ?_
  rintro wa1 ⟨fa1, bx1⟩
  replace ff := ff.trans fa1
  refine WL.op rfl rfl rfl (Go.Proofs.Ytobibplilbchfaa.W.quiet_assign rfl rfl) ?_
  refine WL.nil ?_
  refine TW.sreg ?_
  refine WL.op rfl rfl rfl (Go.Proofs.Ytobibplilbchfaa.W.quiet_assign rfl rfl) ?_
  refine WL.nil ?_
  refine TW.sreg ?_
  refine WL.ld rfl rfl rfl rfl rfl (qlB_api_Proc _ _ _ _ _ _ _ _ _ _ _ _ _ bx1) ?_
  refine WL.call (hr := r_walked nm vd pr R oa on oc ba bs bc hnb _ (hbl.fr ff)) rfl rfl rfl rfl rfl (fun W => qk_rushlightref16_Walked W _) ?_
  rintro e w1 ⟨S0, vl, vb, rfl, hl, hb, f1⟩
  refine ⟨_, rfl, ?_⟩
  replace bx1 := bx1.fr f1 id
  replace ff := ff.trans f1
  obtain ⟨la, lc, rfl⟩ := Row.form hl
  obtain ⟨ba2, bc2, rfl⟩ := Row.form hb
  obtain ⟨_, _, e9, hO0⟩ := hl.at
  cases e9
  have hO := hO0.b
  have lt2_bx1 := bx1.lt
  have lw2 := ff.size
  refine O.allocR rfl rfl rfl rfl (qzR_rushlightref16_Walk w1) ?_
  rintro wa2 ⟨fa2, bx2⟩
  replace bx1 := bx1.fr fa2 id
  replace hO := hO.fr fa2 (fun q h1 => id)
  replace ff := ff.trans fa2
  refine O.storeR rfl rfl rfl rfl rfl (qsA_rushlightref16_Walk wa2 _ _ _ _ _ _ _ _ _ _ _ _ _ bx2) ?_
  rintro wa3 ⟨fa3, bx2x⟩
  replace bx1 := bx1.fr fa3 (fun e => by omega)
  replace hO := hO.fr fa3 (fun q h1 e => by omega)
  replace ff := ff.trans' fa3 (fun q hq e => by omega)
  clear bx2
  have bx2 := bx2x
  clear bx2x
  refine WL.nil ?_
  refine TW.seq ?_
  refine TW.sreg ?_
  refine WL.op rfl rfl rfl (Go.Proofs.Ytobibplilbchfaa.W.quiet_field rfl rfl (fun W => (qa_rushlightref16_Walk_1 W _ _))) ?_
  refine WL.ld rfl rfl rfl rfl rfl (ql_s_int _ _ _ _ _ (bx2.cell (j := 1) rfl)) ?_
  refine O.len rfl rfl rfl rfl rfl (qn_s_int _ _ _ _) ?_
  refine WL.op rfl rfl rfl (Go.Proofs.Ytobibplilbchfaa.W.quiet_bin rfl rfl rfl (fun W => qb_sub_int W _ _ _ _ (by omega) (by omega))) ?_
  refine WL.op rfl rfl rfl (Go.Proofs.Ytobibplilbchfaa.W.quiet_assign rfl rfl) ?_
  refine WL.nil ?_
  refine TW.block ?_
  refine O.loopX (n := (walkedF bs).left.length) (fun j a W => ∃ (v : Value), Kn Try.f15.ntmps [(3, v), (4, .pointer (some ⟨w1.heap.size, 0, none⟩)), (5, .int .i64 (((walkedF bs).left.length : Int) - ((j + 1 : Nat) : Int)))] a ∧ Fr (fun _ => False) w W ∧ Bx W w1.heap.size #[.slice (some ⟨S0, 0, none⟩) bs.length bs.length, .slice la (walkedF bs).left.length lc, .slice ba2 (walkedF bs).back.length bc2] 36 ∧ IntsB w1.heap.size W la (walkedF bs).left ∧ w1.heap.size < W.heap.size ∧ Ints (w1.heap.size + 1) W v ((walkedF bs).left.reverse.take j)) 0 (Nat.zero_le _) (fun a k => ⟨_, (by (repeat (refine Kn.cons k rfl ?_)); exact k.base), ff, bx2, hO, bx2.lt, Row.nil _ _ _ _ _⟩) ?_
  rintro j a wl hj ⟨v, k, ff, bx2, hO, hz, hV⟩
  refine TW.app (s := [(3, v), (4, .pointer (some ⟨w1.heap.size, 0, none⟩)), (5, .int .i64 (((walkedF bs).left.length : Int) - ((j + 1 : Nat) : Int)))]) ?_ k
  refine TW.seq ?_
  refine TW.sreg ?_
  refine WL.op rfl rfl rfl (Go.Proofs.Ytobibplilbchfaa.W.quiet_move rfl rfl) ?_
  refine WL.op rfl rfl rfl (Go.Proofs.Ytobibplilbchfaa.W.quiet_bin rfl rfl rfl (fun W => qb_geq_int W _ _ _ _)) ?_
  refine O.split (fun hbj => ?_) (fun hbj => ?_)
  · skip
    have hj2 : j < (walkedF bs).left.length := by have := of_decide_eq_true hbj; omega
    obtain ⟨i, hi⟩ : ∃ i : Nat, i = (walkedF bs).left.length - 1 - j := ⟨_, rfl⟩
    have hii : ((walkedF bs).left.length : Int) - ((j + 1 : Nat) : Int) = (i : Int) := by omega
    obtain ⟨g, o, rfl, hgz, hc⟩ := hO i (by omega)
    refine WL.nil ?_
    refine TW.cond rfl (fun _ => ?_) (fun hb => by cases hb)
    refine TW.skip ?_
    refine TW.seq ?_
    refine TW.block ?_
    refine TW.reg ?_
    refine WL.op rfl rfl rfl (Go.Proofs.Ytobibplilbchfaa.W.quiet_move rfl rfl) ?_
    refine WL.op rfl rfl rfl (Go.Proofs.Ytobibplilbchfaa.W.quiet_field rfl rfl (fun W => (qa_rushlightref16_Walk_1 W _ _))) ?_
    refine WL.ld rfl rfl rfl rfl rfl (ql_s_int _ _ _ _ _ (bx2.cell (j := 1) rfl)) ?_
    refine WL.op rfl rfl rfl (Go.Proofs.Ytobibplilbchfaa.W.quiet_move rfl rfl) ?_
    refine O.ixa rfl rfl rfl rfl rfl rfl (by rw [hii]; exact qi_s_int _ g o _ lc i (by omega)) ?_
    refine WL.ld rfl rfl rfl rfl rfl (ql_int _ _ _ hc) ?_
    refine O.bsl rfl rfl rfl rfl rfl (qv_s_int_1 _ _) ?_
    rw [hi]
    refine WL.append rfl rfl rfl rfl rfl rfl (Ints.app ((walkedF bs).left.getD ((walkedF bs).left.length - 1 - j) 0) _ hV (by omega) (by rw [List.length_take, List.length_reverse]; omega)) ?_
    rintro v2 wB ⟨hV2, hF2, _⟩
    replace bx2 := bx2.fr hF2 (fun e => by have := (Row.lt hV _ e).1; omega)
    replace hO := hO.fr hF2 (fun q h1 e => by have := (Row.lt hV q e).1; omega)
    replace ff := ff.trans' hF2 (fun q hq e => by have := (Row.lt hV q e).1; omega)
    replace hz := Nat.lt_of_lt_of_le hz hF2.size
    -- world wB
    refine WL.op rfl rfl rfl (Go.Proofs.Ytobibplilbchfaa.W.quiet_assign rfl rfl) ?_
    refine WL.end ?_
    refine Xw.nblk ?_
    refine Xw.nrm ?_
    refine TW.reg ?_
    refine WL.op rfl rfl rfl (Go.Proofs.Ytobibplilbchfaa.W.quiet_move rfl rfl) ?_
    refine WL.op rfl rfl rfl (Go.Proofs.Ytobibplilbchfaa.W.quiet_bin rfl rfl rfl (fun W => qb_sub_int W _ _ _ _ (by omega) (by omega))) ?_
    refine WL.op rfl rfl rfl (Go.Proofs.Ytobibplilbchfaa.W.quiet_assign rfl rfl) ?_
    refine WL.end ?_
    refine Xw.any (fun a k => ?_)
    refine ⟨j + 1, by omega, by omega, v2, ?_, ff, bx2, hO, hz, ?_⟩
    · refine Kn.cons k rfl ?_
      refine Kn.cons k rfl ?_
      refine Kn.cons k (by show _ = some (Value.int IntKind.i64 _); rw [show (((walkedF bs).left.length : Int) - ((j + 1 + 1 : Nat) : Int)) = ((walkedF bs).left.length : Int) - ((j + 1 : Nat) : Int) - 1 by omega]; rfl) ?_
      exact k.base
    · rw [List.take_add_one, List.getElem?_reverse hj2, List.getElem?_eq_getElem (by omega)]
      have e : (walkedF bs).left[(walkedF bs).left.length - 1 - j]'(by omega) = (walkedF bs).left.getD ((walkedF bs).left.length - 1 - j) 0 := by rw [List.getD_eq_getElem?_getD, List.getElem?_eq_getElem (by omega)]; rfl
      rw [e]
      exact hV2
  · skip
    refine WL.nil ?_
    refine TW.cond rfl (fun hb => by cases hb) (fun _ => ?_)
    refine TW.exit ?_
    refine Xw.thn (by simp) ?_
    refine Xw.thn (by simp) ?_
    refine Xw.hit ?_
    refine Xw.nrm ?_
    refine TW.sreg ?_
    refine WL.op rfl rfl rfl (Go.Proofs.Ytobibplilbchfaa.W.quiet_move rfl rfl) ?_
    refine WL.op rfl rfl rfl (Go.Proofs.Ytobibplilbchfaa.W.quiet_assign rfl rfl) ?_
    refine WL.nil ?_
    refine TW.rt ?_
    refine bodyw_ret rfl rfl ?_
    have hje : j = (walkedF bs).left.length := by have := of_decide_eq_false hbj; omega
    subst hje
    rw [List.take_of_length_le (by simp)] at hV
    exact ⟨_, rfl, Row.base hV (fun k hk => by have := (Row.lt hV k hk).1; omega), ff⟩
end Go.Proofs.Ytobibplilbchfaa
