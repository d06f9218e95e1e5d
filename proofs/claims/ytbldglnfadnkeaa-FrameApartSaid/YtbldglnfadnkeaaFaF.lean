/-
  Frames (layer 25): Lay of the document.
-/
import Derived.Test.YtbldglnfadnkeaaFaE
import Derived.Test.YtbldglnfadnkeaaWr
namespace Go.Proofs.Ytbldglnfadnkeaa
open Go.RowKit
set_option linter.unusedVariables false
set_option linter.unusedSimpArgs false
theorem qk_rushlightref25_Saved (w : World) (vs : Array Value) : (callFunc 18 vs).run Try.prog w = .ok (.enter 18 vs) w := by simp [go_sem]
theorem qk_rushlightref14_Place (w : World) (vs : Array Value) : (callFunc 19 vs).run Try.prog w = .ok (.enter 19 vs) w := by simp [go_sem]
theorem IntsIn.lt {B Z : Nat} {w : World} {a : Option Addr} {n c : Nat} {xs : List Int} (h : IntsIn B Z w (.slice a n c) xs) : ∀ g o, a = some ⟨g, o, none⟩ → B ≤ g ∧ g < Z := fun g o e => by
  subst e
  exact ⟨(h.1.lt g rfl).1, h.2 g rfl⟩
set_option maxRecDepth 100000 in
theorem r_lay (nm : ByteArray) (vd : Bool) (pr R kc : Int) (oa : Option Addr) (oc : Nat) (s : List Int) (qa : Option Addr) (qn qc : Nat) (ad : Option Addr) (c : Nat) (l : List (Int × Int)) (hl : l.length ≤ 1000) (hl2 : s.length ≤ 90) (hs : Slim s) (w : World) (hso : SlotsAt w oa s) (hse : SeatsAt w ad l) : Calls Try.prog 8 #[.agg #[.string nm, .bool vd, .int .i64 pr, .int .i64 R, .slice oa s.length oc, .slice qa qn qc], .slice ad l.length c, .int .i64 kc] w (LayP s l.length R kc (svd l 12) w) := by
  have ff := Fr.refl (fun _ => False) w
  refine calls_tw Try.func8 rfl rfl (Nat.le_of_ble_eq_true rfl) ?_
  refine TW.sreg ?_
  have lw1 := ff.size
  refine O.boxR rfl rfl rfl rfl rfl (qxR_api_Proc w _ _ _ _ _ _ _ _ _ _) ?_
  rintro wa1 ⟨fa1, bx1⟩
  replace ff := ff.trans fa1
  have lt2_bx1 := bx1.lt
  have lw2 := ff.size
  refine O.allocR rfl rfl rfl rfl (qzR_api_Frame wa1) ?_
  rintro wa2 ⟨fa2, bx2⟩
  replace bx1 := bx1.fr fa2 id
  replace ff := ff.trans fa2
  refine WL.op rfl rfl rfl (Go.Proofs.Ytbldglnfadnkeaa.W.quiet_assign rfl rfl) ?_
  refine WL.nil ?_
  refine TW.seq ?_
  refine TW.sreg ?_
  refine WL.op rfl rfl rfl (Go.Proofs.Ytbldglnfadnkeaa.W.quiet_move rfl rfl) ?_
  refine WL.op rfl rfl rfl (Go.Proofs.Ytbldglnfadnkeaa.W.quiet_bin rfl rfl rfl (fun W => qb_lss_int W _ _ _ _)) ?_
  refine O.split (fun hb1 => ?_) (fun hb1 => ?_)
  · skip
    refine WL.op rfl rfl rfl (Go.Proofs.Ytbldglnfadnkeaa.W.quiet_move rfl rfl) ?_
    refine WL.skip rfl rfl rfl ?_
    refine WL.skip rfl rfl rfl ?_
    refine WL.skip rfl rfl rfl ?_
    refine WL.skip rfl rfl rfl ?_
    refine WL.skip rfl rfl rfl ?_
    refine WL.op rfl rfl rfl (Go.Proofs.Ytbldglnfadnkeaa.W.quiet_pick rfl rfl rfl) ?_
    refine WL.nil ?_
    refine TW.cond rfl (fun _ => ?_) (fun hb => by cases hb)
    refine TW.sreg ?_
    refine O.bld rfl rfl rfl rfl rfl (bf_0 _) ?_
    refine O.storeR rfl rfl rfl rfl rfl (qsA_api_Frame wa2 _ _ _ _ _ _ _ _ _ _ _ _ _ bx2) ?_
    rintro wa3 ⟨fa3, bx2x⟩
    replace bx1 := bx1.fr fa3 (fun e => by omega)
    replace ff := ff.trans' fa3 (fun q hq e => by omega)
    clear bx2
    have bx2 := bx2x
    clear bx2x
    refine WL.op rfl rfl rfl (Go.Proofs.Ytbldglnfadnkeaa.W.quiet_assign rfl rfl) ?_
    refine WL.nil ?_
    refine TW.rt ?_
    refine Xw.thn (by simp) ?_
    refine O.retc2 rfl rfl rfl (run_loadVar_row _ _ _ 31 _ _ _ bx2 Try.underlying31 rfl (by kernel_rfl)) ?_
    exact lay_1 (.inl (of_decide_eq_true hb1)) ⟨rfl, ff⟩
  · skip
    refine WL.op rfl rfl rfl (Go.Proofs.Ytbldglnfadnkeaa.W.quiet_move rfl rfl) ?_
    refine WL.op rfl rfl rfl (Go.Proofs.Ytbldglnfadnkeaa.W.quiet_move rfl rfl) ?_
    refine O.len rfl rfl rfl rfl rfl (qn_s_api_Seat _ _ _ _) ?_
    refine WL.op rfl rfl rfl (Go.Proofs.Ytbldglnfadnkeaa.W.quiet_field rfl rfl (fun W => (qa_api_Proc_3 W _ _))) ?_
    refine WL.ld rfl rfl rfl rfl rfl (ql_int _ _ _ (bx1.cell (j := 3) rfl)) ?_
    refine WL.op rfl rfl rfl (Go.Proofs.Ytbldglnfadnkeaa.W.quiet_bin rfl rfl rfl (fun W => qb_neq_int W _ _ _ _)) ?_
    refine O.split (fun hb2 => ?_) (fun hb2 => ?_)
    · skip
      refine WL.op rfl rfl rfl (Go.Proofs.Ytbldglnfadnkeaa.W.quiet_pick rfl rfl rfl) ?_
      refine WL.nil ?_
      refine TW.cond rfl (fun _ => ?_) (fun hb => by cases hb)
      refine TW.sreg ?_
      refine O.bld rfl rfl rfl rfl rfl (bf_0 _) ?_
      refine O.storeR rfl rfl rfl rfl rfl (qsA_api_Frame wa2 _ _ _ _ _ _ _ _ _ _ _ _ _ bx2) ?_
      rintro wa4 ⟨fa4, bx2x⟩
      replace bx1 := bx1.fr fa4 (fun e => by omega)
      replace ff := ff.trans' fa4 (fun q hq e => by omega)
      clear bx2
      have bx2 := bx2x
      clear bx2x
      refine WL.op rfl rfl rfl (Go.Proofs.Ytbldglnfadnkeaa.W.quiet_assign rfl rfl) ?_
      refine WL.nil ?_
      refine TW.rt ?_
      refine Xw.thn (by simp) ?_
      refine O.retc2 rfl rfl rfl (run_loadVar_row _ _ _ 31 _ _ _ bx2 Try.underlying31 rfl (by kernel_rfl)) ?_
      exact lay_1 (.inr (by simpa using hb2)) ⟨rfl, ff⟩
    · skip
      have hn0 : ¬ kc < 0 := of_decide_eq_false hb1
      have hn3 : (l.length : Int) = R := by simpa using hb2
      have hn1 : ¬(kc < 0 ∨ (l.length : Int) ≠ R) := fun h => h.elim hn0 (fun q => q hn3)
      refine WL.op rfl rfl rfl (Go.Proofs.Ytbldglnfadnkeaa.W.quiet_pick rfl rfl rfl) ?_
      refine WL.nil ?_
      refine TW.cond rfl (fun hb => by cases hb) (fun _ => ?_)
      refine TW.skip ?_
      refine TW.seq ?_
      refine TW.sreg ?_
      refine WL.op rfl rfl rfl (Go.Proofs.Ytbldglnfadnkeaa.W.quiet_move rfl rfl) ?_
      refine WL.op rfl rfl rfl (Go.Proofs.Ytbldglnfadnkeaa.W.quiet_bin rfl rfl rfl (fun W => qb_gtr_int W _ _ _ _)) ?_
      refine O.split (fun hb3 => ?_) (fun hb3 => ?_)
      · skip
        refine WL.nil ?_
        refine TW.cond rfl (fun _ => ?_) (fun hb => by cases hb)
        refine TW.sreg ?_
        refine O.bld rfl rfl rfl rfl rfl (bf_0 _) ?_
        refine O.storeR rfl rfl rfl rfl rfl (qsA_api_Frame wa2 _ _ _ _ _ _ _ _ _ _ _ _ _ bx2) ?_
        rintro wa5 ⟨fa5, bx2x⟩
        replace bx1 := bx1.fr fa5 (fun e => by omega)
        replace ff := ff.trans' fa5 (fun q hq e => by omega)
        clear bx2
        have bx2 := bx2x
        clear bx2x
        refine WL.op rfl rfl rfl (Go.Proofs.Ytbldglnfadnkeaa.W.quiet_assign rfl rfl) ?_
        refine WL.nil ?_
        refine TW.rt ?_
        refine Xw.thn (by simp) ?_
        refine O.retc2 rfl rfl rfl (run_loadVar_row _ _ _ 31 _ _ _ bx2 Try.underlying31 rfl (by kernel_rfl)) ?_
        exact lay_2 hn1 (.inl (of_decide_eq_true hb3)) ⟨rfl, ff⟩
      · skip
        have hk0 : 0 ≤ kc := by have := of_decide_eq_false hb1; omega
        have hk2 : kc ≤ 2000 := by have := of_decide_eq_false hb3; omega
        refine WL.nil ?_
        refine TW.cond rfl (fun hb => by cases hb) (fun _ => ?_)
        refine TW.skip ?_
        refine TW.sreg ?_
        refine WL.op rfl rfl rfl (Go.Proofs.Ytbldglnfadnkeaa.W.quiet_move rfl rfl) ?_
        have ltg2 := bx2.lt
        refine WL.call (hr := t_saved ad c l hl _ (hse.fr ff)) rfl rfl rfl rfl rfl (fun W => qk_rushlightref25_Saved W _) ?_
        rintro e w8 ⟨v8, rfl, hI8, f8⟩
        refine ⟨_, rfl, ?_⟩
        replace bx1 := bx1.fr f8 id
        replace bx2 := bx2.fr f8 id
        replace ff := ff.trans f8
        have hG := hI8.in
        obtain ⟨ga, gc, rfl, _⟩ := hI8.at
        refine O.bld rfl rfl rfl rfl rfl (bf_1 _ _ _ _) ?_
        have hgl := svd_le l 12
        have lt3_bx1 := bx1.lt
        have lt3_bx2 := bx2.lt
        have lw3 := ff.size
        refine O.allocR rfl rfl rfl rfl (qzR_api_Frame w8) ?_
        rintro wa6 ⟨fa6, bx3⟩
        replace bx1 := bx1.fr fa6 id
        replace bx2 := bx2.fr fa6 id
        replace hG := hG.fr fa6 (fun q h1 h2 => id)
        replace ff := ff.trans fa6
        refine O.storeR rfl rfl rfl rfl rfl (qsA_api_Frame wa6 _ _ _ _ _ _ _ _ _ _ _ _ _ bx3) ?_
        rintro wa7 ⟨fa7, bx3x⟩
        replace bx1 := bx1.fr fa7 (fun e => by omega)
        replace bx2 := bx2.fr fa7 (fun e => by omega)
        replace hG := hG.fr fa7 (fun q h1 h2 e => by omega)
        replace ff := ff.trans' fa7 (fun q hq e => by omega)
        clear bx3
        have bx3 := bx3x
        clear bx3x
        refine WL.nil ?_
        refine TW.sreg ?_
        refine WL.op rfl rfl rfl (Go.Proofs.Ytbldglnfadnkeaa.W.quiet_field rfl rfl (fun W => (qa_api_Frame_1 W _ _))) ?_
        refine WL.ld rfl rfl rfl rfl rfl (ql_s_int _ _ _ _ _ (bx3.cell (j := 1) rfl)) ?_
        refine O.len rfl rfl rfl rfl rfl (qn_s_int _ _ _ _) ?_
        refine WL.op rfl rfl rfl (Go.Proofs.Ytbldglnfadnkeaa.W.quiet_bin rfl rfl rfl (fun W => qb_mul_int W _ _ _ _ (by omega) (by omega))) ?_
        refine WL.op rfl rfl rfl (Go.Proofs.Ytbldglnfadnkeaa.W.quiet_bin rfl rfl rfl (fun W => qb_add_int W _ _ _ _ (by omega) (by omega))) ?_
        refine WL.op rfl rfl rfl (Go.Proofs.Ytbldglnfadnkeaa.W.quiet_field rfl rfl (fun W => (qa_api_Frame_2 W _ _))) ?_
        refine O.storeR rfl rfl rfl rfl rfl (qsF_int wa7 _ 2 _ _ _ _ bx3 rfl) ?_
        rintro wa8 ⟨fa8, bx3x⟩
        replace bx1 := bx1.fr fa8 (fun e => by omega)
        replace bx2 := bx2.fr fa8 (fun e => by omega)
        replace hG := hG.fr fa8 (fun q h1 h2 e => by omega)
        replace ff := ff.trans' fa8 (fun q hq e => by omega)
        clear bx3
        have bx3 := bx3x
        clear bx3x
        refine WL.nil ?_
        refine TW.sreg ?_
        refine WL.op rfl rfl rfl (Go.Proofs.Ytbldglnfadnkeaa.W.quiet_field rfl rfl (fun W => (qa_api_Proc_4 W _ _))) ?_
        refine WL.ld rfl rfl rfl rfl rfl (ql_s_api_Slot _ _ _ _ _ (bx1.cell (j := 4) rfl)) ?_
        have ltp3 := bx3.lt
        refine WL.call (hr := t_rplace oa oc s hl2 hs _ (hso.fr ff)) rfl rfl rfl rfl rfl (fun W => qk_rushlightref14_Place W _) ?_
        rintro e w11 ⟨v11, rfl, hI11, f11⟩
        refine ⟨_, rfl, ?_⟩
        replace bx1 := bx1.fr f11 id
        replace bx2 := bx2.fr f11 id
        replace bx3 := bx3.fr f11 id
        replace hG := hG.fr f11 (fun q h1 h2 => id)
        replace ff := ff.trans f11
        have hP := hI11.in
        obtain ⟨pa, pc, rfl, _⟩ := hI11.at
        have hoi := offs_in hs s.length (Nat.le_refl _)
        have hoN := offL_len s s.length
        refine WL.op rfl rfl rfl (Go.Proofs.Ytbldglnfadnkeaa.W.quiet_move rfl rfl) ?_
        refine O.ext rfl rfl rfl rfl rfl rfl ?_
        refine O.ext rfl rfl rfl rfl rfl rfl ?_
        refine WL.op rfl rfl rfl (Go.Proofs.Ytbldglnfadnkeaa.W.quiet_assign rfl rfl) ?_
        refine WL.op rfl rfl rfl (Go.Proofs.Ytbldglnfadnkeaa.W.quiet_assign rfl rfl) ?_
        refine WL.nil ?_
        refine TW.sreg ?_
        refine WL.op rfl rfl rfl (Go.Proofs.Ytbldglnfadnkeaa.W.quiet_field rfl rfl (fun W => (qa_api_Frame_2 W _ _))) ?_
        refine WL.ld rfl rfl rfl rfl rfl (ql_int _ _ _ (bx3.cell (j := 2) rfl)) ?_
        refine WL.op rfl rfl rfl (Go.Proofs.Ytbldglnfadnkeaa.W.quiet_move rfl rfl) ?_
        refine WL.op rfl rfl rfl (Go.Proofs.Ytbldglnfadnkeaa.W.quiet_bin rfl rfl rfl (fun W => qb_mul_int W _ _ _ _ (by omega) (by omega))) ?_
        refine WL.op rfl rfl rfl (Go.Proofs.Ytbldglnfadnkeaa.W.quiet_bin rfl rfl rfl (fun W => qb_add_int W _ _ _ _ (by omega) (by omega))) ?_
        generalize hFF : (4 + 4 * ((svd l 12).length : Int) + 4 * kc) = F at *
        have lo2 := bx2.lt
        have lo3 := bx3.lt
        refine WL.op rfl rfl rfl (Go.Proofs.Ytbldglnfadnkeaa.W.quiet_assign rfl rfl) ?_
        refine WL.nil ?_
        refine TW.seq ?_
        refine TW.sreg ?_
        refine WL.op rfl rfl rfl (Go.Proofs.Ytbldglnfadnkeaa.W.quiet_assign rfl rfl) ?_
        refine WL.nil ?_
        refine TW.block ?_
        refine O.loopG (n := (offL s s.length).length) (fun a _ => (intOf (a.tmps.getD 12 undef)).toNat) (fun j a W => ∃ (v : Value), Kn Try.f8.ntmps [(6, .pointer (some ⟨wa1.heap.size, 0, none⟩)), (8, .pointer (some ⟨w8.heap.size, 0, none⟩)), (9, .slice pa (offL s s.length).length pc), (10, .int .i64 (offs s s.length)), (11, .int .i64 F), (12, .int .i64 (j : Int))] a ∧ Fr (fun _ => False) w W ∧ Bx W wa1.heap.size #[.int .i64 0, .slice none 0 0, .int .i64 0, .slice none 0 0] 31 ∧ Bx W w8.heap.size #[.int .i64 0, .slice ga (svd l 12).length gc, .int .i64 (4 + 4 * ((svd l 12).length : Int)), v] 31 ∧ IntsIn wa2.heap.size w8.heap.size W (.slice ga (svd l 12).length gc) (svd l 12) ∧ IntsIn wa8.heap.size w11.heap.size W (.slice pa (offL s s.length).length pc) (offL s s.length) ∧ w11.heap.size ≤ W.heap.size ∧ Ints w11.heap.size W v (obsL s F j)) (fun j a W h => by obtain ⟨_, h⟩ := h; exact O.slotv h.1 rfl) 0 (Nat.zero_le _) (fun a k => ⟨.slice none 0 0, (by (repeat (refine Kn.cons k rfl ?_)); exact k.base), ff, bx2, bx3, hG, hP, Nat.le_refl _, Ints.nil _ _⟩) ?_
        rintro j a wo hj ⟨v, k, ff, bx2, bx3, hG, hP, hz, hI⟩
        refine TW.app (s := [(6, .pointer (some ⟨wa1.heap.size, 0, none⟩)), (8, .pointer (some ⟨w8.heap.size, 0, none⟩)), (9, .slice pa (offL s s.length).length pc), (10, .int .i64 (offs s s.length)), (11, .int .i64 F), (12, .int .i64 (j : Int))]) ?_ k
        refine TW.seq ?_
        refine TW.sreg ?_
        refine WL.op rfl rfl rfl (Go.Proofs.Ytbldglnfadnkeaa.W.quiet_move rfl rfl) ?_
        refine WL.op rfl rfl rfl (Go.Proofs.Ytbldglnfadnkeaa.W.quiet_move rfl rfl) ?_
        refine O.len rfl rfl rfl rfl rfl (qn_s_int _ _ _ _) ?_
        refine WL.op rfl rfl rfl (Go.Proofs.Ytbldglnfadnkeaa.W.quiet_bin rfl rfl rfl (fun W => qb_lss_int W _ _ _ _)) ?_
        refine O.split (fun hb6 => ?_) (fun hb6 => ?_)
        · skip
          have hj2 : j < (offL s s.length).length := by have := of_decide_eq_true hb6; omega
          obtain ⟨a2, c2, e2, hat⟩ := hP.1.at
          cases e2
          obtain ⟨g, o, rfl, hc⟩ := hat j hj2
          have hg3 := hP.lt
          rw [offL_getD s j (by omega)] at hc
          obtain ⟨va, vc, rfl, _⟩ := hI.form
          have hoj := offs_in hs j (by omega)
          have hob := obsL_len s F j
          have hvb0 := hI.lt
          have hng : ¬(g = w8.heap.size ∨ (Value.slice va (obsL s F j).length vc).ownBlock = some g) := fun e => by obtain ⟨h1, h2⟩ := hg3 g o rfl; rcases e with e | e; omega; have := hvb0 _ e; omega
          refine WL.nil ?_
          refine TW.cond rfl (fun _ => ?_) (fun hb => by cases hb)
          refine TW.skip ?_
          refine TW.seq ?_
          refine TW.block ?_
          refine TW.regH (fun W => Fr (fun q => q = w8.heap.size ∨ (Value.slice va (obsL s F j).length vc).ownBlock = some q) wo W) (by kernel_rfl) ?_
          have fd : Fr (fun _ => False) wo wo.drew := (Fr.refl _ _).drewN 1
          have HW : Fr (fun q => q = w8.heap.size ∨ (Value.slice va (obsL s F j).length vc).ownBlock = some q) wo wo.drew := (Fr.refl _ _).drewN 1
          replace bx2 := bx2.fr fd id
          replace bx3 := bx3.fr fd id
          replace hG := hG.fr fd (fun q h1 h2 => id)
          replace hP := hP.fr fd (fun q h1 h2 => id)
          replace hz := Nat.le_trans hz fd.size
          replace hI := hI.fr fd (fun q h1 => id)
          replace ff := ff.trans fd
          have hvb := hI.lt
          generalize hV : wo.drew = V1 at *
          clear hV
          refine WH.take 0 rfl (by kernel_rfl) (by kernel_rfl) (by kernel_rfl) (fun _ _ _ _ _ h => h) rfl rfl rfl HW (RH.field rfl rfl (fun W => qa_api_Frame_3 W _ _)) ?_
          refine WH.take 2 rfl (by kernel_rfl) (by kernel_rfl) (by kernel_rfl) (fun _ _ _ _ _ h => h) rfl rfl rfl HW (RH.move rfl rfl) ?_
          refine WH.take 3 rfl (by kernel_rfl) (by kernel_rfl) (by kernel_rfl) (fun _ _ _ _ _ h => h) rfl rfl rfl HW (RH.move rfl rfl) ?_
          refine WH.take 4 rfl (by kernel_rfl) (by kernel_rfl) (by kernel_rfl) (fun _ _ _ _ _ h => h) rfl rfl rfl HW (RH.move rfl rfl) ?_
          refine WH.take 5 rfl (by kernel_rfl) (by kernel_rfl) (by kernel_rfl) (fun _ _ _ _ _ h => h) rfl rfl rfl HW (RH.index rfl rfl rfl (fun W => (qi_s_int _ _ _ _ _ _ (by omega)))) ?_
          refine WH.take 6 rfl (by kernel_rfl) (by kernel_rfl) (by kernel_rfl) (fun _ _ _ _ _ h => h) rfl rfl rfl HW (RH.load rfl rfl (fun W hW => ql_int _ _ _ (hW.cell hc hng))) ?_
          refine WH.take 7 rfl (by kernel_rfl) (by kernel_rfl) (by kernel_rfl) (fun _ _ _ _ _ h => h) rfl rfl rfl HW (RH.bin rfl rfl rfl (fun W => qb_add_int W _ _ _ _ (by omega) (by omega))) ?_
          refine WH.two 1 8 (by kernel_rfl) rfl rfl ?_ ?_ 
          · skip
            refine WL.ld rfl rfl rfl rfl rfl (ql_s_int _ _ _ _ _ (bx3.cell (j := 3) rfl)) ?_
            refine WL.fin HW ?_
            refine WH.one 8 (by kernel_rfl) rfl ?_ 
            refine O.bsl rfl rfl rfl rfl rfl (qv_s_int_1 _ _) ?_
            refine WL.fin (fr_al HW _) ?_
            refine WH.one 9 (by kernel_rfl) rfl ?_ 
            have hI3 := hI
            clear hI
            have hz2 := hz
            refine WL.append rfl rfl rfl rfl rfl rfl (Ints.appO _ _ hI3 hz (by omega)) ?_
            rintro v2 w20 ⟨hI2, hF2⟩
            rw [← obsL_succ] at hI2
            obtain ⟨va2, vc2, rfl, _⟩ := hI2.form
            -- world w20
            replace bx2 := bx2.fr hF2 (fun e => by have := hvb _ e; omega)
            replace bx3 := bx3.fr hF2 (fun e => by have := hvb _ e; omega)
            replace hG := hG.fr hF2 (fun q h1 h2 e => by first | omega | (have := hvb _ e; omega))
            replace hP := hP.fr hF2 (fun q h1 h2 e => by first | omega | (have := hvb _ e; omega))
            replace hz := Nat.le_trans hz hF2.size
            replace HW := HW.trans' hF2 (fun q hq e => by first | exact e | exact Or.inl e | exact Or.inr e | omega)
            replace ff := ff.trans' hF2 (fun q hq e => by have := hvb _ e; omega)
            refine WL.fin HW ?_
            refine WH.take 10 rfl (by kernel_rfl) (by kernel_rfl) (by kernel_rfl) (fun _ _ _ _ _ h => h) rfl rfl rfl HW (RH.field rfl rfl (fun W => qa_api_Frame_3 W _ _)) ?_
            refine WH.one 11 (by kernel_rfl) rfl ?_ 
            refine O.storeR rfl rfl rfl rfl rfl (qsF_s_int w20 _ 3 _ _ _ _ _ _ bx3 rfl) ?_
            rintro wa9 ⟨fa9, bx3x⟩
            replace bx2 := bx2.fr fa9 (fun e => by omega)
            replace hG := hG.fr fa9 (fun q h1 h2 e => by first | omega | (have := hvb _ e; omega))
            replace hP := hP.fr fa9 (fun q h1 h2 e => by first | omega | (have := hvb _ e; omega))
            replace hz := Nat.le_trans hz fa9.size
            replace HW := HW.trans' fa9 (fun q hq e => by first | exact e | exact Or.inl e | exact Or.inr e | omega)
            replace hI2 := hI2.fr fa9 (fun q h1 e => by omega)
            replace ff := ff.trans' fa9 (fun q hq e => by omega)
            clear bx3
            have bx3 := bx3x
            clear bx3x
            refine WL.fin HW ?_
            refine WH.end (by kernel_rfl) ?_
            refine Xw.nblk ?_
            refine Xw.nrm ?_
            refine TW.reg ?_
            refine WL.op rfl rfl rfl (Go.Proofs.Ytbldglnfadnkeaa.W.quiet_move rfl rfl) ?_
            refine WL.op rfl rfl rfl (Go.Proofs.Ytbldglnfadnkeaa.W.quiet_bin rfl rfl rfl (fun W => qb_add_int W _ _ _ _ (by omega) (by omega))) ?_
            refine WL.op rfl rfl rfl (Go.Proofs.Ytbldglnfadnkeaa.W.quiet_assign rfl rfl) ?_
            refine WL.end ?_
            refine Xw.any (fun a k => ?_)
            exact ⟨j + 1, by omega, by omega, _, (by (repeat (refine Kn.cons k rfl ?_)); exact k.base), ff, bx2, bx3, hG, hP, hz, hI2⟩
          · skip
            refine O.bsl rfl rfl rfl rfl rfl (qv_s_int_1 _ _) ?_
            refine WL.fin (fr_al HW _) ?_
            refine WH.one 1 (by kernel_rfl) rfl ?_ 
            refine WL.ld rfl rfl rfl rfl rfl (ql_s_int _ _ _ _ _ ((bx3.fr (fr_al (Fr.refl (fun _ => False) _) _) id).cell (j := 3) rfl)) ?_
            refine WL.fin (fr_al HW _) ?_
            refine WH.one 9 (by kernel_rfl) rfl ?_ 
            have hI3 := hI
            clear hI
            have hz2 := hz
            refine WL.append rfl rfl rfl rfl rfl rfl (Ints.appO _ _ hI3 hz (by omega)) ?_
            rintro v2 w20 ⟨hI2, hF2⟩
            rw [← obsL_succ] at hI2
            obtain ⟨va2, vc2, rfl, _⟩ := hI2.form
            -- world w20
            replace bx2 := bx2.fr hF2 (fun e => by have := hvb _ e; omega)
            replace bx3 := bx3.fr hF2 (fun e => by have := hvb _ e; omega)
            replace hG := hG.fr hF2 (fun q h1 h2 e => by first | omega | (have := hvb _ e; omega))
            replace hP := hP.fr hF2 (fun q h1 h2 e => by first | omega | (have := hvb _ e; omega))
            replace hz := Nat.le_trans hz hF2.size
            replace HW := HW.trans' hF2 (fun q hq e => by first | exact e | exact Or.inl e | exact Or.inr e | omega)
            replace ff := ff.trans' hF2 (fun q hq e => by have := hvb _ e; omega)
            refine WL.fin HW ?_
            refine WH.take 10 rfl (by kernel_rfl) (by kernel_rfl) (by kernel_rfl) (fun _ _ _ _ _ h => h) rfl rfl rfl HW (RH.field rfl rfl (fun W => qa_api_Frame_3 W _ _)) ?_
            refine WH.one 11 (by kernel_rfl) rfl ?_ 
            refine O.storeR rfl rfl rfl rfl rfl (qsF_s_int w20 _ 3 _ _ _ _ _ _ bx3 rfl) ?_
            rintro wa10 ⟨fa10, bx3x⟩
            replace bx2 := bx2.fr fa10 (fun e => by omega)
            replace hG := hG.fr fa10 (fun q h1 h2 e => by first | omega | (have := hvb _ e; omega))
            replace hP := hP.fr fa10 (fun q h1 h2 e => by first | omega | (have := hvb _ e; omega))
            replace hz := Nat.le_trans hz fa10.size
            replace HW := HW.trans' fa10 (fun q hq e => by first | exact e | exact Or.inl e | exact Or.inr e | omega)
            replace hI2 := hI2.fr fa10 (fun q h1 e => by omega)
            replace ff := ff.trans' fa10 (fun q hq e => by omega)
            clear bx3
            have bx3 := bx3x
            clear bx3x
            refine WL.fin HW ?_
            refine WH.end (by kernel_rfl) ?_
            refine Xw.nblk ?_
            refine Xw.nrm ?_
            refine TW.reg ?_
            refine WL.op rfl rfl rfl (Go.Proofs.Ytbldglnfadnkeaa.W.quiet_move rfl rfl) ?_
            refine WL.op rfl rfl rfl (Go.Proofs.Ytbldglnfadnkeaa.W.quiet_bin rfl rfl rfl (fun W => qb_add_int W _ _ _ _ (by omega) (by omega))) ?_
            refine WL.op rfl rfl rfl (Go.Proofs.Ytbldglnfadnkeaa.W.quiet_assign rfl rfl) ?_
            refine WL.end ?_
            refine Xw.any (fun a k => ?_)
            exact ⟨j + 1, by omega, by omega, _, (by (repeat (refine Kn.cons k rfl ?_)); exact k.base), ff, bx2, bx3, hG, hP, hz, hI2⟩
        · skip
          have hje : j = s.length := by have := of_decide_eq_false hb6; omega
          subst hje
          obtain ⟨va, vc, rfl, _⟩ := hI.form
          have hFe : fstI (svd l 12) kc = F := hFF
          refine WL.nil ?_
          refine TW.cond rfl (fun hb => by cases hb) (fun _ => ?_)
          refine TW.exit ?_
          refine Xw.thn (by simp) ?_
          refine Xw.thn (by simp) ?_
          refine Xw.hit ?_
          refine Xw.nrm ?_
          refine TW.sreg ?_
          refine WL.op rfl rfl rfl (Go.Proofs.Ytbldglnfadnkeaa.W.quiet_move rfl rfl) ?_
          refine WL.op rfl rfl rfl (Go.Proofs.Ytbldglnfadnkeaa.W.quiet_move rfl rfl) ?_
          refine WL.op rfl rfl rfl (Go.Proofs.Ytbldglnfadnkeaa.W.quiet_bin rfl rfl rfl (fun W => qb_add_int W _ _ _ _ (by omega) (by omega))) ?_
          refine WL.op rfl rfl rfl (Go.Proofs.Ytbldglnfadnkeaa.W.quiet_field rfl rfl (fun W => (qa_api_Frame_0 W _ _))) ?_
          refine O.storeR rfl rfl rfl rfl rfl (qsF_int wo _ 0 _ _ _ _ bx3 rfl) ?_
          rintro wa11 ⟨fa11, bx3x⟩
          replace bx2 := bx2.fr fa11 (fun e => by omega)
          replace hG := hG.fr fa11 (fun q h1 h2 e => by first | omega | (have := hvb _ e; omega))
          replace hP := hP.fr fa11 (fun q h1 h2 e => by first | omega | (have := hvb _ e; omega))
          replace hz := Nat.le_trans hz fa11.size
          replace hI := hI.fr fa11 (fun q h1 e => by omega)
          replace ff := ff.trans' fa11 (fun q hq e => by omega)
          clear bx3
          have bx3 := bx3x
          clear bx3x
          refine WL.nil ?_
          refine TW.seq ?_
          refine TW.sreg ?_
          refine WL.op rfl rfl rfl (Go.Proofs.Ytbldglnfadnkeaa.W.quiet_field rfl rfl (fun W => (qa_api_Frame_0 W _ _))) ?_
          refine WL.ld rfl rfl rfl rfl rfl (ql_int _ _ _ (bx3.cell (j := 0) rfl)) ?_
          refine WL.op rfl rfl rfl (Go.Proofs.Ytbldglnfadnkeaa.W.quiet_bin rfl rfl rfl (fun W => qb_gtr_int W _ _ _ _)) ?_
          refine O.split (fun hb7 => ?_) (fun hb7 => ?_)
          · skip
            refine WL.nil ?_
            refine TW.cond rfl (fun _ => ?_) (fun hb => by cases hb)
            refine TW.sreg ?_
            refine O.bld rfl rfl rfl rfl rfl (bf_0 _) ?_
            refine O.storeR rfl rfl rfl rfl rfl (qsA_api_Frame wa11 _ _ _ _ _ _ _ _ _ _ _ _ _ bx2) ?_
            rintro wa12 ⟨fa12, bx2x⟩
            replace bx3 := bx3.fr fa12 (fun e => by omega)
            replace hG := hG.fr fa12 (fun q h1 h2 e => by first | omega | (have := hvb _ e; omega))
            replace hP := hP.fr fa12 (fun q h1 h2 e => by first | omega | (have := hvb _ e; omega))
            replace hz := Nat.le_trans hz fa12.size
            replace hI := hI.fr fa12 (fun q h1 e => by omega)
            replace ff := ff.trans' fa12 (fun q hq e => by omega)
            clear bx2
            have bx2 := bx2x
            clear bx2x
            refine WL.op rfl rfl rfl (Go.Proofs.Ytbldglnfadnkeaa.W.quiet_assign rfl rfl) ?_
            refine WL.nil ?_
            refine TW.rt ?_
            refine Xw.thn (by simp) ?_
            refine O.retc2 rfl rfl rfl (run_loadVar_row _ _ _ 31 _ _ _ bx2 Try.underlying31 rfl (by kernel_rfl)) ?_
            exact lay_2 hn1 (.inr (by rw [hFe]; exact of_decide_eq_true hb7)) ⟨rfl, ff⟩
          · skip
            refine WL.nil ?_
            refine TW.cond rfl (fun hb => by cases hb) (fun _ => ?_)
            refine TW.skip ?_
            refine TW.sreg ?_
            refine WL.ld rfl rfl rfl rfl rfl (qlB_api_Frame _ _ _ _ _ _ _ _ _ _ _ bx3) ?_
            refine O.storeR rfl rfl rfl rfl rfl (qsA_api_Frame wa11 _ _ _ _ _ _ _ _ _ _ _ _ _ bx2) ?_
            rintro wa13 ⟨fa13, bx2x⟩
            replace bx3 := bx3.fr fa13 (fun e => by omega)
            replace hG := hG.fr fa13 (fun q h1 h2 e => by first | omega | (have := hvb _ e; omega))
            replace hP := hP.fr fa13 (fun q h1 h2 e => by first | omega | (have := hvb _ e; omega))
            replace hz := Nat.le_trans hz fa13.size
            replace hI := hI.fr fa13 (fun q h1 e => by omega)
            replace ff := ff.trans' fa13 (fun q hq e => by omega)
            clear bx2
            have bx2 := bx2x
            clear bx2x
            refine WL.op rfl rfl rfl (Go.Proofs.Ytbldglnfadnkeaa.W.quiet_assign rfl rfl) ?_
            refine WL.nil ?_
            refine TW.rt ?_
            refine O.retc2 rfl rfl rfl (run_loadVar_row _ _ _ 31 _ _ _ bx2 Try.underlying31 rfl (by kernel_rfl)) ?_
            obtain ⟨_, _, e5, hat5⟩ := hG.1.at
            cases e5
            obtain ⟨_, _, e6, hat6⟩ := hI.at
            cases e6
            have hn2 : ¬ 2000 < F + offs s s.length := of_decide_eq_false hb7
            refine lay_3 hn1 (by rw [hFe]; omega) ⟨ga, gc, va, vc, ?_, hat5, (by rw [hFe]; exact hat6), ff⟩
            rw [hFe]
end Go.Proofs.Ytbldglnfadnkeaa
