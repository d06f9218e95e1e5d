/-
  Power (layer 33): the document's ticks.
-/
import Derived.Test.YtdkjeiemjnmdlaaPwE
namespace Go.Proofs.Ytdkjeiemjnmdlaa
open Go.RowKit
set_option linter.unusedVariables false
set_option linter.unusedSimpArgs false
set_option linter.unnecessarySimpa false
theorem qzR_rushlightref33_Run (w : World) : ∃ w', (Instr.alloc 32 true (.tuple #[])).run Try.prog w = .ok (.pointer (some ⟨w.heap.size, 0, none⟩)) w' ∧ (Fr (fun _ => False) w w' ∧ Bx w' w.heap.size #[.slice none 0 0, .int .i64 0] 32) := ⟨w.alloc (.cells #[.slice none 0 0, .int .i64 0] 32), by simp [go_sem], fr_al (Fr.refl _ _) _, Bx.new _ _ _⟩
theorem qa_rushlightref33_Run_1 (w : World) (b o : Nat) : (Instr.fieldAt 32 (.pointer (some ⟨b, o, none⟩)) 1).run Try.prog w = .ok (.pointer (some ⟨b, o + 1, none⟩)) w := by simp [go_sem]
theorem qa_rushlightref33_Run_0 (w : World) (b o : Nat) : (Instr.fieldAt 32 (.pointer (some ⟨b, o, none⟩)) 0).run Try.prog w = .ok (.pointer (some ⟨b, o, none⟩)) w := by simp [go_sem]
theorem qb_eql_int (w : World) (x y : Operand) (m n : Int) : ((do eqGuard .eql 3 x y (.int .i64 m) (.int .i64 n); binOp .eql 3 (.int .i64 m) (.int .i64 n) : Sem Value)).run Try.prog w = .ok (.bool (m == n)) w := by simp [go_sem]
theorem qlB_rushlightref33_Run (w : World) (g : Nat) (up0 : Option Addr) (uk0 ul0 : Nat) (um1 : Int) (tt : TypeId) (h : Bx w g #[.slice up0 uk0 ul0, .int .i64 um1] tt) : (Instr.loadAt 32 (.pointer (some ⟨g, 0, none⟩))).run Try.prog w = .ok (.agg #[.slice up0 uk0 ul0, .int .i64 um1]) w := by
  have c0 := h.cell (j := 0) rfl
  have c1 := h.cell (j := 1) rfl
  simp [go_sem, c0, c1]
theorem qsA_rushlightref33_Run (w : World) (g : Nat) (z0 z1 : Value) (up0 : Option Addr) (uk0 ul0 : Nat) (um1 : Int) (h : Bx w g #[z0, z1] 32) : ∃ w', (Instr.storeAt 32 (.pointer (some ⟨g, 0, none⟩)) (.agg #[.slice up0 uk0 ul0, .int .i64 um1])).run Try.prog w = .ok () w' ∧ (Fr (fun q => q = g) w w' ∧ Bx w' g #[.slice up0 uk0 ul0, .int .i64 um1] 32) := h.store 32 #[.slice up0 uk0 ul0, .int .i64 um1] (by kernel_rfl) rfl (by simp [Value.oneCell'])
theorem tick_on' {room lim en : Int} {s : Pw} (h : s.on = true) : Pw.tick room lim s en = ⟨min (s.lv + en) room - 1, decide (0 < min (s.lv + en) room - 1), s.ex + 1, s.fl⟩ := by unfold Pw.tick; rw [if_pos h]
theorem tick_sw1 {room lim en : Int} {s : Pw} (h : s.on = false) (h2 : lim ≤ min (s.lv + en) room) (h3 : 0 < s.ex) : Pw.tick room lim s en = ⟨min (s.lv + en) room - 1, decide (0 < min (s.lv + en) room - 1), s.ex + 1, s.fl ++ [s.ex]⟩ := by unfold Pw.tick Pw.fell; rw [if_neg (by simp [h]), if_pos h2, if_pos h3]
theorem tick_sw2 {room lim en : Int} {s : Pw} (h : s.on = false) (h2 : lim ≤ min (s.lv + en) room) (h3 : ¬0 < s.ex) : Pw.tick room lim s en = ⟨min (s.lv + en) room - 1, decide (0 < min (s.lv + en) room - 1), s.ex + 1, s.fl⟩ := by unfold Pw.tick Pw.fell; rw [if_neg (by simp [h]), if_pos h2, if_neg h3]
theorem tick_off' {room lim en : Int} {s : Pw} (h : s.on = false) (h2 : ¬lim ≤ min (s.lv + en) room) : Pw.tick room lim s en = ⟨min (s.lv + en) room, false, s.ex, s.fl⟩ := by unfold Pw.tick; rw [if_neg (by simp [h]), if_neg h2]
theorem mk_on {s : Pw} {a b : Int} {f : List Int} (h : s = ⟨a, decide (0 < a), b, f⟩) (ha : 0 ≤ a) : (a = 0 → s = ⟨a, false, b, f⟩) ∧ (a ≠ 0 → s = ⟨a, true, b, f⟩) := ⟨fun q => by rw [h, decide_eq_false (by omega)], fun q => by rw [h, decide_eq_true (by omega)]⟩
theorem runS (room lim : Int) (ev : Nat → Int) (j : Nat) : Pw.run room lim ev (List.range (j + 1)) = (Pw.run room lim ev (List.range j)).tick room lim (ev j) := by rw [List.range_succ, run_app]
theorem mod_of0 : True := trivial
set_option maxRecDepth 100000 in
theorem t_rgo (oa : Option Addr) (c : Nat) (s : List Int) (room lim tm : Int) (htm : tm ≤ 1000000) (hR : SupOk s room lim) (w : World) (hat : IntsAt w oa s) : Calls Try.prog 11 #[.slice oa s.length c, .int .i64 room, .int .i64 lim, .int .i64 tm] w fun e w' => ∃ v, e = .returned (.agg #[v, .int .i64 (stP room lim s (tmN tm)).ex]) ∧ Ints w.heap.size w' v (stP room lim s (tmN tm)).fl ∧ Fr (fun _ => False) w w' := by
  have ff := Fr.refl (fun _ => False) w
  refine calls_tw Try.func11 rfl rfl (Nat.le_of_ble_eq_true rfl) ?_
  refine TW.sreg ?_
  have lw1 := ff.size
  refine O.allocR rfl rfl rfl rfl (qzR_rushlightref33_Run w) ?_
  rintro wa1 ⟨fa1, bx1⟩
  replace ff := ff.trans fa1
  refine WL.nil ?_
  refine TW.sreg ?_
  have lt2_bx1 := bx1.lt
  have lw2 := ff.size
  refine O.allocR rfl rfl rfl rfl (qzR_rushlightref33_Run wa1) ?_
  rintro wa2 ⟨fa2, bx2⟩
  replace bx1 := bx1.fr fa2 id
  replace ff := ff.trans fa2
  have hb2 := bx2.lt
  refine WL.nil ?_
  refine TW.sreg ?_
  refine WL.op rfl rfl rfl (Go.Proofs.Ytdkjeiemjnmdlaa.W.quiet_assign rfl rfl) ?_
  refine WL.nil ?_
  refine TW.sreg ?_
  refine WL.op rfl rfl rfl (Go.Proofs.Ytdkjeiemjnmdlaa.W.quiet_assign rfl rfl) ?_
  refine WL.nil ?_
  refine TW.seq ?_
  refine TW.sreg ?_
  refine WL.op rfl rfl rfl (Go.Proofs.Ytdkjeiemjnmdlaa.W.quiet_assign rfl rfl) ?_
  refine WL.nil ?_
  refine TW.block ?_
  refine O.loopG (n := (tmN tm)) (fun a _ => (intOf (a.tmps.getD 12 undef)).toNat) (fun j a W => ∃ (v : Value), Kn Try.f11.ntmps [(0, .slice oa s.length c), (1, .int .i64 room), (2, .int .i64 lim), (3, .int .i64 tm), (8, .pointer (some ⟨w.heap.size, 0, none⟩)), (9, .pointer (some ⟨wa1.heap.size, 0, none⟩)), (10, .int .i64 (stP room lim s j).lv), (11, .bool (stP room lim s j).on), (12, .int .i64 (j : Int))] a ∧ Fr (fun _ => False) w W ∧ Bx W w.heap.size #[.slice none 0 0, .int .i64 0] 32 ∧ Bx W wa1.heap.size #[v, .int .i64 (stP room lim s j).ex] 32 ∧ Ints wa2.heap.size W v (stP room lim s j).fl ∧ wa2.heap.size ≤ W.heap.size) (fun j a W h => by obtain ⟨_, h⟩ := h; exact O.slotv h.1 rfl) 0 (Nat.zero_le _) (fun a k => ⟨.slice none 0 0, (by (repeat (refine Kn.cons k rfl ?_)); exact k.base), ff, bx1, bx2, Row.nil _ _ _ _ _, Nat.le_refl _⟩) ?_
  rintro j a wl hj ⟨v, k, ff, bx1, bx2, hv, hz⟩
  refine TW.app (s := [(0, .slice oa s.length c), (1, .int .i64 room), (2, .int .i64 lim), (3, .int .i64 tm), (8, .pointer (some ⟨w.heap.size, 0, none⟩)), (9, .pointer (some ⟨wa1.heap.size, 0, none⟩)), (10, .int .i64 (stP room lim s j).lv), (11, .bool (stP room lim s j).on), (12, .int .i64 (j : Int))]) ?_ k
  refine TW.seq ?_
  refine TW.sreg ?_
  refine WL.op rfl rfl rfl (Go.Proofs.Ytdkjeiemjnmdlaa.W.quiet_move rfl rfl) ?_
  refine WL.op rfl rfl rfl (Go.Proofs.Ytdkjeiemjnmdlaa.W.quiet_move rfl rfl) ?_
  refine WL.op rfl rfl rfl (Go.Proofs.Ytdkjeiemjnmdlaa.W.quiet_bin rfl rfl rfl (fun W => qb_lss_int W _ _ _ _)) ?_
  refine O.split (fun hb1 => ?_) (fun hb1 => ?_)
  · skip
    have hS1 := stP_succ room lim s j
    obtain ⟨i0, i1, i2, i3, i4, i5, i6, i7, i8, i9, i10, i11⟩ := stP_inv hR j
    obtain ⟨e0, e1⟩ := hR.ev j
    have hml : j % s.length < s.length := Nat.mod_lt _ hR.1
    obtain ⟨go, oo, hoa, hc0⟩ := hat (j % s.length) hml
    have hq1 : room ≤ 1048576 := hR.2.2.2.2.2
    have hq2 : 1 ≤ lim := hR.2.2.2.1
    have hq3 : lim ≤ room := hR.2.2.2.2.1
    have hs4 := hR.2.1
    have hs5 := hR.1
    have hj2 : (j : Int) < tm := of_decide_eq_true hb1
    have hcc := ff.cell hc0 id
    have hjN : j < tmN tm := by unfold tmN; omega
    refine WL.nil ?_
    refine TW.cond rfl (fun _ => ?_) (fun hb => by cases hb)
    refine TW.skip ?_
    refine TW.seq ?_
    refine TW.block ?_
    refine TW.sreg ?_
    refine WL.op rfl rfl rfl (Go.Proofs.Ytdkjeiemjnmdlaa.W.quiet_move rfl rfl) ?_
    refine WL.op rfl rfl rfl (Go.Proofs.Ytdkjeiemjnmdlaa.W.quiet_move rfl rfl) ?_
    refine WL.op rfl rfl rfl (Go.Proofs.Ytdkjeiemjnmdlaa.W.quiet_move rfl rfl) ?_
    refine WL.op rfl rfl rfl (Go.Proofs.Ytdkjeiemjnmdlaa.W.quiet_move rfl rfl) ?_
    refine O.len rfl rfl rfl rfl rfl (qn_s_int _ _ _ _) ?_
    refine WL.op rfl rfl rfl (Go.Proofs.Ytdkjeiemjnmdlaa.W.quiet_bin rfl rfl rfl (fun W => (qb_rem_int W _ _ _ _ (by omega) (by rw [mod_of]; omega) (by rw [mod_of]; omega)).trans (by rw [mod_of]))) ?_
    refine O.ixa rfl rfl rfl rfl rfl rfl (by rw [hoa]; exact qi_s_int _ _ _ _ _ _ (by omega)) ?_
    refine WL.ld rfl rfl rfl rfl rfl (ql_int _ _ _ (show _ = some (Value.int .i64 (evT s j)) from hcc)) ?_
    skip
    refine WL.op rfl rfl rfl (Go.Proofs.Ytdkjeiemjnmdlaa.W.quiet_bin rfl rfl rfl (fun W => qb_add_int W _ _ _ _ (by omega) (by omega))) ?_
    refine WL.op rfl rfl rfl (Go.Proofs.Ytdkjeiemjnmdlaa.W.quiet_assign rfl rfl) ?_
    refine WL.nil ?_
    refine O.mid (fun a W => Kn Try.f11.ntmps [(0, .slice oa s.length c), (1, .int .i64 room), (2, .int .i64 lim), (3, .int .i64 tm), (8, .pointer (some ⟨w.heap.size, 0, none⟩)), (9, .pointer (some ⟨wa1.heap.size, 0, none⟩)), (10, .int .i64 (min ((stP room lim s j).lv + (evT s j)) room)), (11, .bool (stP room lim s j).on), (12, .int .i64 (j : Int))] a ∧ Fr (fun _ => False) w W ∧ Bx W w.heap.size #[.slice none 0 0, .int .i64 0] 32 ∧ Bx W wa1.heap.size #[v, .int .i64 (stP room lim s j).ex] 32 ∧ Ints wa2.heap.size W v (stP room lim s j).fl ∧ wa2.heap.size ≤ W.heap.size) ?_ ?_
    · skip
      refine TW.sreg ?_
      refine WL.op rfl rfl rfl (Go.Proofs.Ytdkjeiemjnmdlaa.W.quiet_move rfl rfl) ?_
      refine WL.op rfl rfl rfl (Go.Proofs.Ytdkjeiemjnmdlaa.W.quiet_move rfl rfl) ?_
      refine WL.op rfl rfl rfl (Go.Proofs.Ytdkjeiemjnmdlaa.W.quiet_bin rfl rfl rfl (fun W => qb_gtr_int W _ _ _ _)) ?_
      refine O.split (fun hg => ?_) (fun hg => ?_)
      · skip
        refine WL.nil ?_
        refine TW.cond rfl (fun _ => ?_) (fun hb => by cases hb)
        refine TW.reg ?_
        refine WL.op rfl rfl rfl (Go.Proofs.Ytdkjeiemjnmdlaa.W.quiet_move rfl rfl) ?_
        refine WL.op rfl rfl rfl (Go.Proofs.Ytdkjeiemjnmdlaa.W.quiet_assign rfl rfl) ?_
        refine WL.end ?_
        refine Xw.any (fun a k => ?_)
        have e1 : room = (min ((stP room lim s j).lv + (evT s j)) room) := by have := of_decide_eq_true hg; omega
        exact ⟨by rw [← e1]; (repeat (refine Kn.cons k rfl ?_)); exact k.base, ff, bx1, bx2, hv, hz⟩
      · skip
        refine WL.nil ?_
        refine TW.cond rfl (fun hb => by cases hb) (fun _ => ?_)
        refine TW.skipx ?_
        refine Xw.any (fun a k => ?_)
        have e1 : (stP room lim s j).lv + (evT s j) = (min ((stP room lim s j).lv + (evT s j)) room) := by have := of_decide_eq_false hg; omega
        exact ⟨by rw [← e1]; (repeat (refine Kn.cons k rfl ?_)); exact k.base, ff, bx1, bx2, hv, hz⟩
    · rintro a wm ⟨k, ff, bx1, bx2, hv, hz⟩
      obtain ⟨va, vc, rfl⟩ := Row.form hv
      refine TW.app (s := [(0, .slice oa s.length c), (1, .int .i64 room), (2, .int .i64 lim), (3, .int .i64 tm), (8, .pointer (some ⟨w.heap.size, 0, none⟩)), (9, .pointer (some ⟨wa1.heap.size, 0, none⟩)), (10, .int .i64 (min ((stP room lim s j).lv + (evT s j)) room)), (11, .bool (stP room lim s j).on), (12, .int .i64 (j : Int))]) ?_ k
      refine TW.seq ?_
      refine TW.sreg ?_
      refine WL.op rfl rfl rfl (Go.Proofs.Ytdkjeiemjnmdlaa.W.quiet_move rfl rfl) ?_
      refine WL.op rfl rfl rfl (Go.Proofs.Ytdkjeiemjnmdlaa.W.quiet_not rfl rfl) ?_
      refine O.split (fun ho => ?_) (fun ho => ?_)
      · skip
        have hon : (stP room lim s j).on = false := by simpa using ho
        refine WL.op rfl rfl rfl (Go.Proofs.Ytdkjeiemjnmdlaa.W.quiet_move rfl rfl) ?_
        refine WL.op rfl rfl rfl (Go.Proofs.Ytdkjeiemjnmdlaa.W.quiet_move rfl rfl) ?_
        refine WL.op rfl rfl rfl (Go.Proofs.Ytdkjeiemjnmdlaa.W.quiet_move rfl rfl) ?_
        refine WL.op rfl rfl rfl (Go.Proofs.Ytdkjeiemjnmdlaa.W.quiet_bin rfl rfl rfl (fun W => qb_geq_int W _ _ _ _)) ?_
        refine O.split (fun hq => ?_) (fun hq => ?_)
        · skip
          have hsw := of_decide_eq_true hq
          refine WL.op rfl rfl rfl (Go.Proofs.Ytdkjeiemjnmdlaa.W.quiet_pick rfl rfl rfl) ?_
          refine WL.nil ?_
          refine TW.cond rfl (fun _ => ?_) (fun hb => by cases hb)
          refine TW.sreg ?_
          refine WL.op rfl rfl rfl (Go.Proofs.Ytdkjeiemjnmdlaa.W.quiet_assign rfl rfl) ?_
          refine WL.nil ?_
          refine TW.sreg ?_
          refine WL.op rfl rfl rfl (Go.Proofs.Ytdkjeiemjnmdlaa.W.quiet_field rfl rfl (fun W => (qa_rushlightref33_Run_1 W _ _))) ?_
          refine WL.ld rfl rfl rfl rfl rfl (ql_int _ _ _ (bx2.cell (j := 1) rfl)) ?_
          refine WL.op rfl rfl rfl (Go.Proofs.Ytdkjeiemjnmdlaa.W.quiet_bin rfl rfl rfl (fun W => qb_gtr_int W _ _ _ _)) ?_
          refine O.split (fun hx => ?_) (fun hx => ?_)
          · skip
            refine WL.nil ?_
            refine TW.cond rfl (fun _ => ?_) (fun hb => by cases hb)
            refine TW.reg ?_
            refine WL.op rfl rfl rfl (Go.Proofs.Ytdkjeiemjnmdlaa.W.quiet_field rfl rfl (fun W => (qa_rushlightref33_Run_0 W _ _))) ?_
            refine WL.ld rfl rfl rfl rfl rfl (ql_s_int _ _ _ _ _ (bx2.cell (j := 0) rfl)) ?_
            refine WL.op rfl rfl rfl (Go.Proofs.Ytdkjeiemjnmdlaa.W.quiet_field rfl rfl (fun W => (qa_rushlightref33_Run_1 W _ _))) ?_
            refine WL.ld rfl rfl rfl rfl rfl (ql_int _ _ _ (bx2.cell (j := 1) rfl)) ?_
            refine O.bsl rfl rfl rfl rfl rfl (qv_s_int_1 _ _) ?_
            refine WL.append rfl rfl rfl rfl rfl rfl (Ints.app _ _ hv hz (by omega)) ?_
            rintro v3 w3 ⟨hv3, hF3, ho3⟩
            have hvk := hv
            replace ff := ff.trans' hF3 (fun q hq e => by have := (Row.lt hvk q e).1; omega)
            replace bx1 := bx1.fr hF3 (fun e => by have := (Row.lt hvk _ e).1; omega)
            replace bx2 := bx2.fr hF3 (fun e => by have := (Row.lt hvk _ e).1; omega)
            replace hz := Nat.le_trans hz hF3.size
            clear hv hvk
            have hv := hv3
            obtain ⟨va3, vc3, rfl⟩ := Row.form hv
            -- world w3
            have hx := of_decide_eq_true hx
            have hs2 := mk_on (hS1.trans (tick_sw1 hon hsw hx)) (by omega)
            refine WL.op rfl rfl rfl (Go.Proofs.Ytdkjeiemjnmdlaa.W.quiet_field rfl rfl (fun W => (qa_rushlightref33_Run_0 W _ _))) ?_
            refine O.storeR rfl rfl rfl rfl rfl (qsF_s_int w3 _ 0 _ _ _ _ _ _ bx2 rfl) ?_
            rintro wa3 ⟨fa3, bx2x⟩
            replace bx1 := bx1.fr fa3 (fun e => by omega)
            replace hv := Row.fr hv fa3 (fun k hk e => by have := (Row.lt hv k hk).1; omega)
            replace hz := Nat.le_trans hz fa3.size
            replace ff := ff.trans' fa3 (fun q hq e => by omega)
            clear bx2
            have bx2 := bx2x
            clear bx2x
            refine WL.nil ?_
            refine TW.seq ?_
            refine TW.sreg ?_
            refine WL.op rfl rfl rfl (Go.Proofs.Ytdkjeiemjnmdlaa.W.quiet_move rfl rfl) ?_
            refine WL.nil ?_
            refine TW.cond rfl (fun _ => ?_) (fun hb => by cases hb)
            refine TW.sreg ?_
            refine WL.op rfl rfl rfl (Go.Proofs.Ytdkjeiemjnmdlaa.W.quiet_field rfl rfl (fun W => (qa_rushlightref33_Run_1 W _ _))) ?_
            refine WL.ld rfl rfl rfl rfl rfl (ql_int _ _ _ (bx2.cell (j := 1) rfl)) ?_
            refine WL.op rfl rfl rfl (Go.Proofs.Ytdkjeiemjnmdlaa.W.quiet_bin rfl rfl rfl (fun W => qb_add_int W _ _ _ _ (by omega) (by omega))) ?_
            refine WL.op rfl rfl rfl (Go.Proofs.Ytdkjeiemjnmdlaa.W.quiet_field rfl rfl (fun W => (qa_rushlightref33_Run_1 W _ _))) ?_
            refine O.storeR rfl rfl rfl rfl rfl (qsF_int wa3 _ 1 _ _ _ _ bx2 rfl) ?_
            rintro wa4 ⟨fa4, bx2x⟩
            replace bx1 := bx1.fr fa4 (fun e => by omega)
            replace hv := Row.fr hv fa4 (fun k hk e => by have := (Row.lt hv k hk).1; omega)
            replace hz := Nat.le_trans hz fa4.size
            replace ff := ff.trans' fa4 (fun q hq e => by omega)
            clear bx2
            have bx2 := bx2x
            clear bx2x
            refine WL.nil ?_
            refine TW.reg ?_
            refine WL.op rfl rfl rfl (Go.Proofs.Ytdkjeiemjnmdlaa.W.quiet_move rfl rfl) ?_
            refine WL.op rfl rfl rfl (Go.Proofs.Ytdkjeiemjnmdlaa.W.quiet_bin rfl rfl rfl (fun W => qb_sub_int W _ _ _ _ (by omega) (by omega))) ?_
            refine WL.op rfl rfl rfl (Go.Proofs.Ytdkjeiemjnmdlaa.W.quiet_assign rfl rfl) ?_
            refine WL.nil ?_
            refine TW.sreg ?_
            refine WL.op rfl rfl rfl (Go.Proofs.Ytdkjeiemjnmdlaa.W.quiet_move rfl rfl) ?_
            refine WL.op rfl rfl rfl (Go.Proofs.Ytdkjeiemjnmdlaa.W.quiet_bin rfl rfl rfl (fun W => qb_eql_int W _ _ _ _)) ?_
            refine O.split (fun hz0 => ?_) (fun hz0 => ?_)
            · skip
              have hs := hs2.1 (by simpa using hz0)
              refine WL.nil ?_
              refine TW.cond rfl (fun _ => ?_) (fun hb => by cases hb)
              refine TW.reg ?_
              refine WL.op rfl rfl rfl (Go.Proofs.Ytdkjeiemjnmdlaa.W.quiet_assign rfl rfl) ?_
              refine WL.end ?_
              refine Xw.nblk ?_
              refine Xw.nrm ?_
              refine TW.reg ?_
              refine WL.op rfl rfl rfl (Go.Proofs.Ytdkjeiemjnmdlaa.W.quiet_move rfl rfl) ?_
              refine WL.op rfl rfl rfl (Go.Proofs.Ytdkjeiemjnmdlaa.W.quiet_bin rfl rfl rfl (fun W => qb_add_int W _ _ _ _ (by omega) (by omega))) ?_
              refine WL.op rfl rfl rfl (Go.Proofs.Ytdkjeiemjnmdlaa.W.quiet_assign rfl rfl) ?_
              refine WL.end ?_
              refine Xw.any (fun a k => ?_)
              refine ⟨j + 1, by omega, by omega, ?_⟩
              rw [hs]
              exact ⟨_, (by (repeat (refine Kn.cons k rfl ?_)); exact k.base), ff, bx1, bx2, hv, hz⟩
            · skip
              have hs := hs2.2 (by simpa using hz0)
              refine WL.nil ?_
              refine TW.cond rfl (fun hb => by cases hb) (fun _ => ?_)
              refine TW.skipx ?_
              refine Xw.nblk ?_
              refine Xw.nrm ?_
              refine TW.reg ?_
              refine WL.op rfl rfl rfl (Go.Proofs.Ytdkjeiemjnmdlaa.W.quiet_move rfl rfl) ?_
              refine WL.op rfl rfl rfl (Go.Proofs.Ytdkjeiemjnmdlaa.W.quiet_bin rfl rfl rfl (fun W => qb_add_int W _ _ _ _ (by omega) (by omega))) ?_
              refine WL.op rfl rfl rfl (Go.Proofs.Ytdkjeiemjnmdlaa.W.quiet_assign rfl rfl) ?_
              refine WL.end ?_
              refine Xw.any (fun a k => ?_)
              refine ⟨j + 1, by omega, by omega, ?_⟩
              rw [hs]
              exact ⟨_, (by (repeat (refine Kn.cons k rfl ?_)); exact k.base), ff, bx1, bx2, hv, hz⟩
          · skip
            have hx := of_decide_eq_false hx
            have hs2 := mk_on (hS1.trans (tick_sw2 hon hsw hx)) (by omega)
            refine WL.nil ?_
            refine TW.cond rfl (fun hb => by cases hb) (fun _ => ?_)
            refine TW.skip ?_
            refine TW.seq ?_
            refine TW.sreg ?_
            refine WL.op rfl rfl rfl (Go.Proofs.Ytdkjeiemjnmdlaa.W.quiet_move rfl rfl) ?_
            refine WL.nil ?_
            refine TW.cond rfl (fun _ => ?_) (fun hb => by cases hb)
            refine TW.sreg ?_
            refine WL.op rfl rfl rfl (Go.Proofs.Ytdkjeiemjnmdlaa.W.quiet_field rfl rfl (fun W => (qa_rushlightref33_Run_1 W _ _))) ?_
            refine WL.ld rfl rfl rfl rfl rfl (ql_int _ _ _ (bx2.cell (j := 1) rfl)) ?_
            refine WL.op rfl rfl rfl (Go.Proofs.Ytdkjeiemjnmdlaa.W.quiet_bin rfl rfl rfl (fun W => qb_add_int W _ _ _ _ (by omega) (by omega))) ?_
            refine WL.op rfl rfl rfl (Go.Proofs.Ytdkjeiemjnmdlaa.W.quiet_field rfl rfl (fun W => (qa_rushlightref33_Run_1 W _ _))) ?_
            refine O.storeR rfl rfl rfl rfl rfl (qsF_int wm _ 1 _ _ _ _ bx2 rfl) ?_
            rintro wa5 ⟨fa5, bx2x⟩
            replace bx1 := bx1.fr fa5 (fun e => by omega)
            replace hv := Row.fr hv fa5 (fun k hk e => by have := (Row.lt hv k hk).1; omega)
            replace hz := Nat.le_trans hz fa5.size
            replace ff := ff.trans' fa5 (fun q hq e => by omega)
            clear bx2
            have bx2 := bx2x
            clear bx2x
            refine WL.nil ?_
            refine TW.reg ?_
            refine WL.op rfl rfl rfl (Go.Proofs.Ytdkjeiemjnmdlaa.W.quiet_move rfl rfl) ?_
            refine WL.op rfl rfl rfl (Go.Proofs.Ytdkjeiemjnmdlaa.W.quiet_bin rfl rfl rfl (fun W => qb_sub_int W _ _ _ _ (by omega) (by omega))) ?_
            refine WL.op rfl rfl rfl (Go.Proofs.Ytdkjeiemjnmdlaa.W.quiet_assign rfl rfl) ?_
            refine WL.nil ?_
            refine TW.sreg ?_
            refine WL.op rfl rfl rfl (Go.Proofs.Ytdkjeiemjnmdlaa.W.quiet_move rfl rfl) ?_
            refine WL.op rfl rfl rfl (Go.Proofs.Ytdkjeiemjnmdlaa.W.quiet_bin rfl rfl rfl (fun W => qb_eql_int W _ _ _ _)) ?_
            refine O.split (fun hz0 => ?_) (fun hz0 => ?_)
            · skip
              have hs := hs2.1 (by simpa using hz0)
              refine WL.nil ?_
              refine TW.cond rfl (fun _ => ?_) (fun hb => by cases hb)
              refine TW.reg ?_
              refine WL.op rfl rfl rfl (Go.Proofs.Ytdkjeiemjnmdlaa.W.quiet_assign rfl rfl) ?_
              refine WL.end ?_
              refine Xw.nblk ?_
              refine Xw.nrm ?_
              refine TW.reg ?_
              refine WL.op rfl rfl rfl (Go.Proofs.Ytdkjeiemjnmdlaa.W.quiet_move rfl rfl) ?_
              refine WL.op rfl rfl rfl (Go.Proofs.Ytdkjeiemjnmdlaa.W.quiet_bin rfl rfl rfl (fun W => qb_add_int W _ _ _ _ (by omega) (by omega))) ?_
              refine WL.op rfl rfl rfl (Go.Proofs.Ytdkjeiemjnmdlaa.W.quiet_assign rfl rfl) ?_
              refine WL.end ?_
              refine Xw.any (fun a k => ?_)
              refine ⟨j + 1, by omega, by omega, ?_⟩
              rw [hs]
              exact ⟨_, (by (repeat (refine Kn.cons k rfl ?_)); exact k.base), ff, bx1, bx2, hv, hz⟩
            · skip
              have hs := hs2.2 (by simpa using hz0)
              refine WL.nil ?_
              refine TW.cond rfl (fun hb => by cases hb) (fun _ => ?_)
              refine TW.skipx ?_
              refine Xw.nblk ?_
              refine Xw.nrm ?_
              refine TW.reg ?_
              refine WL.op rfl rfl rfl (Go.Proofs.Ytdkjeiemjnmdlaa.W.quiet_move rfl rfl) ?_
              refine WL.op rfl rfl rfl (Go.Proofs.Ytdkjeiemjnmdlaa.W.quiet_bin rfl rfl rfl (fun W => qb_add_int W _ _ _ _ (by omega) (by omega))) ?_
              refine WL.op rfl rfl rfl (Go.Proofs.Ytdkjeiemjnmdlaa.W.quiet_assign rfl rfl) ?_
              refine WL.end ?_
              refine Xw.any (fun a k => ?_)
              refine ⟨j + 1, by omega, by omega, ?_⟩
              rw [hs]
              exact ⟨_, (by (repeat (refine Kn.cons k rfl ?_)); exact k.base), ff, bx1, bx2, hv, hz⟩
        · skip
          refine WL.op rfl rfl rfl (Go.Proofs.Ytdkjeiemjnmdlaa.W.quiet_pick rfl rfl rfl) ?_
          refine WL.nil ?_
          refine TW.cond rfl (fun hb => by cases hb) (fun _ => ?_)
          refine TW.skip ?_
          refine TW.seq ?_
          refine TW.sreg ?_
          refine WL.op rfl rfl rfl (Go.Proofs.Ytdkjeiemjnmdlaa.W.quiet_move rfl rfl) ?_
          refine WL.nil ?_
          refine TW.cond rfl (fun hb => by rw [hon] at hb; cases hb) (fun hb => ?_)
          have hs := hS1.trans (tick_off' hon (of_decide_eq_false hq))
          refine TW.skip ?_
          refine TW.sreg ?_
          refine WL.op rfl rfl rfl (Go.Proofs.Ytdkjeiemjnmdlaa.W.quiet_move rfl rfl) ?_
          refine WL.op rfl rfl rfl (Go.Proofs.Ytdkjeiemjnmdlaa.W.quiet_bin rfl rfl rfl (fun W => qb_eql_int W _ _ _ _)) ?_
          refine O.split (fun hz0 => ?_) (fun hz0 => ?_)
          · skip
            refine WL.nil ?_
            refine TW.cond rfl (fun _ => ?_) (fun hb => by cases hb)
            refine TW.reg ?_
            refine WL.op rfl rfl rfl (Go.Proofs.Ytdkjeiemjnmdlaa.W.quiet_assign rfl rfl) ?_
            refine WL.end ?_
            refine Xw.nblk ?_
            refine Xw.nrm ?_
            refine TW.reg ?_
            refine WL.op rfl rfl rfl (Go.Proofs.Ytdkjeiemjnmdlaa.W.quiet_move rfl rfl) ?_
            refine WL.op rfl rfl rfl (Go.Proofs.Ytdkjeiemjnmdlaa.W.quiet_bin rfl rfl rfl (fun W => qb_add_int W _ _ _ _ (by omega) (by omega))) ?_
            refine WL.op rfl rfl rfl (Go.Proofs.Ytdkjeiemjnmdlaa.W.quiet_assign rfl rfl) ?_
            refine WL.end ?_
            refine Xw.any (fun a k => ?_)
            refine ⟨j + 1, by omega, by omega, ?_⟩
            rw [hs]
            exact ⟨_, (by (repeat (refine Kn.cons k rfl ?_)); exact k.base), ff, bx1, bx2, hv, hz⟩
          · skip
            rw [← hon] at hs
            refine WL.nil ?_
            refine TW.cond rfl (fun hb => by cases hb) (fun _ => ?_)
            refine TW.skipx ?_
            refine Xw.nblk ?_
            refine Xw.nrm ?_
            refine TW.reg ?_
            refine WL.op rfl rfl rfl (Go.Proofs.Ytdkjeiemjnmdlaa.W.quiet_move rfl rfl) ?_
            refine WL.op rfl rfl rfl (Go.Proofs.Ytdkjeiemjnmdlaa.W.quiet_bin rfl rfl rfl (fun W => qb_add_int W _ _ _ _ (by omega) (by omega))) ?_
            refine WL.op rfl rfl rfl (Go.Proofs.Ytdkjeiemjnmdlaa.W.quiet_assign rfl rfl) ?_
            refine WL.end ?_
            refine Xw.any (fun a k => ?_)
            refine ⟨j + 1, by omega, by omega, ?_⟩
            rw [hs]
            exact ⟨_, (by (repeat (refine Kn.cons k rfl ?_)); exact k.base), ff, bx1, bx2, hv, hz⟩
      · skip
        have hon : (stP room lim s j).on = true := by simpa using ho
        refine WL.op rfl rfl rfl (Go.Proofs.Ytdkjeiemjnmdlaa.W.quiet_move rfl rfl) ?_
        refine WL.skip rfl rfl rfl ?_
        refine WL.skip rfl rfl rfl ?_
        refine WL.skip rfl rfl rfl ?_
        refine WL.op rfl rfl rfl (Go.Proofs.Ytdkjeiemjnmdlaa.W.quiet_pick rfl rfl rfl) ?_
        refine WL.nil ?_
        refine TW.cond rfl (fun hb => by cases hb) (fun _ => ?_)
        refine TW.skip ?_
        refine TW.seq ?_
        refine TW.sreg ?_
        refine WL.op rfl rfl rfl (Go.Proofs.Ytdkjeiemjnmdlaa.W.quiet_move rfl rfl) ?_
        refine WL.nil ?_
        refine TW.cond rfl (fun hb => ?_) (fun hb => by rw [hon] at hb; cases hb)
        have i5h := i5 hon
        have hs2 := mk_on (hS1.trans (tick_on' hon)) (by omega)
        refine TW.sreg ?_
        refine WL.op rfl rfl rfl (Go.Proofs.Ytdkjeiemjnmdlaa.W.quiet_field rfl rfl (fun W => (qa_rushlightref33_Run_1 W _ _))) ?_
        refine WL.ld rfl rfl rfl rfl rfl (ql_int _ _ _ (bx2.cell (j := 1) rfl)) ?_
        refine WL.op rfl rfl rfl (Go.Proofs.Ytdkjeiemjnmdlaa.W.quiet_bin rfl rfl rfl (fun W => qb_add_int W _ _ _ _ (by omega) (by omega))) ?_
        refine WL.op rfl rfl rfl (Go.Proofs.Ytdkjeiemjnmdlaa.W.quiet_field rfl rfl (fun W => (qa_rushlightref33_Run_1 W _ _))) ?_
        refine O.storeR rfl rfl rfl rfl rfl (qsF_int wm _ 1 _ _ _ _ bx2 rfl) ?_
        rintro wa6 ⟨fa6, bx2x⟩
        replace bx1 := bx1.fr fa6 (fun e => by omega)
        replace hv := Row.fr hv fa6 (fun k hk e => by have := (Row.lt hv k hk).1; omega)
        replace hz := Nat.le_trans hz fa6.size
        replace ff := ff.trans' fa6 (fun q hq e => by omega)
        clear bx2
        have bx2 := bx2x
        clear bx2x
        refine WL.nil ?_
        refine TW.reg ?_
        refine WL.op rfl rfl rfl (Go.Proofs.Ytdkjeiemjnmdlaa.W.quiet_move rfl rfl) ?_
        refine WL.op rfl rfl rfl (Go.Proofs.Ytdkjeiemjnmdlaa.W.quiet_bin rfl rfl rfl (fun W => qb_sub_int W _ _ _ _ (by omega) (by omega))) ?_
        refine WL.op rfl rfl rfl (Go.Proofs.Ytdkjeiemjnmdlaa.W.quiet_assign rfl rfl) ?_
        refine WL.nil ?_
        refine TW.sreg ?_
        refine WL.op rfl rfl rfl (Go.Proofs.Ytdkjeiemjnmdlaa.W.quiet_move rfl rfl) ?_
        refine WL.op rfl rfl rfl (Go.Proofs.Ytdkjeiemjnmdlaa.W.quiet_bin rfl rfl rfl (fun W => qb_eql_int W _ _ _ _)) ?_
        refine O.split (fun hz0 => ?_) (fun hz0 => ?_)
        · skip
          have hs := hs2.1 (by simpa using hz0)
          refine WL.nil ?_
          refine TW.cond rfl (fun _ => ?_) (fun hb => by cases hb)
          refine TW.reg ?_
          refine WL.op rfl rfl rfl (Go.Proofs.Ytdkjeiemjnmdlaa.W.quiet_assign rfl rfl) ?_
          refine WL.end ?_
          refine Xw.nblk ?_
          refine Xw.nrm ?_
          refine TW.reg ?_
          refine WL.op rfl rfl rfl (Go.Proofs.Ytdkjeiemjnmdlaa.W.quiet_move rfl rfl) ?_
          refine WL.op rfl rfl rfl (Go.Proofs.Ytdkjeiemjnmdlaa.W.quiet_bin rfl rfl rfl (fun W => qb_add_int W _ _ _ _ (by omega) (by omega))) ?_
          refine WL.op rfl rfl rfl (Go.Proofs.Ytdkjeiemjnmdlaa.W.quiet_assign rfl rfl) ?_
          refine WL.end ?_
          refine Xw.any (fun a k => ?_)
          refine ⟨j + 1, by omega, by omega, ?_⟩
          rw [hs]
          exact ⟨_, (by (repeat (refine Kn.cons k rfl ?_)); exact k.base), ff, bx1, bx2, hv, hz⟩
        · skip
          have hs := hs2.2 (by simpa using hz0)
          rw [← hon] at hs
          refine WL.nil ?_
          refine TW.cond rfl (fun hb => by cases hb) (fun _ => ?_)
          refine TW.skipx ?_
          refine Xw.nblk ?_
          refine Xw.nrm ?_
          refine TW.reg ?_
          refine WL.op rfl rfl rfl (Go.Proofs.Ytdkjeiemjnmdlaa.W.quiet_move rfl rfl) ?_
          refine WL.op rfl rfl rfl (Go.Proofs.Ytdkjeiemjnmdlaa.W.quiet_bin rfl rfl rfl (fun W => qb_add_int W _ _ _ _ (by omega) (by omega))) ?_
          refine WL.op rfl rfl rfl (Go.Proofs.Ytdkjeiemjnmdlaa.W.quiet_assign rfl rfl) ?_
          refine WL.end ?_
          refine Xw.any (fun a k => ?_)
          refine ⟨j + 1, by omega, by omega, ?_⟩
          rw [hs]
          exact ⟨_, (by (repeat (refine Kn.cons k rfl ?_)); exact k.base), ff, bx1, bx2, hv, hz⟩
  · skip
    have hje : j = tmN tm := by have := of_decide_eq_false hb1; have h5 := hj; unfold tmN at h5 ⊢; omega
    subst hje
    obtain ⟨va, vc, rfl⟩ := Row.form hv
    refine WL.nil ?_
    refine TW.cond rfl (fun hb => by cases hb) (fun _ => ?_)
    refine TW.exit ?_
    refine Xw.thn (by simp) ?_
    refine Xw.thn (by simp) ?_
    refine Xw.hit ?_
    refine Xw.nrm ?_
    refine TW.sreg ?_
    refine WL.ld rfl rfl rfl rfl rfl (qlB_rushlightref33_Run _ _ _ _ _ _ _ bx2) ?_
    refine O.storeR rfl rfl rfl rfl rfl (qsA_rushlightref33_Run wl _ _ _ _ _ _ _ bx1) ?_
    rintro wa7 ⟨fa7, bx1x⟩
    replace bx2 := bx2.fr fa7 (fun e => by omega)
    replace hv := Row.fr hv fa7 (fun k hk e => by have := (Row.lt hv k hk).1; omega)
    replace hz := Nat.le_trans hz fa7.size
    replace ff := ff.trans' fa7 (fun q hq e => by omega)
    clear bx1
    have bx1 := bx1x
    clear bx1x
    refine WL.nil ?_
    refine TW.rt ?_
    refine O.retc1 rfl rfl (run_loadVar_row _ _ _ 32 _ _ _ bx1 Try.underlying32 rfl (by kernel_rfl)) ?_
    exact ⟨_, rfl, Row.base hv (fun k hk => by have := (Row.lt hv k hk).1; omega), ff⟩
end Go.Proofs.Ytdkjeiemjnmdlaa
