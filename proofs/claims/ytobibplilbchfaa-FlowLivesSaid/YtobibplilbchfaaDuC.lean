/-
  What instructions use (layer 13): what an instruction sets, and what it reads.
-/
import Derived.Test.YtobibplilbchfaaDuB
namespace Go.Proofs.Ytobibplilbchfaa
open Go.RowKit
set_option linter.unusedVariables false
set_option linter.unusedSimpArgs false
set_option linter.unnecessarySimpa false
theorem qk_ir_fieldsOf (w : World) (vs : Array Value) : (callFunc 53 vs).run Try.prog w = .ok (.enter 53 vs) w := by simp [go_sem]
theorem qg_ir_fields_1 (w : World) (u0 u1 u2 u3 u4 u5 u6 u7 u8 u9 u10 : Value) : (Instr.field 99 (.agg #[u0, u1, u2, u3, u4, u5, u6, u7, u8, u9, u10]) 1).run Try.prog w = .ok u1 w := by kernel_rfl
set_option maxRecDepth 100000 in
theorem t_def (i : Inn) (p : Option Addr × Nat) (w : World) : Calls Try.prog 44 #[.agg #[.int .i64 i.x0, .int .i64 i.x1, .int .i64 i.x2, .int .i64 i.x3, .int .i64 i.x4, .int .i64 i.x5, .int .i64 i.x6, .int .i64 i.x7, .int .u32 i.u, .slice p.1 i.args.length p.2, .bool i.lg]] w fun e w' => e = .returned (.int .i64 (defF i)) ∧ Fr (fun _ => False) w w' := by
  have ff := Fr.refl (fun _ => False) w
  refine calls_tw Try.func44 rfl rfl (Nat.le_of_ble_eq_true rfl) ?_
  refine TW.sreg ?_
  have lw1 := ff.size
  refine O.boxR rfl rfl rfl rfl rfl (qxR_api_Ins w _ _ _ _ _ _ _ _ _ _ _ _ _) ?_
  rintro wa1 ⟨fa1, bx1⟩
  replace ff := ff.trans fa1
  refine WL.op rfl rfl rfl (Go.Proofs.Ytobibplilbchfaa.W.quiet_assign rfl rfl) ?_
  refine WL.nil ?_
  refine TW.seq ?_
  refine TW.sreg ?_
  refine WL.op rfl rfl rfl (Go.Proofs.Ytobibplilbchfaa.W.quiet_field rfl rfl (fun W => (qa_api_Ins_0 W _ _))) ?_
  refine WL.ld rfl rfl rfl rfl rfl (ql_int _ _ _ (bx1.cell (j := 0) rfl)) ?_
  refine WL.call (hr := t_fields i.x0 _) rfl rfl rfl rfl rfl (fun W => qk_ir_fieldsOf W _) ?_
  rintro e w1 ⟨kk, ff1, oo1, qq1, ss1, nn1, ll1, rfl, f1⟩
  refine ⟨_, rfl, ?_⟩
  replace bx1 := bx1.fr f1 id
  replace ff := ff.trans f1
  refine O.fd rfl rfl rfl rfl rfl (qg_ir_fields_1 _ _ _ _ _ _ _ _ _ _ _ _) ?_
  refine O.split (fun h1 => ?_) (fun h1 => ?_)
  · skip
    refine WL.nil ?_
    refine TW.cond rfl (fun _ => ?_) (fun hb => by cases hb)
    refine TW.sreg ?_
    refine WL.op rfl rfl rfl (Go.Proofs.Ytobibplilbchfaa.W.quiet_field rfl rfl (fun W => (qa_api_Ins_1 W _ _))) ?_
    refine WL.ld rfl rfl rfl rfl rfl (ql_int _ _ _ (bx1.cell (j := 1) rfl)) ?_
    refine WL.op rfl rfl rfl (Go.Proofs.Ytobibplilbchfaa.W.quiet_assign rfl rfl) ?_
    refine WL.nil ?_
    refine TW.rt ?_
    refine Xw.thn (by simp) ?_
    refine bodyw_ret rfl rfl ?_
    exact ⟨by unfold defF; rw [if_pos h1], ff⟩
  · skip
    refine WL.nil ?_
    refine TW.cond rfl (fun hb => by cases hb) (fun _ => ?_)
    refine TW.skip ?_
    refine TW.sreg ?_
    refine WL.op rfl rfl rfl (Go.Proofs.Ytobibplilbchfaa.W.quiet_assign rfl rfl) ?_
    refine WL.nil ?_
    refine TW.rt ?_
    refine bodyw_ret rfl rfl ?_
    exact ⟨by unfold defF; rw [if_neg (by rw [h1]; decide)], ff⟩
set_option maxRecDepth 100000 in
theorem t_uses (i : Inn) (p : Option Addr × Nat) (hal : i.args.length ≤ 1000) (w : World) (hA : IntsAt w p.1 i.args) : Calls Try.prog 45 #[.agg #[.int .i64 i.x0, .int .i64 i.x1, .int .i64 i.x2, .int .i64 i.x3, .int .i64 i.x4, .int .i64 i.x5, .int .i64 i.x6, .int .i64 i.x7, .int .u32 i.u, .slice p.1 i.args.length p.2, .bool i.lg]] w fun e w' => ∃ v, e = .returned v ∧ Ints w.heap.size w' v (usesF i) ∧ Fr (fun _ => False) w w' := by
  have ff := Fr.refl (fun _ => False) w
  refine calls_tw Try.func45 rfl rfl (Nat.le_of_ble_eq_true rfl) ?_
  refine TW.sreg ?_
  have lw1 := ff.size
  refine O.boxR rfl rfl rfl rfl rfl (qxR_api_Ins w _ _ _ _ _ _ _ _ _ _ _ _ _) ?_
  rintro wa1 ⟨fa1, bx1⟩
  replace ff := ff.trans fa1
  refine WL.op rfl rfl rfl (Go.Proofs.Ytobibplilbchfaa.W.quiet_assign rfl rfl) ?_
  refine WL.nil ?_
  refine TW.sreg ?_
  refine WL.op rfl rfl rfl (Go.Proofs.Ytobibplilbchfaa.W.quiet_field rfl rfl (fun W => (qa_api_Ins_0 W _ _))) ?_
  refine WL.ld rfl rfl rfl rfl rfl (ql_int _ _ _ (bx1.cell (j := 0) rfl)) ?_
  refine WL.call (hr := t_fields i.x0 _) rfl rfl rfl rfl rfl (fun W => qk_ir_fieldsOf W _) ?_
  rintro e w1 ⟨kk, ff1, oo1, qq1, ss1, nn1, ll1, rfl, f1⟩
  refine ⟨_, rfl, ?_⟩
  replace bx1 := bx1.fr f1 id
  replace ff := ff.trans f1
  have lt2_bx1 := bx1.lt
  have lw2 := ff.size
  refine O.allocR rfl rfl rfl rfl (qzR_ir_fields w1) ?_
  rintro wa2 ⟨fa2, bx2⟩
  replace bx1 := bx1.fr fa2 id
  replace ff := ff.trans fa2
  refine O.storeR rfl rfl rfl rfl rfl (qsA_ir_fields wa2 _ _ _ _ _ _ _ _ _ _ _ _ _ _ _ _ _ _ _ _ _ _ _ bx2) ?_
  rintro wa3 ⟨fa3, bx2x⟩
  replace bx1 := bx1.fr fa3 (fun e => by omega)
  replace ff := ff.trans' fa3 (fun q hq e => by omega)
  clear bx2
  have bx2 := bx2x
  clear bx2x
  obtain ⟨Z, hZ⟩ : ∃ n, n = wa3.heap.size := ⟨_, rfl⟩
  have hZw : w.heap.size < Z := by have := bx1.lt; have := bx2.lt; omega
  have hV : Ints Z wa3 (.slice none 0 0) [] := Row.nil _ _ _ _ _
  have hA0 := hA.fr ff
  have hb1z : w.heap.size < Z := hZw
  have hb2z := bx2.lt
  have hz : Z ≤ wa3.heap.size := by omega
  rw [← hZ] at hb2z
  refine WL.nil ?_
  refine TW.sreg ?_
  refine WL.op rfl rfl rfl (Go.Proofs.Ytobibplilbchfaa.W.quiet_assign rfl rfl) ?_
  refine WL.nil ?_
  refine TW.seq ?_
  refine TW.sreg ?_
  refine WL.op rfl rfl rfl (Go.Proofs.Ytobibplilbchfaa.W.quiet_field rfl rfl (fun W => (qa_ir_fields_2 W _ _))) ?_
  refine WL.ld rfl rfl rfl rfl rfl (ql_bool _ _ _ (bx2.cell (j := 2) rfl)) ?_
  refine O.split (fun h1 => ?_) (fun h1 => ?_)
  · skip
    refine WL.nil ?_
    refine TW.cond rfl (fun _ => ?_) (fun hb => by cases hb)
    refine TW.reg ?_
    refine WL.op rfl rfl rfl (Go.Proofs.Ytobibplilbchfaa.W.quiet_move rfl rfl) ?_
    refine WL.op rfl rfl rfl (Go.Proofs.Ytobibplilbchfaa.W.quiet_field rfl rfl (fun W => (qa_api_Ins_2 W _ _))) ?_
    refine WL.ld rfl rfl rfl rfl rfl (ql_int _ _ _ (bx1.cell (j := 2) rfl)) ?_
    refine O.bsl rfl rfl rfl rfl rfl (qv_s_int_1 _ _) ?_
    refine WL.append rfl rfl rfl rfl rfl rfl (Ints.app i.x2 _ hV hz (by simp)) ?_
    rintro v1 wB1 ⟨hV1, hF1, _⟩
    replace bx1 := bx1.fr hF1 (fun e => by have := (Row.lt hV _ e).1; omega)
    replace bx2 := bx2.fr hF1 (fun e => by have := (Row.lt hV _ e).1; omega)
    replace ff := ff.trans' hF1 (fun q hq e => by have := (Row.lt hV q e).1; omega)
    replace hA0 := hA.fr ff
    replace hV := hV1
    replace hz := Nat.le_trans hz hF1.size
    -- world wB1
    refine WL.op rfl rfl rfl (Go.Proofs.Ytobibplilbchfaa.W.quiet_assign rfl rfl) ?_
    refine WL.nil ?_
    refine TW.seq ?_
    refine TW.sreg ?_
    refine WL.op rfl rfl rfl (Go.Proofs.Ytobibplilbchfaa.W.quiet_field rfl rfl (fun W => (qa_ir_fields_3 W _ _))) ?_
    refine WL.ld rfl rfl rfl rfl rfl (ql_bool _ _ _ (bx2.cell (j := 3) rfl)) ?_
    refine O.split (fun h2 => ?_) (fun h2 => ?_)
    · skip
      refine WL.nil ?_
      refine TW.cond rfl (fun _ => ?_) (fun hb => by cases hb)
      refine TW.reg ?_
      refine WL.op rfl rfl rfl (Go.Proofs.Ytobibplilbchfaa.W.quiet_move rfl rfl) ?_
      refine WL.op rfl rfl rfl (Go.Proofs.Ytobibplilbchfaa.W.quiet_field rfl rfl (fun W => (qa_api_Ins_3 W _ _))) ?_
      refine WL.ld rfl rfl rfl rfl rfl (ql_int _ _ _ (bx1.cell (j := 3) rfl)) ?_
      refine O.bsl rfl rfl rfl rfl rfl (qv_s_int_1 _ _) ?_
      refine WL.append rfl rfl rfl rfl rfl rfl (Ints.app i.x3 _ hV hz (by simp)) ?_
      rintro v2 wB2 ⟨hV2, hF2, _⟩
      replace bx1 := bx1.fr hF2 (fun e => by have := (Row.lt hV _ e).1; omega)
      replace bx2 := bx2.fr hF2 (fun e => by have := (Row.lt hV _ e).1; omega)
      replace ff := ff.trans' hF2 (fun q hq e => by have := (Row.lt hV q e).1; omega)
      replace hA0 := hA.fr ff
      replace hV := hV2
      replace hz := Nat.le_trans hz hF2.size
      -- world wB2
      refine WL.op rfl rfl rfl (Go.Proofs.Ytobibplilbchfaa.W.quiet_assign rfl rfl) ?_
      refine WL.nil ?_
      refine TW.seq ?_
      refine TW.sreg ?_
      refine WL.op rfl rfl rfl (Go.Proofs.Ytobibplilbchfaa.W.quiet_field rfl rfl (fun W => (qa_ir_fields_4 W _ _))) ?_
      refine WL.ld rfl rfl rfl rfl rfl (ql_bool _ _ _ (bx2.cell (j := 4) rfl)) ?_
      refine O.split (fun h3 => ?_) (fun h3 => ?_)
      · skip
        have hal2 := hal
        have hsz3 := ff.size
        refine WL.nil ?_
        refine TW.cond rfl (fun _ => ?_) (fun hb => by cases hb)
        refine TW.reg ?_
        refine WL.op rfl rfl rfl (Go.Proofs.Ytobibplilbchfaa.W.quiet_move rfl rfl) ?_
        refine WL.op rfl rfl rfl (Go.Proofs.Ytobibplilbchfaa.W.quiet_field rfl rfl (fun W => (qa_api_Ins_9 W _ _))) ?_
        refine WL.ld rfl rfl rfl rfl rfl (ql_s_int _ _ _ _ _ (bx1.cell (j := 9) rfl)) ?_
        refine WL.append rfl rfl rfl rfl rfl rfl (Ints.appN i.args _ hV hz (by simp) (by omega) hA0) ?_
        rintro v3 wB3 ⟨hV3, hF3, _⟩
        replace bx1 := bx1.fr hF3 (fun e => by have := (Row.lt hV _ e).1; omega)
        replace ff := ff.trans' hF3 (fun q hq e => by have := (Row.lt hV q e).1; omega)
        replace hV := hV3
        replace hz := Nat.le_trans hz hF3.size
        -- world wB3
        have hV9 : Ints Z wB3 v3 (([i.x2] ++ [i.x3]) ++ i.args : List Int) := by first | exact hV | (simpa using hV)
        refine WL.op rfl rfl rfl (Go.Proofs.Ytobibplilbchfaa.W.quiet_assign rfl rfl) ?_
        refine WL.nil ?_
        refine TW.sreg ?_
        refine WL.op rfl rfl rfl (Go.Proofs.Ytobibplilbchfaa.W.quiet_move rfl rfl) ?_
        refine WL.call (hr := t_deln Z _ _ (by first | (simp; done) | (simp; omega)) _ hV9) rfl rfl rfl rfl rfl (fun W => qk_slices_DeleteFunc_int_int W _) ?_
        rintro e w9 ⟨v9, rfl, hI9, f9⟩
        refine ⟨_, rfl, ?_⟩
        refine WL.op rfl rfl rfl (Go.Proofs.Ytobibplilbchfaa.W.quiet_assign rfl rfl) ?_
        refine WL.nil ?_
        refine TW.rt ?_
        refine bodyw_ret rfl rfl ?_
        have hu : usesF i = (([i.x2] ++ [i.x3]) ++ i.args : List Int).filter fun x => !isNo x := by unfold usesF; rw [if_pos h1, if_pos h2, if_pos h3]
        refine ⟨_, rfl, by rw [hu]; exact Row.base hI9 (fun k hk => by have := (Row.lt hI9 k hk).1; omega), ff.trans' f9 (fun q hq e => by have := (Row.lt hV q e).1; omega)⟩
      · skip
        have hV9 : Ints Z wB2 v2 (([i.x2] ++ [i.x3]) ++ [] : List Int) := by first | exact hV | (simpa using hV)
        refine WL.nil ?_
        refine TW.cond rfl (fun hb => by cases hb) (fun _ => ?_)
        refine TW.skip ?_
        refine TW.sreg ?_
        refine WL.op rfl rfl rfl (Go.Proofs.Ytobibplilbchfaa.W.quiet_move rfl rfl) ?_
        refine WL.call (hr := t_deln Z _ _ (by first | (simp; done) | (simp; omega)) _ hV9) rfl rfl rfl rfl rfl (fun W => qk_slices_DeleteFunc_int_int W _) ?_
        rintro e w9 ⟨v9, rfl, hI9, f9⟩
        refine ⟨_, rfl, ?_⟩
        refine WL.op rfl rfl rfl (Go.Proofs.Ytobibplilbchfaa.W.quiet_assign rfl rfl) ?_
        refine WL.nil ?_
        refine TW.rt ?_
        refine bodyw_ret rfl rfl ?_
        have hu : usesF i = (([i.x2] ++ [i.x3]) ++ [] : List Int).filter fun x => !isNo x := by unfold usesF; rw [if_pos h1, if_pos h2, if_neg (by rw [h3]; decide)]
        refine ⟨_, rfl, by rw [hu]; exact Row.base hI9 (fun k hk => by have := (Row.lt hI9 k hk).1; omega), ff.trans' f9 (fun q hq e => by have := (Row.lt hV q e).1; omega)⟩
    · skip
      refine WL.nil ?_
      refine TW.cond rfl (fun hb => by cases hb) (fun _ => ?_)
      refine TW.skip ?_
      refine TW.seq ?_
      refine TW.sreg ?_
      refine WL.op rfl rfl rfl (Go.Proofs.Ytobibplilbchfaa.W.quiet_field rfl rfl (fun W => (qa_ir_fields_4 W _ _))) ?_
      refine WL.ld rfl rfl rfl rfl rfl (ql_bool _ _ _ (bx2.cell (j := 4) rfl)) ?_
      refine O.split (fun h3 => ?_) (fun h3 => ?_)
      · skip
        have hal2 := hal
        have hsz3 := ff.size
        refine WL.nil ?_
        refine TW.cond rfl (fun _ => ?_) (fun hb => by cases hb)
        refine TW.reg ?_
        refine WL.op rfl rfl rfl (Go.Proofs.Ytobibplilbchfaa.W.quiet_move rfl rfl) ?_
        refine WL.op rfl rfl rfl (Go.Proofs.Ytobibplilbchfaa.W.quiet_field rfl rfl (fun W => (qa_api_Ins_9 W _ _))) ?_
        refine WL.ld rfl rfl rfl rfl rfl (ql_s_int _ _ _ _ _ (bx1.cell (j := 9) rfl)) ?_
        refine WL.append rfl rfl rfl rfl rfl rfl (Ints.appN i.args _ hV hz (by simp) (by omega) hA0) ?_
        rintro v3 wB3 ⟨hV3, hF3, _⟩
        replace bx1 := bx1.fr hF3 (fun e => by have := (Row.lt hV _ e).1; omega)
        replace ff := ff.trans' hF3 (fun q hq e => by have := (Row.lt hV q e).1; omega)
        replace hV := hV3
        replace hz := Nat.le_trans hz hF3.size
        -- world wB3
        have hV9 : Ints Z wB3 v3 (([i.x2] ++ []) ++ i.args : List Int) := by first | exact hV | (simpa using hV)
        refine WL.op rfl rfl rfl (Go.Proofs.Ytobibplilbchfaa.W.quiet_assign rfl rfl) ?_
        refine WL.nil ?_
        refine TW.sreg ?_
        refine WL.op rfl rfl rfl (Go.Proofs.Ytobibplilbchfaa.W.quiet_move rfl rfl) ?_
        refine WL.call (hr := t_deln Z _ _ (by first | (simp; done) | (simp; omega)) _ hV9) rfl rfl rfl rfl rfl (fun W => qk_slices_DeleteFunc_int_int W _) ?_
        rintro e w9 ⟨v9, rfl, hI9, f9⟩
        refine ⟨_, rfl, ?_⟩
        refine WL.op rfl rfl rfl (Go.Proofs.Ytobibplilbchfaa.W.quiet_assign rfl rfl) ?_
        refine WL.nil ?_
        refine TW.rt ?_
        refine bodyw_ret rfl rfl ?_
        have hu : usesF i = (([i.x2] ++ []) ++ i.args : List Int).filter fun x => !isNo x := by unfold usesF; rw [if_pos h1, if_neg (by rw [h2]; decide), if_pos h3]
        refine ⟨_, rfl, by rw [hu]; exact Row.base hI9 (fun k hk => by have := (Row.lt hI9 k hk).1; omega), ff.trans' f9 (fun q hq e => by have := (Row.lt hV q e).1; omega)⟩
      · skip
        have hV9 : Ints Z wB1 v1 (([i.x2] ++ []) ++ [] : List Int) := by first | exact hV | (simpa using hV)
        refine WL.nil ?_
        refine TW.cond rfl (fun hb => by cases hb) (fun _ => ?_)
        refine TW.skip ?_
        refine TW.sreg ?_
        refine WL.op rfl rfl rfl (Go.Proofs.Ytobibplilbchfaa.W.quiet_move rfl rfl) ?_
        refine WL.call (hr := t_deln Z _ _ (by first | (simp; done) | (simp; omega)) _ hV9) rfl rfl rfl rfl rfl (fun W => qk_slices_DeleteFunc_int_int W _) ?_
        rintro e w9 ⟨v9, rfl, hI9, f9⟩
        refine ⟨_, rfl, ?_⟩
        refine WL.op rfl rfl rfl (Go.Proofs.Ytobibplilbchfaa.W.quiet_assign rfl rfl) ?_
        refine WL.nil ?_
        refine TW.rt ?_
        refine bodyw_ret rfl rfl ?_
        have hu : usesF i = (([i.x2] ++ []) ++ [] : List Int).filter fun x => !isNo x := by unfold usesF; rw [if_pos h1, if_neg (by rw [h2]; decide), if_neg (by rw [h3]; decide)]
        refine ⟨_, rfl, by rw [hu]; exact Row.base hI9 (fun k hk => by have := (Row.lt hI9 k hk).1; omega), ff.trans' f9 (fun q hq e => by have := (Row.lt hV q e).1; omega)⟩
  · skip
    refine WL.nil ?_
    refine TW.cond rfl (fun hb => by cases hb) (fun _ => ?_)
    refine TW.skip ?_
    refine TW.seq ?_
    refine TW.sreg ?_
    refine WL.op rfl rfl rfl (Go.Proofs.Ytobibplilbchfaa.W.quiet_field rfl rfl (fun W => (qa_ir_fields_3 W _ _))) ?_
    refine WL.ld rfl rfl rfl rfl rfl (ql_bool _ _ _ (bx2.cell (j := 3) rfl)) ?_
    refine O.split (fun h2 => ?_) (fun h2 => ?_)
    · skip
      refine WL.nil ?_
      refine TW.cond rfl (fun _ => ?_) (fun hb => by cases hb)
      refine TW.reg ?_
      refine WL.op rfl rfl rfl (Go.Proofs.Ytobibplilbchfaa.W.quiet_move rfl rfl) ?_
      refine WL.op rfl rfl rfl (Go.Proofs.Ytobibplilbchfaa.W.quiet_field rfl rfl (fun W => (qa_api_Ins_3 W _ _))) ?_
      refine WL.ld rfl rfl rfl rfl rfl (ql_int _ _ _ (bx1.cell (j := 3) rfl)) ?_
      refine O.bsl rfl rfl rfl rfl rfl (qv_s_int_1 _ _) ?_
      refine WL.append rfl rfl rfl rfl rfl rfl (Ints.app i.x3 _ hV hz (by simp)) ?_
      rintro v2 wB2 ⟨hV2, hF2, _⟩
      replace bx1 := bx1.fr hF2 (fun e => by have := (Row.lt hV _ e).1; omega)
      replace bx2 := bx2.fr hF2 (fun e => by have := (Row.lt hV _ e).1; omega)
      replace ff := ff.trans' hF2 (fun q hq e => by have := (Row.lt hV q e).1; omega)
      replace hA0 := hA.fr ff
      replace hV := hV2
      replace hz := Nat.le_trans hz hF2.size
      -- world wB2
      refine WL.op rfl rfl rfl (Go.Proofs.Ytobibplilbchfaa.W.quiet_assign rfl rfl) ?_
      refine WL.nil ?_
      refine TW.seq ?_
      refine TW.sreg ?_
      refine WL.op rfl rfl rfl (Go.Proofs.Ytobibplilbchfaa.W.quiet_field rfl rfl (fun W => (qa_ir_fields_4 W _ _))) ?_
      refine WL.ld rfl rfl rfl rfl rfl (ql_bool _ _ _ (bx2.cell (j := 4) rfl)) ?_
      refine O.split (fun h3 => ?_) (fun h3 => ?_)
      · skip
        have hal2 := hal
        have hsz3 := ff.size
        refine WL.nil ?_
        refine TW.cond rfl (fun _ => ?_) (fun hb => by cases hb)
        refine TW.reg ?_
        refine WL.op rfl rfl rfl (Go.Proofs.Ytobibplilbchfaa.W.quiet_move rfl rfl) ?_
        refine WL.op rfl rfl rfl (Go.Proofs.Ytobibplilbchfaa.W.quiet_field rfl rfl (fun W => (qa_api_Ins_9 W _ _))) ?_
        refine WL.ld rfl rfl rfl rfl rfl (ql_s_int _ _ _ _ _ (bx1.cell (j := 9) rfl)) ?_
        refine WL.append rfl rfl rfl rfl rfl rfl (Ints.appN i.args _ hV hz (by simp) (by omega) hA0) ?_
        rintro v3 wB3 ⟨hV3, hF3, _⟩
        replace bx1 := bx1.fr hF3 (fun e => by have := (Row.lt hV _ e).1; omega)
        replace ff := ff.trans' hF3 (fun q hq e => by have := (Row.lt hV q e).1; omega)
        replace hV := hV3
        replace hz := Nat.le_trans hz hF3.size
        -- world wB3
        have hV9 : Ints Z wB3 v3 (([] ++ [i.x3]) ++ i.args : List Int) := by first | exact hV | (simpa using hV)
        refine WL.op rfl rfl rfl (Go.Proofs.Ytobibplilbchfaa.W.quiet_assign rfl rfl) ?_
        refine WL.nil ?_
        refine TW.sreg ?_
        refine WL.op rfl rfl rfl (Go.Proofs.Ytobibplilbchfaa.W.quiet_move rfl rfl) ?_
        refine WL.call (hr := t_deln Z _ _ (by first | (simp; done) | (simp; omega)) _ hV9) rfl rfl rfl rfl rfl (fun W => qk_slices_DeleteFunc_int_int W _) ?_
        rintro e w9 ⟨v9, rfl, hI9, f9⟩
        refine ⟨_, rfl, ?_⟩
        refine WL.op rfl rfl rfl (Go.Proofs.Ytobibplilbchfaa.W.quiet_assign rfl rfl) ?_
        refine WL.nil ?_
        refine TW.rt ?_
        refine bodyw_ret rfl rfl ?_
        have hu : usesF i = (([] ++ [i.x3]) ++ i.args : List Int).filter fun x => !isNo x := by unfold usesF; rw [if_neg (by rw [h1]; decide), if_pos h2, if_pos h3]
        refine ⟨_, rfl, by rw [hu]; exact Row.base hI9 (fun k hk => by have := (Row.lt hI9 k hk).1; omega), ff.trans' f9 (fun q hq e => by have := (Row.lt hV q e).1; omega)⟩
      · skip
        have hV9 : Ints Z wB2 v2 (([] ++ [i.x3]) ++ [] : List Int) := by first | exact hV | (simpa using hV)
        refine WL.nil ?_
        refine TW.cond rfl (fun hb => by cases hb) (fun _ => ?_)
        refine TW.skip ?_
        refine TW.sreg ?_
        refine WL.op rfl rfl rfl (Go.Proofs.Ytobibplilbchfaa.W.quiet_move rfl rfl) ?_
        refine WL.call (hr := t_deln Z _ _ (by first | (simp; done) | (simp; omega)) _ hV9) rfl rfl rfl rfl rfl (fun W => qk_slices_DeleteFunc_int_int W _) ?_
        rintro e w9 ⟨v9, rfl, hI9, f9⟩
        refine ⟨_, rfl, ?_⟩
        refine WL.op rfl rfl rfl (Go.Proofs.Ytobibplilbchfaa.W.quiet_assign rfl rfl) ?_
        refine WL.nil ?_
        refine TW.rt ?_
        refine bodyw_ret rfl rfl ?_
        have hu : usesF i = (([] ++ [i.x3]) ++ [] : List Int).filter fun x => !isNo x := by unfold usesF; rw [if_neg (by rw [h1]; decide), if_pos h2, if_neg (by rw [h3]; decide)]
        refine ⟨_, rfl, by rw [hu]; exact Row.base hI9 (fun k hk => by have := (Row.lt hI9 k hk).1; omega), ff.trans' f9 (fun q hq e => by have := (Row.lt hV q e).1; omega)⟩
    · skip
      refine WL.nil ?_
      refine TW.cond rfl (fun hb => by cases hb) (fun _ => ?_)
      refine TW.skip ?_
      refine TW.seq ?_
      refine TW.sreg ?_
      refine WL.op rfl rfl rfl (Go.Proofs.Ytobibplilbchfaa.W.quiet_field rfl rfl (fun W => (qa_ir_fields_4 W _ _))) ?_
      refine WL.ld rfl rfl rfl rfl rfl (ql_bool _ _ _ (bx2.cell (j := 4) rfl)) ?_
      refine O.split (fun h3 => ?_) (fun h3 => ?_)
      · skip
        have hal2 := hal
        have hsz3 := ff.size
        refine WL.nil ?_
        refine TW.cond rfl (fun _ => ?_) (fun hb => by cases hb)
        refine TW.reg ?_
        refine WL.op rfl rfl rfl (Go.Proofs.Ytobibplilbchfaa.W.quiet_move rfl rfl) ?_
        refine WL.op rfl rfl rfl (Go.Proofs.Ytobibplilbchfaa.W.quiet_field rfl rfl (fun W => (qa_api_Ins_9 W _ _))) ?_
        refine WL.ld rfl rfl rfl rfl rfl (ql_s_int _ _ _ _ _ (bx1.cell (j := 9) rfl)) ?_
        refine WL.append rfl rfl rfl rfl rfl rfl (Ints.appN i.args _ hV hz (by simp) (by omega) hA0) ?_
        rintro v3 wB3 ⟨hV3, hF3, _⟩
        replace bx1 := bx1.fr hF3 (fun e => by have := (Row.lt hV _ e).1; omega)
        replace ff := ff.trans' hF3 (fun q hq e => by have := (Row.lt hV q e).1; omega)
        replace hV := hV3
        replace hz := Nat.le_trans hz hF3.size
        -- world wB3
        have hV9 : Ints Z wB3 v3 (([] ++ []) ++ i.args : List Int) := by first | exact hV | (simpa using hV)
        refine WL.op rfl rfl rfl (Go.Proofs.Ytobibplilbchfaa.W.quiet_assign rfl rfl) ?_
        refine WL.nil ?_
        refine TW.sreg ?_
        refine WL.op rfl rfl rfl (Go.Proofs.Ytobibplilbchfaa.W.quiet_move rfl rfl) ?_
        refine WL.call (hr := t_deln Z _ _ (by first | (simp; done) | (simp; omega)) _ hV9) rfl rfl rfl rfl rfl (fun W => qk_slices_DeleteFunc_int_int W _) ?_
        rintro e w9 ⟨v9, rfl, hI9, f9⟩
        refine ⟨_, rfl, ?_⟩
        refine WL.op rfl rfl rfl (Go.Proofs.Ytobibplilbchfaa.W.quiet_assign rfl rfl) ?_
        refine WL.nil ?_
        refine TW.rt ?_
        refine bodyw_ret rfl rfl ?_
        have hu : usesF i = (([] ++ []) ++ i.args : List Int).filter fun x => !isNo x := by unfold usesF; rw [if_neg (by rw [h1]; decide), if_neg (by rw [h2]; decide), if_pos h3]
        refine ⟨_, rfl, by rw [hu]; exact Row.base hI9 (fun k hk => by have := (Row.lt hI9 k hk).1; omega), ff.trans' f9 (fun q hq e => by have := (Row.lt hV q e).1; omega)⟩
      · skip
        have hV9 : Ints Z wa3 (.slice none 0 0) (([] ++ []) ++ [] : List Int) := by first | exact hV | (simpa using hV)
        refine WL.nil ?_
        refine TW.cond rfl (fun hb => by cases hb) (fun _ => ?_)
        refine TW.skip ?_
        refine TW.sreg ?_
        refine WL.op rfl rfl rfl (Go.Proofs.Ytobibplilbchfaa.W.quiet_move rfl rfl) ?_
        refine WL.call (hr := t_deln Z _ _ (by first | (simp; done) | (simp; omega)) _ hV9) rfl rfl rfl rfl rfl (fun W => qk_slices_DeleteFunc_int_int W _) ?_
        rintro e w9 ⟨v9, rfl, hI9, f9⟩
        refine ⟨_, rfl, ?_⟩
        refine WL.op rfl rfl rfl (Go.Proofs.Ytobibplilbchfaa.W.quiet_assign rfl rfl) ?_
        refine WL.nil ?_
        refine TW.rt ?_
        refine bodyw_ret rfl rfl ?_
        have hu : usesF i = (([] ++ []) ++ [] : List Int).filter fun x => !isNo x := by unfold usesF; rw [if_neg (by rw [h1]; decide), if_neg (by rw [h2]; decide), if_neg (by rw [h3]; decide)]
        refine ⟨_, rfl, by rw [hu]; exact Row.base hI9 (fun k hk => by have := (Row.lt hI9 k hk).1; omega), ff.trans' f9 (fun q hq e => by have := (Row.lt hV q e).1; omega)⟩
end Go.Proofs.Ytobibplilbchfaa
