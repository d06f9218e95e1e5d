/-
  What instructions use (layer 13): the fields of any operation.
-/
import Derived.Test.YtobibplilbchfaaFlQ
namespace Go.Proofs.Ytobibplilbchfaa
open Go.RowKit
set_option linter.unusedVariables false
set_option linter.unusedSimpArgs false
set_option linter.unnecessarySimpa false
theorem qzR_ir_fields (w : World) : ∃ w', (Instr.alloc 99 true (.tuple #[])).run Try.prog w = .ok (.pointer (some ⟨w.heap.size, 0, none⟩)) w' ∧ (Fr (fun _ => False) w w' ∧ Bx w' w.heap.size #[.bool false, .bool false, .bool false, .bool false, .bool false, .bool false, .bool false, .bool false, .bool false, .bool false, .bool false] 99) := ⟨w.alloc (.cells #[.bool false, .bool false, .bool false, .bool false, .bool false, .bool false, .bool false, .bool false, .bool false, .bool false, .bool false] 99), by simp [go_sem], fr_al (Fr.refl _ _) _, Bx.new _ _ _⟩
theorem qd_ir_fields_0 (w : World) (p0_p0 : Bool) : (Instr.build 99 #[(0, .bool p0_p0)]).run Try.prog w = .ok (.agg #[.bool p0_p0, .bool false, .bool false, .bool false, .bool false, .bool false, .bool false, .bool false, .bool false, .bool false, .bool false]) w := by simp [go_sem]
theorem qsA_ir_fields (w : World) (g : Nat) (z0 z1 z2 z3 z4 z5 z6 z7 z8 z9 z10 : Value) (up0 : Bool) (up1 : Bool) (up2 : Bool) (up3 : Bool) (up4 : Bool) (up5 : Bool) (up6 : Bool) (up7 : Bool) (up8 : Bool) (up9 : Bool) (up10 : Bool) (h : Bx w g #[z0, z1, z2, z3, z4, z5, z6, z7, z8, z9, z10] 99) : ∃ w', (Instr.storeAt 99 (.pointer (some ⟨g, 0, none⟩)) (.agg #[.bool up0, .bool up1, .bool up2, .bool up3, .bool up4, .bool up5, .bool up6, .bool up7, .bool up8, .bool up9, .bool up10])).run Try.prog w = .ok () w' ∧ (Fr (fun q => q = g) w w' ∧ Bx w' g #[.bool up0, .bool up1, .bool up2, .bool up3, .bool up4, .bool up5, .bool up6, .bool up7, .bool up8, .bool up9, .bool up10] 99) := h.store 99 #[.bool up0, .bool up1, .bool up2, .bool up3, .bool up4, .bool up5, .bool up6, .bool up7, .bool up8, .bool up9, .bool up10] (by kernel_rfl) rfl (by simp [Value.oneCell'])
theorem qa_ir_fields_1 (w : World) (b o : Nat) : (Instr.fieldAt 99 (.pointer (some ⟨b, o, none⟩)) 1).run Try.prog w = .ok (.pointer (some ⟨b, o + 1, none⟩)) w := by simp [go_sem]
theorem qsF_bool (w : World) (g j : Nat) (z : Array Value) (tt : TypeId) (y : Value) (up0 : Bool) (h : Bx w g z tt) (hj : z[j]? = some y) : ∃ w', (Instr.storeAt 4 (.pointer (some ⟨g, j, none⟩)) (.bool up0)).run Try.prog w = .ok () w' ∧ (Fr (fun q => q = g) w w' ∧ Bx w' g (z.setIfInBounds j (.bool up0)) tt) := by
  have c0 := h.cell hj
  have e0 := h.free j
  exact ⟨w.setCell ⟨g, j, none⟩ (.bool up0), by simp [go_sem, c0, e0], Fr.setCell _ _ _ rfl, h.set j _⟩
theorem qa_ir_fields_9 (w : World) (b o : Nat) : (Instr.fieldAt 99 (.pointer (some ⟨b, o, none⟩)) 9).run Try.prog w = .ok (.pointer (some ⟨b, o + 9, none⟩)) w := by simp [go_sem]
theorem qlB_ir_fields (w : World) (g : Nat) (up0 : Bool) (up1 : Bool) (up2 : Bool) (up3 : Bool) (up4 : Bool) (up5 : Bool) (up6 : Bool) (up7 : Bool) (up8 : Bool) (up9 : Bool) (up10 : Bool) (tt : TypeId) (h : Bx w g #[.bool up0, .bool up1, .bool up2, .bool up3, .bool up4, .bool up5, .bool up6, .bool up7, .bool up8, .bool up9, .bool up10] tt) : (Instr.loadAt 99 (.pointer (some ⟨g, 0, none⟩))).run Try.prog w = .ok (.agg #[.bool up0, .bool up1, .bool up2, .bool up3, .bool up4, .bool up5, .bool up6, .bool up7, .bool up8, .bool up9, .bool up10]) w := by
  have c0 := h.cell (j := 0) rfl
  have c1 := h.cell (j := 1) rfl
  have c2 := h.cell (j := 2) rfl
  have c3 := h.cell (j := 3) rfl
  have c4 := h.cell (j := 4) rfl
  have c5 := h.cell (j := 5) rfl
  have c6 := h.cell (j := 6) rfl
  have c7 := h.cell (j := 7) rfl
  have c8 := h.cell (j := 8) rfl
  have c9 := h.cell (j := 9) rfl
  have c10 := h.cell (j := 10) rfl
  simp [go_sem, c0, c1, c2, c3, c4, c5, c6, c7, c8, c9, c10]
theorem qa_ir_fields_3 (w : World) (b o : Nat) : (Instr.fieldAt 99 (.pointer (some ⟨b, o, none⟩)) 3).run Try.prog w = .ok (.pointer (some ⟨b, o + 3, none⟩)) w := by simp [go_sem]
theorem qa_ir_fields_5 (w : World) (b o : Nat) : (Instr.fieldAt 99 (.pointer (some ⟨b, o, none⟩)) 5).run Try.prog w = .ok (.pointer (some ⟨b, o + 5, none⟩)) w := by simp [go_sem]
theorem qa_ir_fields_2 (w : World) (b o : Nat) : (Instr.fieldAt 99 (.pointer (some ⟨b, o, none⟩)) 2).run Try.prog w = .ok (.pointer (some ⟨b, o + 2, none⟩)) w := by simp [go_sem]
theorem qa_ir_fields_7 (w : World) (b o : Nat) : (Instr.fieldAt 99 (.pointer (some ⟨b, o, none⟩)) 7).run Try.prog w = .ok (.pointer (some ⟨b, o + 7, none⟩)) w := by simp [go_sem]
theorem qa_ir_fields_8 (w : World) (b o : Nat) : (Instr.fieldAt 99 (.pointer (some ⟨b, o, none⟩)) 8).run Try.prog w = .ok (.pointer (some ⟨b, o + 8, none⟩)) w := by simp [go_sem]
theorem qa_ir_fields_10 (w : World) (b o : Nat) : (Instr.fieldAt 99 (.pointer (some ⟨b, o, none⟩)) 10).run Try.prog w = .ok (.pointer (some ⟨b, o + 10, none⟩)) w := by simp [go_sem]
theorem qa_ir_fields_6 (w : World) (b o : Nat) : (Instr.fieldAt 99 (.pointer (some ⟨b, o, none⟩)) 6).run Try.prog w = .ok (.pointer (some ⟨b, o + 6, none⟩)) w := by simp [go_sem]
theorem qa_ir_fields_4 (w : World) (b o : Nat) : (Instr.fieldAt 99 (.pointer (some ⟨b, o, none⟩)) 4).run Try.prog w = .ok (.pointer (some ⟨b, o + 4, none⟩)) w := by simp [go_sem]
theorem qa_ir_fields_0 (w : World) (b o : Nat) : (Instr.fieldAt 99 (.pointer (some ⟨b, o, none⟩)) 0).run Try.prog w = .ok (.pointer (some ⟨b, o, none⟩)) w := by simp [go_sem]
def hD (x : Int) : Bool := x == 1 || x == 2 || x == 3 || x == 4 || x == 5 || x == 7 || x == 8 || x == 9 || x == 11
def hA (x : Int) : Bool := x == 2 || x == 3 || x == 4 || x == 5 || x == 6 || x == 10
def hB (x : Int) : Bool := x == 3 || x == 6
def hR (x : Int) : Bool := x == 9
def FldP (x : Int) (w : World) (e : Ending) (w' : World) : Prop := ∃ k f o q s n l, e = .returned (.agg #[.bool k, .bool (hD x), .bool (hA x), .bool (hB x), .bool (hR x), .bool f, .bool o, .bool q, .bool s, .bool n, .bool l]) ∧ Fr (fun _ => False) w w'
set_option maxRecDepth 100000 in
theorem t_fields (x : Int) (w : World) : Calls Try.prog 53 #[.int .i64 x] w (FldP x w) := by
  have ff := Fr.refl (fun _ => False) w
  refine calls_tw Try.func53 rfl rfl (Nat.le_of_ble_eq_true rfl) ?_
  refine TW.sreg ?_
  have lw1 := ff.size
  refine O.allocR rfl rfl rfl rfl (qzR_ir_fields w) ?_
  rintro wa1 ⟨fa1, bx1⟩
  replace ff := ff.trans fa1
  refine WL.nil ?_
  refine TW.sreg ?_
  refine O.bld rfl rfl rfl rfl rfl (qd_ir_fields_0 _ _) ?_
  have lt2_bx1 := bx1.lt
  have lw2 := ff.size
  refine O.allocR rfl rfl rfl rfl (qzR_ir_fields wa1) ?_
  rintro wa2 ⟨fa2, bx2⟩
  replace bx1 := bx1.fr fa2 id
  replace ff := ff.trans fa2
  refine O.storeR rfl rfl rfl rfl rfl (qsA_ir_fields wa2 _ _ _ _ _ _ _ _ _ _ _ _ _ _ _ _ _ _ _ _ _ _ _ bx2) ?_
  rintro wa3 ⟨fa3, bx2x⟩
  replace bx1 := bx1.fr fa3 (fun e => by omega)
  replace ff := ff.trans' fa3 (fun q hq e => by omega)
  clear bx2
  have bx2 := bx2x
  clear bx2x
  refine WL.nil ?_
  refine TW.seq ?_
  refine TW.sreg ?_
  refine WL.op rfl rfl rfl (Go.Proofs.Ytobibplilbchfaa.W.quiet_move rfl rfl) ?_
  refine WL.nil ?_
  refine TW.block ?_
  refine TW.seq ?_
  refine TW.block ?_
  refine TW.seq ?_
  refine TW.block ?_
  refine TW.seq ?_
  refine TW.block ?_
  refine TW.seq ?_
  refine TW.block ?_
  refine TW.seq ?_
  refine TW.block ?_
  refine TW.seq ?_
  refine TW.block ?_
  refine TW.seq ?_
  refine TW.block ?_
  refine TW.seq ?_
  refine TW.block ?_
  refine TW.seq ?_
  refine TW.block ?_
  refine TW.seq ?_
  refine TW.block ?_
  refine TW.seq ?_
  refine TW.block ?_
  refine TW.seq ?_
  refine TW.block ?_
  refine TW.seq ?_
  refine TW.seq ?_
  refine TW.sreg ?_
  refine WL.op rfl rfl rfl (Go.Proofs.Ytobibplilbchfaa.W.quiet_bin rfl rfl rfl (fun W => qb_eql_int W _ _ _ _)) ?_
  refine O.split (fun h1 => ?_) (fun h1 => ?_)
  · skip
    refine WL.op rfl rfl rfl (Go.Proofs.Ytobibplilbchfaa.W.quiet_assign rfl rfl) ?_
    refine WL.nil ?_
    refine TW.cond rfl (fun _ => ?_) (fun hb => by cases hb)
    refine TW.exit ?_
    refine Xw.thn (by simp) ?_
    refine Xw.thn (by simp) ?_
    refine Xw.hit ?_
    refine Xw.nrm ?_
    refine TW.sreg ?_
    refine WL.op rfl rfl rfl (Go.Proofs.Ytobibplilbchfaa.W.quiet_field rfl rfl (fun W => (qa_ir_fields_1 W _ _))) ?_
    refine O.storeR rfl rfl rfl rfl rfl (qsF_bool wa3 _ 1 _ _ _ _ bx2 rfl) ?_
    rintro wa4 ⟨fa4, bx2x⟩
    replace bx1 := bx1.fr fa4 (fun e => by omega)
    replace ff := ff.trans' fa4 (fun q hq e => by omega)
    clear bx2
    have bx2 := bx2x
    clear bx2x
    refine WL.op rfl rfl rfl (Go.Proofs.Ytobibplilbchfaa.W.quiet_field rfl rfl (fun W => (qa_ir_fields_9 W _ _))) ?_
    refine O.storeR rfl rfl rfl rfl rfl (qsF_bool wa4 _ 9 _ _ _ _ bx2 rfl) ?_
    rintro wa5 ⟨fa5, bx2x⟩
    replace bx1 := bx1.fr fa5 (fun e => by omega)
    replace ff := ff.trans' fa5 (fun q hq e => by omega)
    clear bx2
    have bx2 := bx2x
    clear bx2x
    refine WL.nil ?_
    refine TW.exit ?_
    refine O.miss rfl ?_
    refine Xw.thn (by simp) ?_
    refine O.miss rfl ?_
    refine Xw.thn (by simp) ?_
    refine O.miss rfl ?_
    refine Xw.thn (by simp) ?_
    refine O.miss rfl ?_
    refine Xw.thn (by simp) ?_
    refine O.miss rfl ?_
    refine Xw.thn (by simp) ?_
    refine O.miss rfl ?_
    refine Xw.thn (by simp) ?_
    refine O.miss rfl ?_
    refine Xw.thn (by simp) ?_
    refine O.miss rfl ?_
    refine Xw.thn (by simp) ?_
    refine O.miss rfl ?_
    refine Xw.thn (by simp) ?_
    refine O.miss rfl ?_
    refine Xw.thn (by simp) ?_
    refine O.miss rfl ?_
    refine Xw.thn (by simp) ?_
    refine Xw.hit ?_
    refine Xw.nrm ?_
    refine TW.sreg ?_
    refine WL.ld rfl rfl rfl rfl rfl (qlB_ir_fields _ _ _ _ _ _ _ _ _ _ _ _ _ _ bx2) ?_
    refine O.storeR rfl rfl rfl rfl rfl (qsA_ir_fields wa5 _ _ _ _ _ _ _ _ _ _ _ _ _ _ _ _ _ _ _ _ _ _ _ bx1) ?_
    rintro wa6 ⟨fa6, bx1x⟩
    replace bx2 := bx2.fr fa6 (fun e => by omega)
    replace ff := ff.trans' fa6 (fun q hq e => by omega)
    clear bx1
    have bx1 := bx1x
    clear bx1x
    refine WL.nil ?_
    refine TW.rt ?_
    refine O.retc1 rfl rfl (run_loadVar_row _ _ _ 99 _ _ _ bx1 Try.underlying99 rfl (by kernel_rfl)) ?_
    obtain rfl : x = 1 := by simpa using h1
    exact ⟨_, _, _, _, _, _, _, rfl, ff⟩
  · skip
    refine WL.op rfl rfl rfl (Go.Proofs.Ytobibplilbchfaa.W.quiet_assign rfl rfl) ?_
    refine WL.nil ?_
    refine TW.cond rfl (fun hb => by cases hb) (fun _ => ?_)
    refine TW.skip ?_
    refine TW.seq ?_
    refine TW.sreg ?_
    refine WL.op rfl rfl rfl (Go.Proofs.Ytobibplilbchfaa.W.quiet_bin rfl rfl rfl (fun W => qb_eql_int W _ _ _ _)) ?_
    refine O.split (fun h3 => ?_) (fun h3 => ?_)
    · skip
      refine WL.op rfl rfl rfl (Go.Proofs.Ytobibplilbchfaa.W.quiet_assign rfl rfl) ?_
      refine WL.nil ?_
      refine TW.cond rfl (fun _ => ?_) (fun hb => by cases hb)
      refine TW.exit ?_
      refine Xw.thn (by simp) ?_
      refine Xw.thn (by simp) ?_
      refine O.miss rfl ?_
      refine Xw.thn (by simp) ?_
      refine Xw.hit ?_
      refine Xw.nrm ?_
      refine TW.reg ?_
      refine WL.op rfl rfl rfl (Go.Proofs.Ytobibplilbchfaa.W.quiet_field rfl rfl (fun W => (qa_ir_fields_3 W _ _))) ?_
      refine O.storeR rfl rfl rfl rfl rfl (qsF_bool wa3 _ 3 _ _ _ _ bx2 rfl) ?_
      rintro wa7 ⟨fa7, bx2x⟩
      replace bx1 := bx1.fr fa7 (fun e => by omega)
      replace ff := ff.trans' fa7 (fun q hq e => by omega)
      clear bx2
      have bx2 := bx2x
      clear bx2x
      refine WL.end ?_
      refine Xw.nblk ?_
      refine Xw.nrm ?_
      refine TW.reg ?_
      refine WL.op rfl rfl rfl (Go.Proofs.Ytobibplilbchfaa.W.quiet_field rfl rfl (fun W => (qa_ir_fields_5 W _ _))) ?_
      refine O.storeR rfl rfl rfl rfl rfl (qsF_bool wa7 _ 5 _ _ _ _ bx2 rfl) ?_
      rintro wa8 ⟨fa8, bx2x⟩
      replace bx1 := bx1.fr fa8 (fun e => by omega)
      replace ff := ff.trans' fa8 (fun q hq e => by omega)
      clear bx2
      have bx2 := bx2x
      clear bx2x
      refine WL.end ?_
      refine Xw.nblk ?_
      refine Xw.nrm ?_
      refine TW.reg ?_
      refine WL.op rfl rfl rfl (Go.Proofs.Ytobibplilbchfaa.W.quiet_field rfl rfl (fun W => (qa_ir_fields_2 W _ _))) ?_
      refine O.storeR rfl rfl rfl rfl rfl (qsF_bool wa8 _ 2 _ _ _ _ bx2 rfl) ?_
      rintro wa9 ⟨fa9, bx2x⟩
      replace bx1 := bx1.fr fa9 (fun e => by omega)
      replace ff := ff.trans' fa9 (fun q hq e => by omega)
      clear bx2
      have bx2 := bx2x
      clear bx2x
      refine WL.end ?_
      refine Xw.nblk ?_
      refine Xw.nrm ?_
      refine TW.sreg ?_
      refine WL.op rfl rfl rfl (Go.Proofs.Ytobibplilbchfaa.W.quiet_field rfl rfl (fun W => (qa_ir_fields_1 W _ _))) ?_
      refine O.storeR rfl rfl rfl rfl rfl (qsF_bool wa9 _ 1 _ _ _ _ bx2 rfl) ?_
      rintro wa10 ⟨fa10, bx2x⟩
      replace bx1 := bx1.fr fa10 (fun e => by omega)
      replace ff := ff.trans' fa10 (fun q hq e => by omega)
      clear bx2
      have bx2 := bx2x
      clear bx2x
      refine WL.nil ?_
      refine TW.exit ?_
      refine O.miss rfl ?_
      refine Xw.thn (by simp) ?_
      refine O.miss rfl ?_
      refine Xw.thn (by simp) ?_
      refine O.miss rfl ?_
      refine Xw.thn (by simp) ?_
      refine O.miss rfl ?_
      refine Xw.thn (by simp) ?_
      refine O.miss rfl ?_
      refine Xw.thn (by simp) ?_
      refine O.miss rfl ?_
      refine Xw.thn (by simp) ?_
      refine O.miss rfl ?_
      refine Xw.thn (by simp) ?_
      refine Xw.hit ?_
      refine Xw.nrm ?_
      refine TW.sreg ?_
      refine WL.ld rfl rfl rfl rfl rfl (qlB_ir_fields _ _ _ _ _ _ _ _ _ _ _ _ _ _ bx2) ?_
      refine O.storeR rfl rfl rfl rfl rfl (qsA_ir_fields wa10 _ _ _ _ _ _ _ _ _ _ _ _ _ _ _ _ _ _ _ _ _ _ _ bx1) ?_
      rintro wa11 ⟨fa11, bx1x⟩
      replace bx2 := bx2.fr fa11 (fun e => by omega)
      replace ff := ff.trans' fa11 (fun q hq e => by omega)
      clear bx1
      have bx1 := bx1x
      clear bx1x
      refine WL.nil ?_
      refine TW.rt ?_
      refine O.retc1 rfl rfl (run_loadVar_row _ _ _ 99 _ _ _ bx1 Try.underlying99 rfl (by kernel_rfl)) ?_
      obtain rfl : x = 3 := by simpa using h3
      exact ⟨_, _, _, _, _, _, _, rfl, ff⟩
    · skip
      refine WL.op rfl rfl rfl (Go.Proofs.Ytobibplilbchfaa.W.quiet_assign rfl rfl) ?_
      refine WL.nil ?_
      refine TW.cond rfl (fun hb => by cases hb) (fun _ => ?_)
      refine TW.skip ?_
      refine TW.seq ?_
      refine TW.sreg ?_
      refine WL.op rfl rfl rfl (Go.Proofs.Ytobibplilbchfaa.W.quiet_bin rfl rfl rfl (fun W => qb_eql_int W _ _ _ _)) ?_
      refine O.split (fun h4 => ?_) (fun h4 => ?_)
      · skip
        refine WL.op rfl rfl rfl (Go.Proofs.Ytobibplilbchfaa.W.quiet_assign rfl rfl) ?_
        refine WL.nil ?_
        refine TW.cond rfl (fun _ => ?_) (fun hb => by cases hb)
        refine TW.exit ?_
        refine Xw.thn (by simp) ?_
        refine Xw.thn (by simp) ?_
        refine O.miss rfl ?_
        refine Xw.thn (by simp) ?_
        refine O.miss rfl ?_
        refine Xw.thn (by simp) ?_
        refine Xw.hit ?_
        refine Xw.nrm ?_
        refine TW.reg ?_
        refine WL.op rfl rfl rfl (Go.Proofs.Ytobibplilbchfaa.W.quiet_field rfl rfl (fun W => (qa_ir_fields_5 W _ _))) ?_
        refine O.storeR rfl rfl rfl rfl rfl (qsF_bool wa3 _ 5 _ _ _ _ bx2 rfl) ?_
        rintro wa12 ⟨fa12, bx2x⟩
        replace bx1 := bx1.fr fa12 (fun e => by omega)
        replace ff := ff.trans' fa12 (fun q hq e => by omega)
        clear bx2
        have bx2 := bx2x
        clear bx2x
        refine WL.end ?_
        refine Xw.nblk ?_
        refine Xw.nrm ?_
        refine TW.reg ?_
        refine WL.op rfl rfl rfl (Go.Proofs.Ytobibplilbchfaa.W.quiet_field rfl rfl (fun W => (qa_ir_fields_2 W _ _))) ?_
        refine O.storeR rfl rfl rfl rfl rfl (qsF_bool wa12 _ 2 _ _ _ _ bx2 rfl) ?_
        rintro wa13 ⟨fa13, bx2x⟩
        replace bx1 := bx1.fr fa13 (fun e => by omega)
        replace ff := ff.trans' fa13 (fun q hq e => by omega)
        clear bx2
        have bx2 := bx2x
        clear bx2x
        refine WL.end ?_
        refine Xw.nblk ?_
        refine Xw.nrm ?_
        refine TW.sreg ?_
        refine WL.op rfl rfl rfl (Go.Proofs.Ytobibplilbchfaa.W.quiet_field rfl rfl (fun W => (qa_ir_fields_1 W _ _))) ?_
        refine O.storeR rfl rfl rfl rfl rfl (qsF_bool wa13 _ 1 _ _ _ _ bx2 rfl) ?_
        rintro wa14 ⟨fa14, bx2x⟩
        replace bx1 := bx1.fr fa14 (fun e => by omega)
        replace ff := ff.trans' fa14 (fun q hq e => by omega)
        clear bx2
        have bx2 := bx2x
        clear bx2x
        refine WL.nil ?_
        refine TW.exit ?_
        refine O.miss rfl ?_
        refine Xw.thn (by simp) ?_
        refine O.miss rfl ?_
        refine Xw.thn (by simp) ?_
        refine O.miss rfl ?_
        refine Xw.thn (by simp) ?_
        refine O.miss rfl ?_
        refine Xw.thn (by simp) ?_
        refine O.miss rfl ?_
        refine Xw.thn (by simp) ?_
        refine O.miss rfl ?_
        refine Xw.thn (by simp) ?_
        refine O.miss rfl ?_
        refine Xw.thn (by simp) ?_
        refine Xw.hit ?_
        refine Xw.nrm ?_
        refine TW.sreg ?_
        refine WL.ld rfl rfl rfl rfl rfl (qlB_ir_fields _ _ _ _ _ _ _ _ _ _ _ _ _ _ bx2) ?_
        refine O.storeR rfl rfl rfl rfl rfl (qsA_ir_fields wa14 _ _ _ _ _ _ _ _ _ _ _ _ _ _ _ _ _ _ _ _ _ _ _ bx1) ?_
        rintro wa15 ⟨fa15, bx1x⟩
        replace bx2 := bx2.fr fa15 (fun e => by omega)
        replace ff := ff.trans' fa15 (fun q hq e => by omega)
        clear bx1
        have bx1 := bx1x
        clear bx1x
        refine WL.nil ?_
        refine TW.rt ?_
        refine O.retc1 rfl rfl (run_loadVar_row _ _ _ 99 _ _ _ bx1 Try.underlying99 rfl (by kernel_rfl)) ?_
        obtain rfl : x = 4 := by simpa using h4
        exact ⟨_, _, _, _, _, _, _, rfl, ff⟩
      · skip
        refine WL.op rfl rfl rfl (Go.Proofs.Ytobibplilbchfaa.W.quiet_assign rfl rfl) ?_
        refine WL.nil ?_
        refine TW.cond rfl (fun hb => by cases hb) (fun _ => ?_)
        refine TW.skip ?_
        refine TW.seq ?_
        refine TW.sreg ?_
        refine WL.op rfl rfl rfl (Go.Proofs.Ytobibplilbchfaa.W.quiet_bin rfl rfl rfl (fun W => qb_eql_int W _ _ _ _)) ?_
        refine O.split (fun h2 => ?_) (fun h2 => ?_)
        · skip
          refine WL.op rfl rfl rfl (Go.Proofs.Ytobibplilbchfaa.W.quiet_assign rfl rfl) ?_
          refine WL.nil ?_
          refine TW.cond rfl (fun _ => ?_) (fun hb => by cases hb)
          refine TW.exit ?_
          refine Xw.thn (by simp) ?_
          refine Xw.thn (by simp) ?_
          refine O.miss rfl ?_
          refine Xw.thn (by simp) ?_
          refine O.miss rfl ?_
          refine Xw.thn (by simp) ?_
          refine O.miss rfl ?_
          refine Xw.thn (by simp) ?_
          refine Xw.hit ?_
          refine Xw.nrm ?_
          refine TW.reg ?_
          refine WL.op rfl rfl rfl (Go.Proofs.Ytobibplilbchfaa.W.quiet_field rfl rfl (fun W => (qa_ir_fields_2 W _ _))) ?_
          refine O.storeR rfl rfl rfl rfl rfl (qsF_bool wa3 _ 2 _ _ _ _ bx2 rfl) ?_
          rintro wa16 ⟨fa16, bx2x⟩
          replace bx1 := bx1.fr fa16 (fun e => by omega)
          replace ff := ff.trans' fa16 (fun q hq e => by omega)
          clear bx2
          have bx2 := bx2x
          clear bx2x
          refine WL.end ?_
          refine Xw.nblk ?_
          refine Xw.nrm ?_
          refine TW.sreg ?_
          refine WL.op rfl rfl rfl (Go.Proofs.Ytobibplilbchfaa.W.quiet_field rfl rfl (fun W => (qa_ir_fields_1 W _ _))) ?_
          refine O.storeR rfl rfl rfl rfl rfl (qsF_bool wa16 _ 1 _ _ _ _ bx2 rfl) ?_
          rintro wa17 ⟨fa17, bx2x⟩
          replace bx1 := bx1.fr fa17 (fun e => by omega)
          replace ff := ff.trans' fa17 (fun q hq e => by omega)
          clear bx2
          have bx2 := bx2x
          clear bx2x
          refine WL.nil ?_
          refine TW.exit ?_
          refine O.miss rfl ?_
          refine Xw.thn (by simp) ?_
          refine O.miss rfl ?_
          refine Xw.thn (by simp) ?_
          refine O.miss rfl ?_
          refine Xw.thn (by simp) ?_
          refine O.miss rfl ?_
          refine Xw.thn (by simp) ?_
          refine O.miss rfl ?_
          refine Xw.thn (by simp) ?_
          refine O.miss rfl ?_
          refine Xw.thn (by simp) ?_
          refine O.miss rfl ?_
          refine Xw.thn (by simp) ?_
          refine Xw.hit ?_
          refine Xw.nrm ?_
          refine TW.sreg ?_
          refine WL.ld rfl rfl rfl rfl rfl (qlB_ir_fields _ _ _ _ _ _ _ _ _ _ _ _ _ _ bx2) ?_
          refine O.storeR rfl rfl rfl rfl rfl (qsA_ir_fields wa17 _ _ _ _ _ _ _ _ _ _ _ _ _ _ _ _ _ _ _ _ _ _ _ bx1) ?_
          rintro wa18 ⟨fa18, bx1x⟩
          replace bx2 := bx2.fr fa18 (fun e => by omega)
          replace ff := ff.trans' fa18 (fun q hq e => by omega)
          clear bx1
          have bx1 := bx1x
          clear bx1x
          refine WL.nil ?_
          refine TW.rt ?_
          refine O.retc1 rfl rfl (run_loadVar_row _ _ _ 99 _ _ _ bx1 Try.underlying99 rfl (by kernel_rfl)) ?_
          obtain rfl : x = 2 := by simpa using h2
          exact ⟨_, _, _, _, _, _, _, rfl, ff⟩
        · skip
          refine WL.op rfl rfl rfl (Go.Proofs.Ytobibplilbchfaa.W.quiet_assign rfl rfl) ?_
          refine WL.nil ?_
          refine TW.cond rfl (fun hb => by cases hb) (fun _ => ?_)
          refine TW.skip ?_
          refine TW.seq ?_
          refine TW.sreg ?_
          refine WL.op rfl rfl rfl (Go.Proofs.Ytobibplilbchfaa.W.quiet_bin rfl rfl rfl (fun W => qb_eql_int W _ _ _ _)) ?_
          refine O.split (fun h11 => ?_) (fun h11 => ?_)
          · skip
            refine WL.op rfl rfl rfl (Go.Proofs.Ytobibplilbchfaa.W.quiet_assign rfl rfl) ?_
            refine WL.nil ?_
            refine TW.cond rfl (fun _ => ?_) (fun hb => by cases hb)
            refine TW.exit ?_
            refine Xw.thn (by simp) ?_
            refine Xw.thn (by simp) ?_
            refine O.miss rfl ?_
            refine Xw.thn (by simp) ?_
            refine O.miss rfl ?_
            refine Xw.thn (by simp) ?_
            refine O.miss rfl ?_
            refine Xw.thn (by simp) ?_
            refine O.miss rfl ?_
            refine Xw.thn (by simp) ?_
            refine Xw.hit ?_
            refine Xw.nrm ?_
            refine TW.sreg ?_
            refine WL.op rfl rfl rfl (Go.Proofs.Ytobibplilbchfaa.W.quiet_field rfl rfl (fun W => (qa_ir_fields_1 W _ _))) ?_
            refine O.storeR rfl rfl rfl rfl rfl (qsF_bool wa3 _ 1 _ _ _ _ bx2 rfl) ?_
            rintro wa19 ⟨fa19, bx2x⟩
            replace bx1 := bx1.fr fa19 (fun e => by omega)
            replace ff := ff.trans' fa19 (fun q hq e => by omega)
            clear bx2
            have bx2 := bx2x
            clear bx2x
            refine WL.nil ?_
            refine TW.exit ?_
            refine O.miss rfl ?_
            refine Xw.thn (by simp) ?_
            refine O.miss rfl ?_
            refine Xw.thn (by simp) ?_
            refine O.miss rfl ?_
            refine Xw.thn (by simp) ?_
            refine O.miss rfl ?_
            refine Xw.thn (by simp) ?_
            refine O.miss rfl ?_
            refine Xw.thn (by simp) ?_
            refine O.miss rfl ?_
            refine Xw.thn (by simp) ?_
            refine O.miss rfl ?_
            refine Xw.thn (by simp) ?_
            refine Xw.hit ?_
            refine Xw.nrm ?_
            refine TW.sreg ?_
            refine WL.ld rfl rfl rfl rfl rfl (qlB_ir_fields _ _ _ _ _ _ _ _ _ _ _ _ _ _ bx2) ?_
            refine O.storeR rfl rfl rfl rfl rfl (qsA_ir_fields wa19 _ _ _ _ _ _ _ _ _ _ _ _ _ _ _ _ _ _ _ _ _ _ _ bx1) ?_
            rintro wa20 ⟨fa20, bx1x⟩
            replace bx2 := bx2.fr fa20 (fun e => by omega)
            replace ff := ff.trans' fa20 (fun q hq e => by omega)
            clear bx1
            have bx1 := bx1x
            clear bx1x
            refine WL.nil ?_
            refine TW.rt ?_
            refine O.retc1 rfl rfl (run_loadVar_row _ _ _ 99 _ _ _ bx1 Try.underlying99 rfl (by kernel_rfl)) ?_
            obtain rfl : x = 11 := by simpa using h11
            exact ⟨_, _, _, _, _, _, _, rfl, ff⟩
          · skip
            refine WL.op rfl rfl rfl (Go.Proofs.Ytobibplilbchfaa.W.quiet_assign rfl rfl) ?_
            refine WL.nil ?_
            refine TW.cond rfl (fun hb => by cases hb) (fun _ => ?_)
            refine TW.skip ?_
            refine TW.seq ?_
            refine TW.sreg ?_
            refine WL.op rfl rfl rfl (Go.Proofs.Ytobibplilbchfaa.W.quiet_bin rfl rfl rfl (fun W => qb_eql_int W _ _ _ _)) ?_
            refine O.split (fun h5 => ?_) (fun h5 => ?_)
            · skip
              refine WL.op rfl rfl rfl (Go.Proofs.Ytobibplilbchfaa.W.quiet_assign rfl rfl) ?_
              refine WL.nil ?_
              refine TW.cond rfl (fun _ => ?_) (fun hb => by cases hb)
              refine TW.exit ?_
              refine Xw.thn (by simp) ?_
              refine Xw.thn (by simp) ?_
              refine O.miss rfl ?_
              refine Xw.thn (by simp) ?_
              refine O.miss rfl ?_
              refine Xw.thn (by simp) ?_
              refine O.miss rfl ?_
              refine Xw.thn (by simp) ?_
              refine O.miss rfl ?_
              refine Xw.thn (by simp) ?_
              refine O.miss rfl ?_
              refine Xw.thn (by simp) ?_
              refine Xw.hit ?_
              refine Xw.nrm ?_
              refine TW.sreg ?_
              refine WL.op rfl rfl rfl (Go.Proofs.Ytobibplilbchfaa.W.quiet_field rfl rfl (fun W => (qa_ir_fields_1 W _ _))) ?_
              refine O.storeR rfl rfl rfl rfl rfl (qsF_bool wa3 _ 1 _ _ _ _ bx2 rfl) ?_
              rintro wa21 ⟨fa21, bx2x⟩
              replace bx1 := bx1.fr fa21 (fun e => by omega)
              replace ff := ff.trans' fa21 (fun q hq e => by omega)
              clear bx2
              have bx2 := bx2x
              clear bx2x
              refine WL.op rfl rfl rfl (Go.Proofs.Ytobibplilbchfaa.W.quiet_field rfl rfl (fun W => (qa_ir_fields_2 W _ _))) ?_
              refine O.storeR rfl rfl rfl rfl rfl (qsF_bool wa21 _ 2 _ _ _ _ bx2 rfl) ?_
              rintro wa22 ⟨fa22, bx2x⟩
              replace bx1 := bx1.fr fa22 (fun e => by omega)
              replace ff := ff.trans' fa22 (fun q hq e => by omega)
              clear bx2
              have bx2 := bx2x
              clear bx2x
              refine WL.op rfl rfl rfl (Go.Proofs.Ytobibplilbchfaa.W.quiet_field rfl rfl (fun W => (qa_ir_fields_7 W _ _))) ?_
              refine O.storeR rfl rfl rfl rfl rfl (qsF_bool wa22 _ 7 _ _ _ _ bx2 rfl) ?_
              rintro wa23 ⟨fa23, bx2x⟩
              replace bx1 := bx1.fr fa23 (fun e => by omega)
              replace ff := ff.trans' fa23 (fun q hq e => by omega)
              clear bx2
              have bx2 := bx2x
              clear bx2x
              refine WL.op rfl rfl rfl (Go.Proofs.Ytobibplilbchfaa.W.quiet_field rfl rfl (fun W => (qa_ir_fields_8 W _ _))) ?_
              refine O.storeR rfl rfl rfl rfl rfl (qsF_bool wa23 _ 8 _ _ _ _ bx2 rfl) ?_
              rintro wa24 ⟨fa24, bx2x⟩
              replace bx1 := bx1.fr fa24 (fun e => by omega)
              replace ff := ff.trans' fa24 (fun q hq e => by omega)
              clear bx2
              have bx2 := bx2x
              clear bx2x
              refine WL.nil ?_
              refine TW.exit ?_
              refine O.miss rfl ?_
              refine Xw.thn (by simp) ?_
              refine O.miss rfl ?_
              refine Xw.thn (by simp) ?_
              refine O.miss rfl ?_
              refine Xw.thn (by simp) ?_
              refine O.miss rfl ?_
              refine Xw.thn (by simp) ?_
              refine O.miss rfl ?_
              refine Xw.thn (by simp) ?_
              refine O.miss rfl ?_
              refine Xw.thn (by simp) ?_
              refine Xw.hit ?_
              refine Xw.nrm ?_
              refine TW.sreg ?_
              refine WL.ld rfl rfl rfl rfl rfl (qlB_ir_fields _ _ _ _ _ _ _ _ _ _ _ _ _ _ bx2) ?_
              refine O.storeR rfl rfl rfl rfl rfl (qsA_ir_fields wa24 _ _ _ _ _ _ _ _ _ _ _ _ _ _ _ _ _ _ _ _ _ _ _ bx1) ?_
              rintro wa25 ⟨fa25, bx1x⟩
              replace bx2 := bx2.fr fa25 (fun e => by omega)
              replace ff := ff.trans' fa25 (fun q hq e => by omega)
              clear bx1
              have bx1 := bx1x
              clear bx1x
              refine WL.nil ?_
              refine TW.rt ?_
              refine O.retc1 rfl rfl (run_loadVar_row _ _ _ 99 _ _ _ bx1 Try.underlying99 rfl (by kernel_rfl)) ?_
              obtain rfl : x = 5 := by simpa using h5
              exact ⟨_, _, _, _, _, _, _, rfl, ff⟩
            · skip
              refine WL.op rfl rfl rfl (Go.Proofs.Ytobibplilbchfaa.W.quiet_assign rfl rfl) ?_
              refine WL.nil ?_
              refine TW.cond rfl (fun hb => by cases hb) (fun _ => ?_)
              refine TW.skip ?_
              refine TW.seq ?_
              refine TW.sreg ?_
              refine WL.op rfl rfl rfl (Go.Proofs.Ytobibplilbchfaa.W.quiet_bin rfl rfl rfl (fun W => qb_eql_int W _ _ _ _)) ?_
              refine O.split (fun h6 => ?_) (fun h6 => ?_)
              · skip
                refine WL.op rfl rfl rfl (Go.Proofs.Ytobibplilbchfaa.W.quiet_assign rfl rfl) ?_
                refine WL.nil ?_
                refine TW.cond rfl (fun _ => ?_) (fun hb => by cases hb)
                refine TW.exit ?_
                refine Xw.thn (by simp) ?_
                refine Xw.thn (by simp) ?_
                refine O.miss rfl ?_
                refine Xw.thn (by simp) ?_
                refine O.miss rfl ?_
                refine Xw.thn (by simp) ?_
                refine O.miss rfl ?_
                refine Xw.thn (by simp) ?_
                refine O.miss rfl ?_
                refine Xw.thn (by simp) ?_
                refine O.miss rfl ?_
                refine Xw.thn (by simp) ?_
                refine O.miss rfl ?_
                refine Xw.thn (by simp) ?_
                refine Xw.hit ?_
                refine Xw.nrm ?_
                refine TW.reg ?_
                refine WL.op rfl rfl rfl (Go.Proofs.Ytobibplilbchfaa.W.quiet_field rfl rfl (fun W => (qa_ir_fields_3 W _ _))) ?_
                refine O.storeR rfl rfl rfl rfl rfl (qsF_bool wa3 _ 3 _ _ _ _ bx2 rfl) ?_
                rintro wa26 ⟨fa26, bx2x⟩
                replace bx1 := bx1.fr fa26 (fun e => by omega)
                replace ff := ff.trans' fa26 (fun q hq e => by omega)
                clear bx2
                have bx2 := bx2x
                clear bx2x
                refine WL.op rfl rfl rfl (Go.Proofs.Ytobibplilbchfaa.W.quiet_field rfl rfl (fun W => (qa_ir_fields_7 W _ _))) ?_
                refine O.storeR rfl rfl rfl rfl rfl (qsF_bool wa26 _ 7 _ _ _ _ bx2 rfl) ?_
                rintro wa27 ⟨fa27, bx2x⟩
                replace bx1 := bx1.fr fa27 (fun e => by omega)
                replace ff := ff.trans' fa27 (fun q hq e => by omega)
                clear bx2
                have bx2 := bx2x
                clear bx2x
                refine WL.op rfl rfl rfl (Go.Proofs.Ytobibplilbchfaa.W.quiet_field rfl rfl (fun W => (qa_ir_fields_8 W _ _))) ?_
                refine O.storeR rfl rfl rfl rfl rfl (qsF_bool wa27 _ 8 _ _ _ _ bx2 rfl) ?_
                rintro wa28 ⟨fa28, bx2x⟩
                replace bx1 := bx1.fr fa28 (fun e => by omega)
                replace ff := ff.trans' fa28 (fun q hq e => by omega)
                clear bx2
                have bx2 := bx2x
                clear bx2x
                refine WL.op rfl rfl rfl (Go.Proofs.Ytobibplilbchfaa.W.quiet_field rfl rfl (fun W => (qa_ir_fields_10 W _ _))) ?_
                refine O.storeR rfl rfl rfl rfl rfl (qsF_bool wa28 _ 10 _ _ _ _ bx2 rfl) ?_
                rintro wa29 ⟨fa29, bx2x⟩
                replace bx1 := bx1.fr fa29 (fun e => by omega)
                replace ff := ff.trans' fa29 (fun q hq e => by omega)
                clear bx2
                have bx2 := bx2x
                clear bx2x
                refine WL.end ?_
                refine Xw.nblk ?_
                refine Xw.nrm ?_
                refine TW.sreg ?_
                refine WL.op rfl rfl rfl (Go.Proofs.Ytobibplilbchfaa.W.quiet_field rfl rfl (fun W => (qa_ir_fields_2 W _ _))) ?_
                refine O.storeR rfl rfl rfl rfl rfl (qsF_bool wa29 _ 2 _ _ _ _ bx2 rfl) ?_
                rintro wa30 ⟨fa30, bx2x⟩
                replace bx1 := bx1.fr fa30 (fun e => by omega)
                replace ff := ff.trans' fa30 (fun q hq e => by omega)
                clear bx2
                have bx2 := bx2x
                clear bx2x
                refine WL.nil ?_
                refine TW.exit ?_
                refine O.miss rfl ?_
                refine Xw.thn (by simp) ?_
                refine O.miss rfl ?_
                refine Xw.thn (by simp) ?_
                refine O.miss rfl ?_
                refine Xw.thn (by simp) ?_
                refine O.miss rfl ?_
                refine Xw.thn (by simp) ?_
                refine Xw.hit ?_
                refine Xw.nrm ?_
                refine TW.sreg ?_
                refine WL.ld rfl rfl rfl rfl rfl (qlB_ir_fields _ _ _ _ _ _ _ _ _ _ _ _ _ _ bx2) ?_
                refine O.storeR rfl rfl rfl rfl rfl (qsA_ir_fields wa30 _ _ _ _ _ _ _ _ _ _ _ _ _ _ _ _ _ _ _ _ _ _ _ bx1) ?_
                rintro wa31 ⟨fa31, bx1x⟩
                replace bx2 := bx2.fr fa31 (fun e => by omega)
                replace ff := ff.trans' fa31 (fun q hq e => by omega)
                clear bx1
                have bx1 := bx1x
                clear bx1x
                refine WL.nil ?_
                refine TW.rt ?_
                refine O.retc1 rfl rfl (run_loadVar_row _ _ _ 99 _ _ _ bx1 Try.underlying99 rfl (by kernel_rfl)) ?_
                obtain rfl : x = 6 := by simpa using h6
                exact ⟨_, _, _, _, _, _, _, rfl, ff⟩
              · skip
                refine WL.op rfl rfl rfl (Go.Proofs.Ytobibplilbchfaa.W.quiet_assign rfl rfl) ?_
                refine WL.nil ?_
                refine TW.cond rfl (fun hb => by cases hb) (fun _ => ?_)
                refine TW.skip ?_
                refine TW.seq ?_
                refine TW.sreg ?_
                refine WL.op rfl rfl rfl (Go.Proofs.Ytobibplilbchfaa.W.quiet_bin rfl rfl rfl (fun W => qb_eql_int W _ _ _ _)) ?_
                refine O.split (fun h10 => ?_) (fun h10 => ?_)
                · skip
                  refine WL.op rfl rfl rfl (Go.Proofs.Ytobibplilbchfaa.W.quiet_assign rfl rfl) ?_
                  refine WL.nil ?_
                  refine TW.cond rfl (fun _ => ?_) (fun hb => by cases hb)
                  refine TW.exit ?_
                  refine Xw.thn (by simp) ?_
                  refine Xw.thn (by simp) ?_
                  refine O.miss rfl ?_
                  refine Xw.thn (by simp) ?_
                  refine O.miss rfl ?_
                  refine Xw.thn (by simp) ?_
                  refine O.miss rfl ?_
                  refine Xw.thn (by simp) ?_
                  refine O.miss rfl ?_
                  refine Xw.thn (by simp) ?_
                  refine O.miss rfl ?_
                  refine Xw.thn (by simp) ?_
                  refine O.miss rfl ?_
                  refine Xw.thn (by simp) ?_
                  refine O.miss rfl ?_
                  refine Xw.thn (by simp) ?_
                  refine Xw.hit ?_
                  refine Xw.nrm ?_
                  refine TW.sreg ?_
                  refine WL.op rfl rfl rfl (Go.Proofs.Ytobibplilbchfaa.W.quiet_field rfl rfl (fun W => (qa_ir_fields_2 W _ _))) ?_
                  refine O.storeR rfl rfl rfl rfl rfl (qsF_bool wa3 _ 2 _ _ _ _ bx2 rfl) ?_
                  rintro wa32 ⟨fa32, bx2x⟩
                  replace bx1 := bx1.fr fa32 (fun e => by omega)
                  replace ff := ff.trans' fa32 (fun q hq e => by omega)
                  clear bx2
                  have bx2 := bx2x
                  clear bx2x
                  refine WL.nil ?_
                  refine TW.exit ?_
                  refine O.miss rfl ?_
                  refine Xw.thn (by simp) ?_
                  refine O.miss rfl ?_
                  refine Xw.thn (by simp) ?_
                  refine O.miss rfl ?_
                  refine Xw.thn (by simp) ?_
                  refine O.miss rfl ?_
                  refine Xw.thn (by simp) ?_
                  refine Xw.hit ?_
                  refine Xw.nrm ?_
                  refine TW.sreg ?_
                  refine WL.ld rfl rfl rfl rfl rfl (qlB_ir_fields _ _ _ _ _ _ _ _ _ _ _ _ _ _ bx2) ?_
                  refine O.storeR rfl rfl rfl rfl rfl (qsA_ir_fields wa32 _ _ _ _ _ _ _ _ _ _ _ _ _ _ _ _ _ _ _ _ _ _ _ bx1) ?_
                  rintro wa33 ⟨fa33, bx1x⟩
                  replace bx2 := bx2.fr fa33 (fun e => by omega)
                  replace ff := ff.trans' fa33 (fun q hq e => by omega)
                  clear bx1
                  have bx1 := bx1x
                  clear bx1x
                  refine WL.nil ?_
                  refine TW.rt ?_
                  refine O.retc1 rfl rfl (run_loadVar_row _ _ _ 99 _ _ _ bx1 Try.underlying99 rfl (by kernel_rfl)) ?_
                  obtain rfl : x = 10 := by simpa using h10
                  exact ⟨_, _, _, _, _, _, _, rfl, ff⟩
                · skip
                  refine WL.op rfl rfl rfl (Go.Proofs.Ytobibplilbchfaa.W.quiet_assign rfl rfl) ?_
                  refine WL.nil ?_
                  refine TW.cond rfl (fun hb => by cases hb) (fun _ => ?_)
                  refine TW.skip ?_
                  refine TW.seq ?_
                  refine TW.seq ?_
                  refine TW.sreg ?_
                  refine WL.op rfl rfl rfl (Go.Proofs.Ytobibplilbchfaa.W.quiet_bin rfl rfl rfl (fun W => qb_eql_int W _ _ _ _)) ?_
                  refine O.split (fun h7 => ?_) (fun h7 => ?_)
                  · skip
                    refine WL.op rfl rfl rfl (Go.Proofs.Ytobibplilbchfaa.W.quiet_assign rfl rfl) ?_
                    refine WL.nil ?_
                    refine TW.cond rfl (fun _ => ?_) (fun hb => by cases hb)
                    refine TW.skip ?_
                    refine TW.cond rfl (fun _ => ?_) (fun hb => by cases hb)
                    refine TW.exit ?_
                    refine Xw.thn (by simp) ?_
                    refine Xw.thn (by simp) ?_
                    refine O.miss rfl ?_
                    refine Xw.thn (by simp) ?_
                    refine O.miss rfl ?_
                    refine Xw.thn (by simp) ?_
                    refine O.miss rfl ?_
                    refine Xw.thn (by simp) ?_
                    refine O.miss rfl ?_
                    refine Xw.thn (by simp) ?_
                    refine O.miss rfl ?_
                    refine Xw.thn (by simp) ?_
                    refine O.miss rfl ?_
                    refine Xw.thn (by simp) ?_
                    refine O.miss rfl ?_
                    refine Xw.thn (by simp) ?_
                    refine O.miss rfl ?_
                    refine Xw.thn (by simp) ?_
                    refine Xw.hit ?_
                    refine Xw.nrm ?_
                    refine TW.sreg ?_
                    refine WL.op rfl rfl rfl (Go.Proofs.Ytobibplilbchfaa.W.quiet_field rfl rfl (fun W => (qa_ir_fields_1 W _ _))) ?_
                    refine O.storeR rfl rfl rfl rfl rfl (qsF_bool wa3 _ 1 _ _ _ _ bx2 rfl) ?_
                    rintro wa34 ⟨fa34, bx2x⟩
                    replace bx1 := bx1.fr fa34 (fun e => by omega)
                    replace ff := ff.trans' fa34 (fun q hq e => by omega)
                    clear bx2
                    have bx2 := bx2x
                    clear bx2x
                    refine WL.op rfl rfl rfl (Go.Proofs.Ytobibplilbchfaa.W.quiet_field rfl rfl (fun W => (qa_ir_fields_6 W _ _))) ?_
                    refine O.storeR rfl rfl rfl rfl rfl (qsF_bool wa34 _ 6 _ _ _ _ bx2 rfl) ?_
                    rintro wa35 ⟨fa35, bx2x⟩
                    replace bx1 := bx1.fr fa35 (fun e => by omega)
                    replace ff := ff.trans' fa35 (fun q hq e => by omega)
                    clear bx2
                    have bx2 := bx2x
                    clear bx2x
                    refine WL.op rfl rfl rfl (Go.Proofs.Ytobibplilbchfaa.W.quiet_field rfl rfl (fun W => (qa_ir_fields_7 W _ _))) ?_
                    refine O.storeR rfl rfl rfl rfl rfl (qsF_bool wa35 _ 7 _ _ _ _ bx2 rfl) ?_
                    rintro wa36 ⟨fa36, bx2x⟩
                    replace bx1 := bx1.fr fa36 (fun e => by omega)
                    replace ff := ff.trans' fa36 (fun q hq e => by omega)
                    clear bx2
                    have bx2 := bx2x
                    clear bx2x
                    refine WL.nil ?_
                    refine TW.exit ?_
                    refine O.miss rfl ?_
                    refine Xw.thn (by simp) ?_
                    refine O.miss rfl ?_
                    refine Xw.thn (by simp) ?_
                    refine O.miss rfl ?_
                    refine Xw.thn (by simp) ?_
                    refine Xw.hit ?_
                    refine Xw.nrm ?_
                    refine TW.sreg ?_
                    refine WL.ld rfl rfl rfl rfl rfl (qlB_ir_fields _ _ _ _ _ _ _ _ _ _ _ _ _ _ bx2) ?_
                    refine O.storeR rfl rfl rfl rfl rfl (qsA_ir_fields wa36 _ _ _ _ _ _ _ _ _ _ _ _ _ _ _ _ _ _ _ _ _ _ _ bx1) ?_
                    rintro wa37 ⟨fa37, bx1x⟩
                    replace bx2 := bx2.fr fa37 (fun e => by omega)
                    replace ff := ff.trans' fa37 (fun q hq e => by omega)
                    clear bx1
                    have bx1 := bx1x
                    clear bx1x
                    refine WL.nil ?_
                    refine TW.rt ?_
                    refine O.retc1 rfl rfl (run_loadVar_row _ _ _ 99 _ _ _ bx1 Try.underlying99 rfl (by kernel_rfl)) ?_
                    obtain rfl : x = 7 := by simpa using h7
                    exact ⟨_, _, _, _, _, _, _, rfl, ff⟩
                  · skip
                    refine WL.op rfl rfl rfl (Go.Proofs.Ytobibplilbchfaa.W.quiet_assign rfl rfl) ?_
                    refine WL.nil ?_
                    refine TW.cond rfl (fun hb => by cases hb) (fun _ => ?_)
                    refine TW.reg ?_
                    refine WL.op rfl rfl rfl (Go.Proofs.Ytobibplilbchfaa.W.quiet_bin rfl rfl rfl (fun W => qb_eql_int W _ _ _ _)) ?_
                    refine O.split (fun h8 => ?_) (fun h8 => ?_)
                    · skip
                      refine WL.op rfl rfl rfl (Go.Proofs.Ytobibplilbchfaa.W.quiet_assign rfl rfl) ?_
                      refine WL.nil ?_
                      refine TW.cond rfl (fun _ => ?_) (fun hb => by cases hb)
                      refine TW.exit ?_
                      refine Xw.thn (by simp) ?_
                      refine Xw.thn (by simp) ?_
                      refine O.miss rfl ?_
                      refine Xw.thn (by simp) ?_
                      refine O.miss rfl ?_
                      refine Xw.thn (by simp) ?_
                      refine O.miss rfl ?_
                      refine Xw.thn (by simp) ?_
                      refine O.miss rfl ?_
                      refine Xw.thn (by simp) ?_
                      refine O.miss rfl ?_
                      refine Xw.thn (by simp) ?_
                      refine O.miss rfl ?_
                      refine Xw.thn (by simp) ?_
                      refine O.miss rfl ?_
                      refine Xw.thn (by simp) ?_
                      refine O.miss rfl ?_
                      refine Xw.thn (by simp) ?_
                      refine Xw.hit ?_
                      refine Xw.nrm ?_
                      refine TW.sreg ?_
                      refine WL.op rfl rfl rfl (Go.Proofs.Ytobibplilbchfaa.W.quiet_field rfl rfl (fun W => (qa_ir_fields_1 W _ _))) ?_
                      refine O.storeR rfl rfl rfl rfl rfl (qsF_bool wa3 _ 1 _ _ _ _ bx2 rfl) ?_
                      rintro wa38 ⟨fa38, bx2x⟩
                      replace bx1 := bx1.fr fa38 (fun e => by omega)
                      replace ff := ff.trans' fa38 (fun q hq e => by omega)
                      clear bx2
                      have bx2 := bx2x
                      clear bx2x
                      refine WL.op rfl rfl rfl (Go.Proofs.Ytobibplilbchfaa.W.quiet_field rfl rfl (fun W => (qa_ir_fields_6 W _ _))) ?_
                      refine O.storeR rfl rfl rfl rfl rfl (qsF_bool wa38 _ 6 _ _ _ _ bx2 rfl) ?_
                      rintro wa39 ⟨fa39, bx2x⟩
                      replace bx1 := bx1.fr fa39 (fun e => by omega)
                      replace ff := ff.trans' fa39 (fun q hq e => by omega)
                      clear bx2
                      have bx2 := bx2x
                      clear bx2x
                      refine WL.op rfl rfl rfl (Go.Proofs.Ytobibplilbchfaa.W.quiet_field rfl rfl (fun W => (qa_ir_fields_7 W _ _))) ?_
                      refine O.storeR rfl rfl rfl rfl rfl (qsF_bool wa39 _ 7 _ _ _ _ bx2 rfl) ?_
                      rintro wa40 ⟨fa40, bx2x⟩
                      replace bx1 := bx1.fr fa40 (fun e => by omega)
                      replace ff := ff.trans' fa40 (fun q hq e => by omega)
                      clear bx2
                      have bx2 := bx2x
                      clear bx2x
                      refine WL.nil ?_
                      refine TW.exit ?_
                      refine O.miss rfl ?_
                      refine Xw.thn (by simp) ?_
                      refine O.miss rfl ?_
                      refine Xw.thn (by simp) ?_
                      refine O.miss rfl ?_
                      refine Xw.thn (by simp) ?_
                      refine Xw.hit ?_
                      refine Xw.nrm ?_
                      refine TW.sreg ?_
                      refine WL.ld rfl rfl rfl rfl rfl (qlB_ir_fields _ _ _ _ _ _ _ _ _ _ _ _ _ _ bx2) ?_
                      refine O.storeR rfl rfl rfl rfl rfl (qsA_ir_fields wa40 _ _ _ _ _ _ _ _ _ _ _ _ _ _ _ _ _ _ _ _ _ _ _ bx1) ?_
                      rintro wa41 ⟨fa41, bx1x⟩
                      replace bx2 := bx2.fr fa41 (fun e => by omega)
                      replace ff := ff.trans' fa41 (fun q hq e => by omega)
                      clear bx1
                      have bx1 := bx1x
                      clear bx1x
                      refine WL.nil ?_
                      refine TW.rt ?_
                      refine O.retc1 rfl rfl (run_loadVar_row _ _ _ 99 _ _ _ bx1 Try.underlying99 rfl (by kernel_rfl)) ?_
                      obtain rfl : x = 8 := by simpa using h8
                      exact ⟨_, _, _, _, _, _, _, rfl, ff⟩
                    · skip
                      refine WL.op rfl rfl rfl (Go.Proofs.Ytobibplilbchfaa.W.quiet_assign rfl rfl) ?_
                      refine WL.nil ?_
                      refine TW.cond rfl (fun hb => by cases hb) (fun _ => ?_)
                      refine TW.skip ?_
                      refine TW.seq ?_
                      refine TW.sreg ?_
                      refine WL.op rfl rfl rfl (Go.Proofs.Ytobibplilbchfaa.W.quiet_bin rfl rfl rfl (fun W => qb_eql_int W _ _ _ _)) ?_
                      refine O.split (fun h9 => ?_) (fun h9 => ?_)
                      · skip
                        refine WL.op rfl rfl rfl (Go.Proofs.Ytobibplilbchfaa.W.quiet_assign rfl rfl) ?_
                        refine WL.nil ?_
                        refine TW.cond rfl (fun _ => ?_) (fun hb => by cases hb)
                        refine TW.exit ?_
                        refine Xw.thn (by simp) ?_
                        refine Xw.thn (by simp) ?_
                        refine O.miss rfl ?_
                        refine Xw.thn (by simp) ?_
                        refine O.miss rfl ?_
                        refine Xw.thn (by simp) ?_
                        refine O.miss rfl ?_
                        refine Xw.thn (by simp) ?_
                        refine O.miss rfl ?_
                        refine Xw.thn (by simp) ?_
                        refine O.miss rfl ?_
                        refine Xw.thn (by simp) ?_
                        refine O.miss rfl ?_
                        refine Xw.thn (by simp) ?_
                        refine O.miss rfl ?_
                        refine Xw.thn (by simp) ?_
                        refine O.miss rfl ?_
                        refine Xw.thn (by simp) ?_
                        refine O.miss rfl ?_
                        refine Xw.thn (by simp) ?_
                        refine Xw.hit ?_
                        refine Xw.nrm ?_
                        refine TW.sreg ?_
                        refine WL.op rfl rfl rfl (Go.Proofs.Ytobibplilbchfaa.W.quiet_field rfl rfl (fun W => (qa_ir_fields_1 W _ _))) ?_
                        refine O.storeR rfl rfl rfl rfl rfl (qsF_bool wa3 _ 1 _ _ _ _ bx2 rfl) ?_
                        rintro wa42 ⟨fa42, bx2x⟩
                        replace bx1 := bx1.fr fa42 (fun e => by omega)
                        replace ff := ff.trans' fa42 (fun q hq e => by omega)
                        clear bx2
                        have bx2 := bx2x
                        clear bx2x
                        refine WL.op rfl rfl rfl (Go.Proofs.Ytobibplilbchfaa.W.quiet_field rfl rfl (fun W => (qa_ir_fields_6 W _ _))) ?_
                        refine O.storeR rfl rfl rfl rfl rfl (qsF_bool wa42 _ 6 _ _ _ _ bx2 rfl) ?_
                        rintro wa43 ⟨fa43, bx2x⟩
                        replace bx1 := bx1.fr fa43 (fun e => by omega)
                        replace ff := ff.trans' fa43 (fun q hq e => by omega)
                        clear bx2
                        have bx2 := bx2x
                        clear bx2x
                        refine WL.op rfl rfl rfl (Go.Proofs.Ytobibplilbchfaa.W.quiet_field rfl rfl (fun W => (qa_ir_fields_4 W _ _))) ?_
                        refine O.storeR rfl rfl rfl rfl rfl (qsF_bool wa43 _ 4 _ _ _ _ bx2 rfl) ?_
                        rintro wa44 ⟨fa44, bx2x⟩
                        replace bx1 := bx1.fr fa44 (fun e => by omega)
                        replace ff := ff.trans' fa44 (fun q hq e => by omega)
                        clear bx2
                        have bx2 := bx2x
                        clear bx2x
                        refine WL.nil ?_
                        refine TW.exit ?_
                        refine O.miss rfl ?_
                        refine Xw.thn (by simp) ?_
                        refine O.miss rfl ?_
                        refine Xw.thn (by simp) ?_
                        refine Xw.hit ?_
                        refine Xw.nrm ?_
                        refine TW.sreg ?_
                        refine WL.ld rfl rfl rfl rfl rfl (qlB_ir_fields _ _ _ _ _ _ _ _ _ _ _ _ _ _ bx2) ?_
                        refine O.storeR rfl rfl rfl rfl rfl (qsA_ir_fields wa44 _ _ _ _ _ _ _ _ _ _ _ _ _ _ _ _ _ _ _ _ _ _ _ bx1) ?_
                        rintro wa45 ⟨fa45, bx1x⟩
                        replace bx2 := bx2.fr fa45 (fun e => by omega)
                        replace ff := ff.trans' fa45 (fun q hq e => by omega)
                        clear bx1
                        have bx1 := bx1x
                        clear bx1x
                        refine WL.nil ?_
                        refine TW.rt ?_
                        refine O.retc1 rfl rfl (run_loadVar_row _ _ _ 99 _ _ _ bx1 Try.underlying99 rfl (by kernel_rfl)) ?_
                        obtain rfl : x = 9 := by simpa using h9
                        exact ⟨_, _, _, _, _, _, _, rfl, ff⟩
                      · skip
                        refine WL.op rfl rfl rfl (Go.Proofs.Ytobibplilbchfaa.W.quiet_assign rfl rfl) ?_
                        refine WL.nil ?_
                        refine TW.cond rfl (fun hb => by cases hb) (fun _ => ?_)
                        refine TW.skip ?_
                        refine TW.sreg ?_
                        refine WL.op rfl rfl rfl (Go.Proofs.Ytobibplilbchfaa.W.quiet_bin rfl rfl rfl (fun W => qb_eql_int W _ _ _ _)) ?_
                        refine O.split (fun h12 => ?_) (fun h12 => ?_)
                        · skip
                          refine WL.op rfl rfl rfl (Go.Proofs.Ytobibplilbchfaa.W.quiet_assign rfl rfl) ?_
                          refine WL.nil ?_
                          refine TW.cond rfl (fun _ => ?_) (fun hb => by cases hb)
                          refine TW.exit ?_
                          refine Xw.thn (by simp) ?_
                          refine O.miss rfl ?_
                          refine Xw.thn (by simp) ?_
                          refine O.miss rfl ?_
                          refine Xw.thn (by simp) ?_
                          refine O.miss rfl ?_
                          refine Xw.thn (by simp) ?_
                          refine O.miss rfl ?_
                          refine Xw.thn (by simp) ?_
                          refine O.miss rfl ?_
                          refine Xw.thn (by simp) ?_
                          refine O.miss rfl ?_
                          refine Xw.thn (by simp) ?_
                          refine O.miss rfl ?_
                          refine Xw.thn (by simp) ?_
                          refine O.miss rfl ?_
                          refine Xw.thn (by simp) ?_
                          refine O.miss rfl ?_
                          refine Xw.thn (by simp) ?_
                          refine O.miss rfl ?_
                          refine Xw.thn (by simp) ?_
                          refine Xw.hit ?_
                          refine Xw.nrm ?_
                          refine TW.exit ?_
                          refine O.miss rfl ?_
                          refine Xw.thn (by simp) ?_
                          refine Xw.hit ?_
                          refine Xw.nrm ?_
                          refine TW.sreg ?_
                          refine WL.ld rfl rfl rfl rfl rfl (qlB_ir_fields _ _ _ _ _ _ _ _ _ _ _ _ _ _ bx2) ?_
                          refine O.storeR rfl rfl rfl rfl rfl (qsA_ir_fields wa3 _ _ _ _ _ _ _ _ _ _ _ _ _ _ _ _ _ _ _ _ _ _ _ bx1) ?_
                          rintro wa46 ⟨fa46, bx1x⟩
                          replace bx2 := bx2.fr fa46 (fun e => by omega)
                          replace ff := ff.trans' fa46 (fun q hq e => by omega)
                          clear bx1
                          have bx1 := bx1x
                          clear bx1x
                          refine WL.nil ?_
                          refine TW.rt ?_
                          refine O.retc1 rfl rfl (run_loadVar_row _ _ _ 99 _ _ _ bx1 Try.underlying99 rfl (by kernel_rfl)) ?_
                          obtain rfl : x = 12 := by simpa using h12
                          exact ⟨_, _, _, _, _, _, _, rfl, ff⟩
                        · skip
                          refine WL.op rfl rfl rfl (Go.Proofs.Ytobibplilbchfaa.W.quiet_assign rfl rfl) ?_
                          refine WL.nil ?_
                          refine TW.cond rfl (fun hb => by cases hb) (fun _ => ?_)
                          refine TW.skip ?_
                          refine TW.exit ?_
                          refine O.miss rfl ?_
                          refine Xw.thn (by simp) ?_
                          refine O.miss rfl ?_
                          refine Xw.thn (by simp) ?_
                          refine O.miss rfl ?_
                          refine Xw.thn (by simp) ?_
                          refine O.miss rfl ?_
                          refine Xw.thn (by simp) ?_
                          refine O.miss rfl ?_
                          refine Xw.thn (by simp) ?_
                          refine O.miss rfl ?_
                          refine Xw.thn (by simp) ?_
                          refine O.miss rfl ?_
                          refine Xw.thn (by simp) ?_
                          refine O.miss rfl ?_
                          refine Xw.thn (by simp) ?_
                          refine O.miss rfl ?_
                          refine Xw.thn (by simp) ?_
                          refine O.miss rfl ?_
                          refine Xw.thn (by simp) ?_
                          refine O.miss rfl ?_
                          refine Xw.thn (by simp) ?_
                          refine Xw.hit ?_
                          refine Xw.nrm ?_
                          refine TW.sreg ?_
                          refine WL.op rfl rfl rfl (Go.Proofs.Ytobibplilbchfaa.W.quiet_field rfl rfl (fun W => (qa_ir_fields_0 W _ _))) ?_
                          refine O.storeR rfl rfl rfl rfl rfl (qsF_bool wa3 _ 0 _ _ _ _ bx2 rfl) ?_
                          rintro wa47 ⟨fa47, bx2x⟩
                          replace bx1 := bx1.fr fa47 (fun e => by omega)
                          replace ff := ff.trans' fa47 (fun q hq e => by omega)
                          clear bx2
                          have bx2 := bx2x
                          clear bx2x
                          refine WL.nil ?_
                          refine TW.exit ?_
                          refine Xw.hit ?_
                          refine Xw.nrm ?_
                          refine TW.sreg ?_
                          refine WL.ld rfl rfl rfl rfl rfl (qlB_ir_fields _ _ _ _ _ _ _ _ _ _ _ _ _ _ bx2) ?_
                          refine O.storeR rfl rfl rfl rfl rfl (qsA_ir_fields wa47 _ _ _ _ _ _ _ _ _ _ _ _ _ _ _ _ _ _ _ _ _ _ _ bx1) ?_
                          rintro wa48 ⟨fa48, bx1x⟩
                          replace bx2 := bx2.fr fa48 (fun e => by omega)
                          replace ff := ff.trans' fa48 (fun q hq e => by omega)
                          clear bx1
                          have bx1 := bx1x
                          clear bx1x
                          refine WL.nil ?_
                          refine TW.rt ?_
                          refine O.retc1 rfl rfl (run_loadVar_row _ _ _ 99 _ _ _ bx1 Try.underlying99 rfl (by kernel_rfl)) ?_
                          have g : ∀ k : Int, (x == k) = false → ¬ x = k := fun k h => by simpa using h
                          have e1 : hD x = false := by unfold hD; rw [h1, h2, h3, h4, h5, h7, h8, h9, h11]; rfl
                          have e2 : hA x = false := by unfold hA; rw [h2, h3, h4, h5, h6, h10]; rfl
                          have e3 : hB x = false := by unfold hB; rw [h3, h6]; rfl
                          have e4 : hR x = false := h9
                          unfold FldP
                          rw [e1, e2, e3, e4]
                          exact ⟨_, _, _, _, _, _, _, rfl, ff⟩
end Go.Proofs.Ytobibplilbchfaa
