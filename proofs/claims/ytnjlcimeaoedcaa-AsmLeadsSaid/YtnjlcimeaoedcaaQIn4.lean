/-
  Items (layer 5): the contract of instructions: a jump. Items (layer 5): the contract of instructions for all items, of Assemble where it makes words, and where a label stands twice or nowhere. Items (layer 5): every instruction that items are turned into fits; the words of all items.
-/
import Derived.Test.YtnjlcimeaoedcaaQAsmU
import Derived.Test.YtnjlcimeaoedcaaQMkD
import Derived.Test.YtnjlcimeaoedcaaQAsmX
namespace Go.Proofs.Ytnjlcimeaoedcaa
open Go.RowKit
set_option linter.unusedVariables false
set_option linter.unusedSimpArgs false
section
variable (w : World) (b o n c j : Nat)
theorem pbx (v0 v1 v2 v3 : Value) : (Instr.box 58 (.agg #[v0, v1, v2, v3])).run Try.prog w = .ok (.pointer (some ⟨w.heap.size, 0, none⟩)) (w.alloc (.cells #[v0, v1, v2, v3] 58)) := by simp [go_sem]
theorem pp0 : (Instr.fieldAt 58 (.pointer (some ⟨b, o, none⟩)) 0).run Try.prog w = .ok (.pointer (some ⟨b, o, none⟩)) w := by simp [go_sem]
theorem pf0 : (Instr.fieldAt 40 (.pointer (some ⟨b, o, none⟩)) 0).run Try.prog w = .ok (.pointer (some ⟨b, o, none⟩)) w := by simp [go_sem]
theorem pf1 : (Instr.fieldAt 40 (.pointer (some ⟨b, o, none⟩)) 1).run Try.prog w = .ok (.pointer (some ⟨b, o + 1, none⟩)) w := by simp [go_sem]
theorem pn1 : (Instr.fieldAt 38 (.pointer (some ⟨b, o, none⟩)) 1).run Try.prog w = .ok (.pointer (some ⟨b, o + 1, none⟩)) w := by simp [go_sem]
theorem pix (hj : j < n) : (Instr.indexAt 22 (.slice (some ⟨b, o, none⟩) n c) (.int .i64 (j : Int))).run Try.prog w = .ok (.pointer (some ⟨b, o + j * 7, none⟩)) w := by
  have h : (j : Int) < (n : Int) := by omega
  simp [go_sem, h, hj]
theorem pld_sl (a : Option Addr) (k l : Nat) (d : Addr) (h : w.cell? d = some (.slice a k l)) : (Instr.loadAt 22 (.pointer (some d))).run Try.prog w = .ok (.slice a k l) w := by simp [go_sem, h]
theorem pld_item (u0 u1 u2 u3 u4 u5 u6 : Value) (h0 : w.cell? ⟨b, o, none⟩ = some u0) (h1 : w.cell? ⟨b, o + 1, none⟩ = some u1) (h2 : w.cell? ⟨b, o + 2, none⟩ = some u2) (h3 : w.cell? ⟨b, o + 3, none⟩ = some u3) (h4 : w.cell? ⟨b, o + 4, none⟩ = some u4) (h5 : w.cell? ⟨b, o + 5, none⟩ = some u5) (h6 : w.cell? ⟨b, o + 6, none⟩ = some u6) : (Instr.loadAt 40 (.pointer (some ⟨b, o, none⟩))).run Try.prog w = .ok (.agg #[u0, u1, u2, u3, u4, u5, u6]) w := by simp [go_sem, h0, h1, h2, h3, h4, h5, h6]
theorem pld_inst (u1 u2 u3 u4 u5 : Value) (h1 : w.cell? ⟨b, o, none⟩ = some u1) (h2 : w.cell? ⟨b, o + 1, none⟩ = some u2) (h3 : w.cell? ⟨b, o + 2, none⟩ = some u3) (h4 : w.cell? ⟨b, o + 3, none⟩ = some u4) (h5 : w.cell? ⟨b, o + 4, none⟩ = some u5) : (Instr.loadAt 38 (.pointer (some ⟨b, o, none⟩))).run Try.prog w = .ok (.agg #[u1, u2, u3, u4, u5]) w := by simp [go_sem, h1, h2, h3, h4, h5]
theorem pld_plc (u1 u2 u3 u4 : Value) (h1 : w.cell? ⟨b, o, none⟩ = some u1) (h2 : w.cell? ⟨b, o + 1, none⟩ = some u2) (h3 : w.cell? ⟨b, o + 2, none⟩ = some u3) (h4 : w.cell? ⟨b, o + 3, none⟩ = some u4) : (Instr.loadAt 58 (.pointer (some ⟨b, o, none⟩))).run Try.prog w = .ok (.agg #[u1, u2, u3, u4]) w := by simp [go_sem, h1, h2, h3, h4]
theorem pal_it : (Instr.alloc 40 true (.tuple #[])).run Try.prog w = .ok (.pointer (some ⟨w.heap.size, 0, none⟩)) (w.alloc (.cells #[.int .i64 0, .int .i64 0, .int .i64 0, .int .i64 0, .int .i64 0, .int .i64 0, .int .i64 0] 40)) := by simp [go_sem]
theorem pst_it (u0 u1 u2 u3 u4 u5 u6 : Int) : (Instr.storeAt 40 (.pointer (some ⟨w.heap.size, 0, none⟩)) (.agg #[.int .i64 u0, .int .i64 u1, .int .i64 u2, .int .i64 u3, .int .i64 u4, .int .i64 u5, .int .i64 u6])).run Try.prog (w.alloc (.cells #[.int .i64 0, .int .i64 0, .int .i64 0, .int .i64 0, .int .i64 0, .int .i64 0, .int .i64 0] 40)) = .ok () (w.alloc (.cells #[.int .i64 u0, .int .i64 u1, .int .i64 u2, .int .i64 u3, .int .i64 u4, .int .i64 u5, .int .i64 u6] 40)) := by simp [go_sem]
theorem pal_in : (Instr.alloc 38 true (.tuple #[])).run Try.prog w = .ok (.pointer (some ⟨w.heap.size, 0, none⟩)) (w.alloc (.cells #[.int .i64 0, .int .i64 0, .int .i64 0, .int .i64 0, .int .i64 0] 38)) := by simp [go_sem]
theorem pst_in (g : Nat) (u0 u1 u2 u3 u4 : Int) (h : Rw w g #[.int .i64 0, .int .i64 0, .int .i64 0, .int .i64 0, .int .i64 0] 38) : (Instr.storeAt 38 (.pointer (some ⟨g, 0, none⟩)) (.agg #[.int .i64 u0, .int .i64 u1, .int .i64 u2, .int .i64 u3, .int .i64 u4])).run Try.prog w = .ok () (((((w.setCell ⟨g, 0, none⟩ (.int .i64 u0)).setCell ⟨g, 1, none⟩ (.int .i64 u1)).setCell ⟨g, 2, none⟩ (.int .i64 u2)).setCell ⟨g, 3, none⟩ (.int .i64 u3)).setCell ⟨g, 4, none⟩ (.int .i64 u4)) := by
  have a0 := h.cell (j := 0) rfl
  have a1 := h.cell (j := 1) rfl
  have a2 := h.cell (j := 2) rfl
  have a3 := h.cell (j := 3) rfl
  have a4 := h.cell (j := 4) rfl
  have f0 := h.free 0
  simp [go_sem, a0, a1, a2, a3, a4, h.free]
theorem pbs_1 (u0 u1 u2 u3 u4 : Int) : (Instr.buildSlice 85 1 #[(0, .agg #[.int .i64 u0, .int .i64 u1, .int .i64 u2, .int .i64 u3, .int .i64 u4])]).run Try.prog w = .ok (.slice (some ⟨w.heap.size, 0, none⟩) 1 1) (w.alloc (.cells #[.int .i64 u0, .int .i64 u1, .int .i64 u2, .int .i64 u3, .int .i64 u4] 38)) := by simp [go_sem]
theorem pcf_off (vs : Array Value) : (callFunc 67 vs).run Try.prog w = .ok (.enter 67 vs) w := by simp [go_sem]
theorem pcf_jmp (vs : Array Value) : (callFunc 69 vs).run Try.prog w = .ok (.enter 69 vs) w := by simp [go_sem]
end
theorem bodyw_ret2 {P : Program} {N : Nat} {s : List (Nat × Value)} {w : World} {fn : Func} {R : Ending → World → Prop} {t u : Nat} {v v' : Value} (hr : fn.results = #[.tmp t, .tmp u]) (hv : lk s t = some v) (hv' : lk s u = some v') (h : R (.returned (.tuple #[v, v'])) w) : Xw .ret N (bodyPost P fn R) s w := fun a k => by
  refine ⟨k.defers, .tuple #[v, v'], ?_, h⟩
  rw [results_tmp2 hr]
  have h1 := k.has t v hv
  have h2 := k.has u v' hv'
  simp only [Array.getD_eq_getD_getElem?, h1, h2, Option.getD_some]
set_option maxRecDepth 100000 in
set_option maxHeartbeats 3200000 in
theorem ins4 (g o n c k : Nat) (sg ss sa : Value) (x : It) (w : World) (hk : k < n) (hfew : n ≤ 32768) (e : x.k = 4) (D : Int) (hJ : jumpB D = true) (HOFF : Hid (∀ w3, Fr (fun _ => False) w w3 → Calls Try.prog 67 #[.agg #[.slice (some ⟨g, o, none⟩) n c, sg, ss, sa], .int .i64 k] w3 fun e w4 => e = .returned (.int .i64 D) ∧ Fr (fun _ => False) w3 w4)) (c0 : w.cell? ⟨g, o + k * 7, none⟩ = some (.int .i64 x.k)) (c1 : w.cell? ⟨g, o + k * 7 + 1, none⟩ = some (.int .i64 x.op)) (c2 : w.cell? ⟨g, o + k * 7 + 2, none⟩ = some (.int .i64 x.rd)) (c3 : w.cell? ⟨g, o + k * 7 + 3, none⟩ = some (.int .i64 x.r1)) (c4 : w.cell? ⟨g, o + k * 7 + 4, none⟩ = some (.int .i64 x.r2)) (c5 : w.cell? ⟨g, o + k * 7 + 5, none⟩ = some (.int .i64 x.imm)) (c6 : w.cell? ⟨g, o + k * 7 + 6, none⟩ = some (.int .i64 x.lab)) :
    Calls Try.prog 44 #[.agg #[.slice (some ⟨g, o, none⟩) n c, sg, ss, sa], .int .i64 k] w (InsE (some [⟨3, x.rd, 0, 0, D⟩]) w) := by
  have IXX := fun W => pix W g o n c k hk
  refine calls_tw Try.func44 rfl rfl (Nat.le_of_ble_eq_true rfl) ?_
  refine TW.sreg ?_
  refine WL.box rfl rfl rfl rfl rfl (pbx _ _ _ _ _) ?_
  refine WL.op rfl rfl rfl (W.quiet_assign rfl rfl) ?_
  refine WL.op rfl rfl rfl (W.quiet_assign rfl rfl) ?_
  refine WL.nil ?_
  have fp := fr_al (Fr.refl (fun _ => False) w) (.cells #[.slice (some ⟨g, o, none⟩) n c, sg, ss, sa] 58)
  have rp := Rw.new w #[.slice (some ⟨g, o, none⟩) n c, sg, ss, sa] 58
  generalize w.alloc (.cells #[.slice (some ⟨g, o, none⟩) n c, sg, ss, sa] 58) = w1 at *
  obtain ⟨bp, hbp⟩ : ∃ q, w.heap.size = q := ⟨_, rfl⟩
  rw [hbp] at rp ⊢
  replace c0 := fp.cell c0 id
  replace c1 := fp.cell c1 id
  replace c2 := fp.cell c2 id
  replace c3 := fp.cell c3 id
  replace c4 := fp.cell c4 id
  replace c5 := fp.cell c5 id
  replace c6 := fp.cell c6 id
  refine TW.sreg ?_
  refine WL.op rfl rfl rfl (W.quiet_field rfl rfl (fun W => pp0 W _ _)) ?_
  refine WL.ld rfl rfl rfl rfl rfl (pld_sl _ _ _ _ _ (rp.cell rfl)) ?_
  refine WL.op rfl rfl rfl (W.quiet_move rfl rfl) ?_
  refine WL.op rfl rfl rfl (W.quiet_index rfl rfl rfl IXX) ?_
  refine WL.ld rfl rfl rfl rfl rfl (pld_item _ _ _ _ _ _ _ _ _ _ c0 c1 c2 c3 c4 c5 c6) ?_
  refine WL.alloc rfl rfl rfl rfl (pal_it _) ?_
  refine WL.store rfl rfl rfl rfl rfl (pst_it _ _ _ _ _ _ _ _) ?_
  refine WL.nil ?_
  have rx := Rw.new w1 #[.int .i64 x.k, .int .i64 x.op, .int .i64 x.rd, .int .i64 x.r1, .int .i64 x.r2, .int .i64 x.imm, .int .i64 x.lab] 40
  have f2 := fr_al (Fr.refl (fun _ => False) w1) (.cells #[.int .i64 x.k, .int .i64 x.op, .int .i64 x.rd, .int .i64 x.r1, .int .i64 x.r2, .int .i64 x.imm, .int .i64 x.lab] 40)
  replace rp := rp.fr f2 id
  have f12 := fp.trans f2
  generalize w1.alloc (.cells #[.int .i64 x.k, .int .i64 x.op, .int .i64 x.rd, .int .i64 x.r1, .int .i64 x.r2, .int .i64 x.imm, .int .i64 x.lab] 40) = w2 at *
  generalize w1.heap.size = bx at *
  have LK : ∀ W, Fr (fun _ => False)  w2 W → (Instr.loadAt 3 (.pointer (some ⟨bx, 0, none⟩))).run Try.prog W = .ok (.int .i64 x.k) W := fun W hW => ld_int _ _ _ ((rx.fr hW id).cell rfl)
  have LR : ∀ W, Fr (fun _ => False)  w2 W → (Instr.loadAt 3 (.pointer (some ⟨bx, 0 + 1 + 1, none⟩))).run Try.prog W = .ok (.int .i64 x.rd) W := fun W hW => ld_int _ _ _ ((rx.fr hW id).cell rfl)
  have LP : ∀ W, Fr (fun _ => False)  w2 W → (Instr.loadAt 58 (.pointer (some ⟨bp, 0, none⟩))).run Try.prog W = .ok (.agg #[.slice (some ⟨g, o, none⟩) n c, sg, ss, sa]) W := fun W hW => pld_plc _ _ _ _ _ _ _ ((rp.fr hW id).cell rfl) ((rp.fr hW id).cell rfl) ((rp.fr hW id).cell rfl) ((rp.fr hW id).cell rfl)
  refine TW.seq ?_
  refine TW.sreg ?_
  refine WL.op rfl rfl rfl (W.quiet_field rfl rfl (fun W => pf0 W _ _)) ?_
  refine WL.ld rfl rfl rfl rfl rfl (LK _ (Fr.refl _ _)) ?_
  refine WL.nil ?_
  refine TW.block ?_
  refine TW.sreg ?_
  refine WL.op rfl rfl rfl (W.quiet_bin rfl rfl rfl (fun W => bn_eq W _ _ _ _)) ?_
  refine WL.op rfl rfl rfl (W.quiet_assign rfl rfl) ?_
  refine WL.nil ?_
  rw [show (x.k == 1) = false by rw [e]; rfl]
  refine TW.cond rfl (fun hb => by cases hb) (fun _ => ?_)
  refine TW.sreg ?_
  refine WL.op rfl rfl rfl (W.quiet_bin rfl rfl rfl (fun W => bn_eq W _ _ _ _)) ?_
  refine WL.op rfl rfl rfl (W.quiet_assign rfl rfl) ?_
  refine WL.nil ?_
  rw [show (x.k == 5) = false by rw [e]; rfl]
  refine TW.cond rfl (fun hb => by cases hb) (fun _ => ?_)
  refine TW.sreg ?_
  refine WL.op rfl rfl rfl (W.quiet_bin rfl rfl rfl (fun W => bn_eq W _ _ _ _)) ?_
  refine WL.op rfl rfl rfl (W.quiet_assign rfl rfl) ?_
  refine WL.nil ?_
  rw [show (x.k == 3) = false by rw [e]; rfl]
  refine TW.cond rfl (fun hb => by cases hb) (fun _ => ?_)
  refine TW.sreg ?_
  refine WL.op rfl rfl rfl (W.quiet_bin rfl rfl rfl (fun W => bn_eq W _ _ _ _)) ?_
  refine WL.op rfl rfl rfl (W.quiet_assign rfl rfl) ?_
  refine WL.nil ?_
  rw [show (x.k == 4) = true by rw [e]; rfl]
  refine TW.cond rfl (fun _ => ?_) (fun hb => by cases hb)
  refine TW.sregH (fun W => Fr (fun _ => False)  w2 W) (by kernel_rfl) ?_
  have HW : Fr (fun _ => False) w2 w2.drew := (Fr.refl _ _).drewN 1
  generalize w2.drew = W at *
  refine WH.take 0 rfl (by kernel_rfl) (by kernel_rfl) (by kernel_rfl) (fun _ _ _ _ _ h => h) rfl rfl rfl HW (RH.field rfl rfl (fun W => pf1 W _ _)) ?_
  refine WH.take 1 rfl (by kernel_rfl) (by kernel_rfl) (by kernel_rfl) (fun _ _ _ _ _ h => h) rfl rfl rfl HW (RH.field rfl rfl (fun W => pn1 W _ _)) ?_
  refine WH.take 2 rfl (by kernel_rfl) (by kernel_rfl) (by kernel_rfl) (fun _ _ _ _ _ h => h) rfl rfl rfl HW (RH.load rfl rfl LR) ?_
  refine WH.take 3 rfl (by kernel_rfl) (by kernel_rfl) (by kernel_rfl) (fun _ _ _ _ _ h => h) rfl rfl rfl HW (RH.load rfl rfl LP) ?_
  refine WH.take 4 rfl (by kernel_rfl) (by kernel_rfl) (by kernel_rfl) (fun _ _ _ _ _ h => h) rfl rfl rfl HW (RH.move rfl rfl) ?_
  refine WH.two 5 10 (by kernel_rfl) rfl rfl ?_ ?_
  ·
    refine WL.call (hr := HOFF.out W (f12.trans HW)) rfl rfl rfl rfl rfl (fun W => pcf_off W _) ?_
    rintro e W' ⟨rfl, hf⟩
    refine ⟨_, rfl, ?_⟩
    replace HW := HW.trans hf
    clear hf
    generalize W' = W at *
    refine WL.fin HW ?_
    refine WH.two 6 10 (by kernel_rfl) rfl rfl ?_ ?_
    ·
      refine WL.call (hr := jump_yes x.rd D hJ W) rfl rfl rfl rfl rfl (fun W => pcf_jmp W _) ?_
      rintro e W' ⟨rfl, hg⟩
      have hf : Fr (fun _ => False) W W' := Fr.of_grown hg
      refine ⟨_, rfl, ?_⟩
      replace HW := HW.trans hf
      clear hf hg
      generalize W' = W at *
      refine WL.fin HW ?_
      refine WH.take 7 rfl (by kernel_rfl) (by kernel_rfl) (by kernel_rfl) (fun _ _ _ _ _ h => h) rfl rfl rfl HW (RH.move rfl rfl) ?_
      refine WH.take 8 rfl (by kernel_rfl) (by kernel_rfl) (by kernel_rfl) (fun _ _ _ _ _ h => h) rfl rfl rfl HW (RH.extract rfl rfl rfl) ?_
      refine WH.take 9 rfl (by kernel_rfl) (by kernel_rfl) (by kernel_rfl) (fun _ _ _ _ _ h => h) rfl rfl rfl HW (RH.extract rfl rfl rfl) ?_
      refine WH.one 10 (by kernel_rfl) rfl ?_
      have hbn : w2.heap.size ≤ W.heap.size := HW.size
      refine WL.alloc rfl rfl rfl rfl (pal_in _) ?_
      have rr := Rw.new W #[.int .i64 0, .int .i64 0, .int .i64 0, .int .i64 0, .int .i64 0] 38
      replace HW := fr_al HW (.cells #[.int .i64 0, .int .i64 0, .int .i64 0, .int .i64 0, .int .i64 0] 38)
      generalize W.heap.size = bn at *
      generalize W.alloc (.cells #[.int .i64 0, .int .i64 0, .int .i64 0, .int .i64 0, .int .i64 0] 38) = W at *
      refine WL.fin HW ?_
      refine WH.one 11 (by kernel_rfl) rfl ?_
      refine WL.store rfl rfl rfl rfl rfl (pst_in _ _ _ _ _ _ _ rr) ?_
      replace rr := ((((rr.set 0 (.int .i64 3)).set 1 (.int .i64 x.rd)).set 2 (.int .i64 0)).set 3 (.int .i64 0)).set 4 (.int .i64 D)
      replace HW := fr_set (fr_set (fr_set (fr_set (fr_set HW hbn 0 (.int .i64 3)) hbn 1 (.int .i64 x.rd)) hbn 2 (.int .i64 0)) hbn 3 (.int .i64 0)) hbn 4 (.int .i64 D)
      generalize ((((W.setCell ⟨bn, 0, none⟩ (.int .i64 3)).setCell ⟨bn, 1, none⟩ (.int .i64 x.rd)).setCell ⟨bn, 2, none⟩ (.int .i64 0)).setCell ⟨bn, 3, none⟩ (.int .i64 0)).setCell ⟨bn, 4, none⟩ (.int .i64 D) = W at *
      refine WL.fin HW ?_
      refine WH.take 12 rfl (by kernel_rfl) (by kernel_rfl) (by kernel_rfl) (fun _ _ _ _ _ h => h) rfl rfl rfl HW (RH.assign rfl rfl) ?_
      refine WH.done (by kernel_rfl) ?_
      refine TW.sreg ?_
      refine WL.ld rfl rfl rfl rfl rfl (pld_inst _ _ _ _ _ _ _ _ (rr.cell rfl) (rr.cell rfl) (rr.cell rfl) (rr.cell rfl) (rr.cell rfl)) ?_
      refine WL.bslice rfl rfl rfl rfl rfl (pbs_1 _ _ _ _ _ _) ?_
      refine WL.op rfl rfl rfl (Go.Proofs.Ytnjlcimeaoedcaa.W.quiet_move rfl rfl) ?_
      refine WL.op rfl rfl rfl (Go.Proofs.Ytnjlcimeaoedcaa.W.quiet_assign rfl rfl) ?_
      refine WL.op rfl rfl rfl (Go.Proofs.Ytnjlcimeaoedcaa.W.quiet_assign rfl rfl) ?_
      refine WL.nil ?_
      refine TW.rt ?_
      repeat (with_reducible first | refine Xw.thn (by simp) ?_ | refine Xw.rblk ?_)
      refine bodyw_ret2 rfl rfl rfl ?_
      exact insE_1 (i := ⟨3, x.rd, 0, 0, D⟩) rfl rfl (f12.trans HW)
    ·
      have hbn : w2.heap.size ≤ W.heap.size := HW.size
      refine WL.alloc rfl rfl rfl rfl (pal_in _) ?_
      have rr := Rw.new W #[.int .i64 0, .int .i64 0, .int .i64 0, .int .i64 0, .int .i64 0] 38
      replace HW := fr_al HW (.cells #[.int .i64 0, .int .i64 0, .int .i64 0, .int .i64 0, .int .i64 0] 38)
      generalize W.heap.size = bn at *
      generalize W.alloc (.cells #[.int .i64 0, .int .i64 0, .int .i64 0, .int .i64 0, .int .i64 0] 38) = W at *
      refine WL.fin HW ?_
      refine WH.one 6 (by kernel_rfl) rfl ?_
      refine WL.call (hr := jump_yes x.rd D hJ W) rfl rfl rfl rfl rfl (fun W => pcf_jmp W _) ?_
      rintro e W' ⟨rfl, hg⟩
      have hf : Fr (fun _ => False) W W' := Fr.of_grown hg
      refine ⟨_, rfl, ?_⟩
      replace HW := HW.trans hf
      replace rr := rr.fr hf id
      clear hf hg
      generalize W' = W at *
      refine WL.fin HW ?_
      refine WH.take 7 rfl (by kernel_rfl) (by kernel_rfl) (by kernel_rfl) (fun _ _ _ _ _ h => h) rfl rfl rfl HW (RH.move rfl rfl) ?_
      refine WH.take 8 rfl (by kernel_rfl) (by kernel_rfl) (by kernel_rfl) (fun _ _ _ _ _ h => h) rfl rfl rfl HW (RH.extract rfl rfl rfl) ?_
      refine WH.take 9 rfl (by kernel_rfl) (by kernel_rfl) (by kernel_rfl) (fun _ _ _ _ _ h => h) rfl rfl rfl HW (RH.extract rfl rfl rfl) ?_
      refine WH.one 11 (by kernel_rfl) rfl ?_
      refine WL.store rfl rfl rfl rfl rfl (pst_in _ _ _ _ _ _ _ rr) ?_
      replace rr := ((((rr.set 0 (.int .i64 3)).set 1 (.int .i64 x.rd)).set 2 (.int .i64 0)).set 3 (.int .i64 0)).set 4 (.int .i64 D)
      replace HW := fr_set (fr_set (fr_set (fr_set (fr_set HW hbn 0 (.int .i64 3)) hbn 1 (.int .i64 x.rd)) hbn 2 (.int .i64 0)) hbn 3 (.int .i64 0)) hbn 4 (.int .i64 D)
      generalize ((((W.setCell ⟨bn, 0, none⟩ (.int .i64 3)).setCell ⟨bn, 1, none⟩ (.int .i64 x.rd)).setCell ⟨bn, 2, none⟩ (.int .i64 0)).setCell ⟨bn, 3, none⟩ (.int .i64 0)).setCell ⟨bn, 4, none⟩ (.int .i64 D) = W at *
      refine WL.fin HW ?_
      refine WH.take 12 rfl (by kernel_rfl) (by kernel_rfl) (by kernel_rfl) (fun _ _ _ _ _ h => h) rfl rfl rfl HW (RH.assign rfl rfl) ?_
      refine WH.done (by kernel_rfl) ?_
      refine TW.sreg ?_
      refine WL.ld rfl rfl rfl rfl rfl (pld_inst _ _ _ _ _ _ _ _ (rr.cell rfl) (rr.cell rfl) (rr.cell rfl) (rr.cell rfl) (rr.cell rfl)) ?_
      refine WL.bslice rfl rfl rfl rfl rfl (pbs_1 _ _ _ _ _ _) ?_
      refine WL.op rfl rfl rfl (Go.Proofs.Ytnjlcimeaoedcaa.W.quiet_move rfl rfl) ?_
      refine WL.op rfl rfl rfl (Go.Proofs.Ytnjlcimeaoedcaa.W.quiet_assign rfl rfl) ?_
      refine WL.op rfl rfl rfl (Go.Proofs.Ytnjlcimeaoedcaa.W.quiet_assign rfl rfl) ?_
      refine WL.nil ?_
      refine TW.rt ?_
      repeat (with_reducible first | refine Xw.thn (by simp) ?_ | refine Xw.rblk ?_)
      refine bodyw_ret2 rfl rfl rfl ?_
      exact insE_1 (i := ⟨3, x.rd, 0, 0, D⟩) rfl rfl (f12.trans HW)
  ·
    have hbn : w2.heap.size ≤ W.heap.size := HW.size
    refine WL.alloc rfl rfl rfl rfl (pal_in _) ?_
    have rr := Rw.new W #[.int .i64 0, .int .i64 0, .int .i64 0, .int .i64 0, .int .i64 0] 38
    replace HW := fr_al HW (.cells #[.int .i64 0, .int .i64 0, .int .i64 0, .int .i64 0, .int .i64 0] 38)
    generalize W.heap.size = bn at *
    generalize W.alloc (.cells #[.int .i64 0, .int .i64 0, .int .i64 0, .int .i64 0, .int .i64 0] 38) = W at *
    refine WL.fin HW ?_
    refine WH.one 5 (by kernel_rfl) rfl ?_
    refine WL.call (hr := HOFF.out W (f12.trans HW)) rfl rfl rfl rfl rfl (fun W => pcf_off W _) ?_
    rintro e W' ⟨rfl, hf⟩
    refine ⟨_, rfl, ?_⟩
    replace HW := HW.trans hf
    replace rr := rr.fr hf id
    clear hf
    generalize W' = W at *
    refine WL.fin HW ?_
    refine WH.one 6 (by kernel_rfl) rfl ?_
    refine WL.call (hr := jump_yes x.rd D hJ W) rfl rfl rfl rfl rfl (fun W => pcf_jmp W _) ?_
    rintro e W' ⟨rfl, hg⟩
    have hf : Fr (fun _ => False) W W' := Fr.of_grown hg
    refine ⟨_, rfl, ?_⟩
    replace HW := HW.trans hf
    replace rr := rr.fr hf id
    clear hf hg
    generalize W' = W at *
    refine WL.fin HW ?_
    refine WH.take 7 rfl (by kernel_rfl) (by kernel_rfl) (by kernel_rfl) (fun _ _ _ _ _ h => h) rfl rfl rfl HW (RH.move rfl rfl) ?_
    refine WH.take 8 rfl (by kernel_rfl) (by kernel_rfl) (by kernel_rfl) (fun _ _ _ _ _ h => h) rfl rfl rfl HW (RH.extract rfl rfl rfl) ?_
    refine WH.take 9 rfl (by kernel_rfl) (by kernel_rfl) (by kernel_rfl) (fun _ _ _ _ _ h => h) rfl rfl rfl HW (RH.extract rfl rfl rfl) ?_
    refine WH.one 11 (by kernel_rfl) rfl ?_
    refine WL.store rfl rfl rfl rfl rfl (pst_in _ _ _ _ _ _ _ rr) ?_
    replace rr := ((((rr.set 0 (.int .i64 3)).set 1 (.int .i64 x.rd)).set 2 (.int .i64 0)).set 3 (.int .i64 0)).set 4 (.int .i64 D)
    replace HW := fr_set (fr_set (fr_set (fr_set (fr_set HW hbn 0 (.int .i64 3)) hbn 1 (.int .i64 x.rd)) hbn 2 (.int .i64 0)) hbn 3 (.int .i64 0)) hbn 4 (.int .i64 D)
    generalize ((((W.setCell ⟨bn, 0, none⟩ (.int .i64 3)).setCell ⟨bn, 1, none⟩ (.int .i64 x.rd)).setCell ⟨bn, 2, none⟩ (.int .i64 0)).setCell ⟨bn, 3, none⟩ (.int .i64 0)).setCell ⟨bn, 4, none⟩ (.int .i64 D) = W at *
    refine WL.fin HW ?_
    refine WH.take 12 rfl (by kernel_rfl) (by kernel_rfl) (by kernel_rfl) (fun _ _ _ _ _ h => h) rfl rfl rfl HW (RH.assign rfl rfl) ?_
    refine WH.done (by kernel_rfl) ?_
    refine TW.sreg ?_
    refine WL.ld rfl rfl rfl rfl rfl (pld_inst _ _ _ _ _ _ _ _ (rr.cell rfl) (rr.cell rfl) (rr.cell rfl) (rr.cell rfl) (rr.cell rfl)) ?_
    refine WL.bslice rfl rfl rfl rfl rfl (pbs_1 _ _ _ _ _ _) ?_
    refine WL.op rfl rfl rfl (Go.Proofs.Ytnjlcimeaoedcaa.W.quiet_move rfl rfl) ?_
    refine WL.op rfl rfl rfl (Go.Proofs.Ytnjlcimeaoedcaa.W.quiet_assign rfl rfl) ?_
    refine WL.op rfl rfl rfl (Go.Proofs.Ytnjlcimeaoedcaa.W.quiet_assign rfl rfl) ?_
    refine WL.nil ?_
    refine TW.rt ?_
    repeat (with_reducible first | refine Xw.thn (by simp) ?_ | refine Xw.rblk ?_)
    refine bodyw_ret2 rfl rfl rfl ?_
    exact insE_1 (i := ⟨3, x.rd, 0, 0, D⟩) rfl rfl (f12.trans HW)
theorem ins_all {l : List It} {goals : List Int} {F : Nat → Bool} {a : Option Addr} {gg gs ga n : Nat} {w : World} (c : Nat) (h : PlW l goals F a gg gs ga n w) {k : Nat} (hk : k < n) :
    Calls Try.prog 44 #[.agg #[.slice a n c, .slice (some ⟨gg, 0, none⟩) n n, .slice (some ⟨gs, 0, none⟩) n n, .slice (some ⟨ga, 0, none⟩) n n], .int .i64 k] w (InsE (insK l goals F k) w) := by
  by_cases h4 : (l.getD k it0).k = 4
  · obtain ⟨B, hB⟩ := h.its
    have hkl : k < l.length := by rw [← h.hn]; exact hk
    have hoff := off_in (szF_in l F) (by rw [szF_len]; exact h.hn.symm) h.few h.go hk
    have HOFF := off_call h hk (.slice a n c) (.slice (some ⟨gs, 0, none⟩) n n)
    obtain ⟨x, hx⟩ : ∃ x, l.getD k it0 = x := ⟨_, rfl⟩
    obtain ⟨g, o, rfl, hg, c0, c1, c2, c3, c4, c5, c6⟩ := hB.get (Fr.refl (fun _ => False) w) (fun _ h => h.elim) k hkl x hx
    have hJ : jumpB (offK goals (szF l F) k) = true := by
      unfold jumpB
      simp only [Bool.and_eq_true, decide_eq_true_eq]
      omega
    rw [hx] at h4
    unfold insK
    rw [hx]
    rw [if_neg (by omega), if_neg (by omega), if_neg (by omega), if_pos h4, if_pos hJ]
    exact ins4 g o n c k _ _ _ x w hk h.few h4 _ hJ HOFF c0 c1 c2 c3 c4 c5 c6
  · exact ins_any c h hk h4
set_option maxRecDepth 100000 in
set_option maxHeartbeats 8000000 in
theorem asm_all (a : Option Addr) (c : Nat) (l : List It) (ws : List Int) (hfew : l.length ≤ 32768) (hright : ∀ k, k < l.length → rightB (l.getD k it0) = true) (hfit : Fit l)
    (htw : twiceK l l.length = false) (hlk : lackK l (accL l) l.length = false) (hws : wordsK l (golL l) (farL l) l.length = some ws)
    (hfits : ∀ k, k < l.length → ∀ L, insK l (golL l) (farL l) k = some L → ∀ i ∈ L, fitI i = true) (w : World) (hat : ItAt w.heap.size w a l) :
    Calls Try.prog 7 #[.slice a l.length c] w (AsmP ws (addrK (accL l) (szF l (farL l)) 4096) w) := by
  have hap := apartL_labs l l.length htw
  have HDEF : Hid (∀ w3, Fr (fun _ => False) w w3 → Calls Try.prog 19 #[.slice a l.length c] w3 fun e w4 => Fr (fun _ => False) w3 w4 ∧ ∃ B, e = .returned (.tuple #[.map (some B), .int .i64 0]) ∧ ownsL w4 B (accL l)) := Lib.hid (fun w3 hf =>
    (c19 a l.length c l rfl hfew (fun k hk e => (right_lab (hright k hk)).1 e) w3 ((hat.fr hf (fun _ h => h.elim)).mono hf.size)).mono (fun e w4 h => ⟨h.1, by
      have h2 := h.2
      rw [if_neg (by rw [htw]; decide)] at h2
      obtain ⟨B, e1, _, e3⟩ := h2
      exact ⟨B, e1, e3⟩⟩))
  have HRES : Hid (∀ w3 B, Fr (fun _ => False) w w3 → ownsL w3 B (accL l) → Calls Try.prog 20 #[.slice a l.length c, .map (some B)] w3 fun e w4 => Fr (fun _ => False) w3 w4 ∧ ∃ g, e = .returned (.tuple #[.slice (some ⟨g, 0, none⟩) l.length l.length, .int .i64 0]) ∧ IRow 0 w4 g (golL l)) := Lib.hid (fun w3 B hf ho =>
    (c20 a l.length c l (accL l) B rfl hfew hap (fun k hk e => (right_lab (hright k hk)).2 e) w3 ((hat.fr hf (fun _ h => h.elim)).mono hf.size) ho).mono (fun e w4 h => ⟨h.1, by
      have h2 := h.2
      rw [if_neg (by rw [hlk]; decide)] at h2
      obtain ⟨g, e1, e3⟩ := h2
      exact ⟨g, e1, e3.mono (Nat.zero_le _)⟩⟩))
  have HSET : Hid (∀ w3 gg, Fr (fun _ => False) w w3 → IRow 0 w3 gg (golL l) → Calls Try.prog 21 #[.slice a l.length c, .slice (some ⟨gg, 0, none⟩) l.length l.length] w3 (SettleP l (golL l) (.slice a l.length c) (.slice (some ⟨gg, 0, none⟩) l.length l.length) l.length w3)) := Lib.hid (fun w3 gg hf hr =>
    c21 a l.length c gg l (golL l) rfl hfew hfit (goalsA_len l _) (goals_ok l) w3 ((hat.fr hf (fun _ h => h.elim)).mono hf.size) hr)
  have HPL : Hid (∀ w3 gg gs ga, Fr (fun _ => False) w w3 → IRow 0 w3 gg (golL l) → IRow 0 w3 gs (szF l (farL l)) → IRow 0 w3 ga (atK (szF l (farL l))) → PlW l (golL l) (farL l) a gg gs ga l.length w3) := Lib.hid (fun w3 gg gs ga hf h1 h2 h3 =>
    ⟨rfl, hfew, hfit, goalsA_len l _, goals_ok l, ⟨_, hat.fr hf (fun _ h => h.elim)⟩, h1, h2, h3⟩)
  have HWRD : Hid (∀ w3 gg gs ga, PlW l (golL l) (farL l) a gg gs ga l.length w3 → Calls Try.prog 22 #[.agg #[.slice a l.length c, .slice (some ⟨gg, 0, none⟩) l.length l.length, .slice (some ⟨gs, 0, none⟩) l.length l.length, .slice (some ⟨ga, 0, none⟩) l.length l.length]] w3 fun e w4 => Fr (fun _ => False) w3 w4 ∧ ∃ v, e = .returned (.tuple #[v, .int .i64 0]) ∧ WrdAt 0 w4 v ws) := Lib.hid (fun w3 gg gs ga hp =>
    (c22 l (golL l) (farL l) a c gg gs ga l.length w3 hp (fun w4 hp4 k hk => ins_all c hp4 hk) hfits).mono (fun e w4 h => by
      rw [hws] at h
      obtain ⟨h1, v, e1, h2⟩ := h
      exact ⟨h1, v, e1, h2.mono (Nat.zero_le _)⟩))
  have HADR : Hid (∀ w3 B gg gs ga, ownsL w3 B (accL l) → IRow 0 w3 ga (atK (szF l (farL l))) → Calls Try.prog 23 #[.agg #[.slice a l.length c, .slice (some ⟨gg, 0, none⟩) l.length l.length, .slice (some ⟨gs, 0, none⟩) l.length l.length, .slice (some ⟨ga, 0, none⟩) l.length l.length], .map (some B)] w3 (NumP (addrK (accL l) (szF l (farL l)) 4096) w3)) := Lib.hid (fun w3 B gg gs ga ho hr =>
    c23 _ _ _ B ga l.length (accL l) (szF l (farL l)) (szF_len l _) hfew hap (fun n h => val_ok l n h) w3 ho hr)
  have HA := Lib.hid hat
  have HRT := Lib.hid hright
  clear hat hright hfit htw hlk hws hfits hap
  obtain ⟨n, hn⟩ : ∃ n, l.length = n := ⟨_, rfl⟩
  have HN := Lib.hid hn
  rw [hn] at hfew HDEF HRES HSET HPL HWRD HADR ⊢
  have d1 : decide ((32768 : Int) < n) = false := decide_eq_false (by omega)
  clear hn
  go_enter Try.func7, Try.ntmps7
  go_wp2
  go_loopw [17] (fun i wr => ∃ k : Nat, i = .int .i64 k ∧ k ≤ n ∧ Hid (Fr (fun _ => False) w wr)) (fun i _ => n - (intOf i).toNat)
  case atStart => exact ⟨0, rfl, Nat.zero_le _, Lib.hid (Fr.refl _ _)⟩
  case round =>
    obtain ⟨k, rfl, hk, HW⟩ := hrel
    by_cases hlt : k < n
    · obtain ⟨x, hx⟩ : ∃ x, l.getD k it0 = x := ⟨_, rfl⟩
      obtain ⟨g, o, rfl, hg, c0, c1, c2, c3, c4, c5, c6⟩ := HA.out.get HW.out (fun _ h => h.elim) k (by rw [HN.out]; exact hlt) x hx
      have F1 : Hid (Fr (fun _ => False) wr (wr.alloc (.cells #[.int .i64 x.k, .int .i64 x.op, .int .i64 x.rd, .int .i64 x.r1, .int .i64 x.r2, .int .i64 x.imm, .int .i64 x.lab] 40))) := Lib.hid (fr_al (Fr.refl _ _) _)
      have HR := Lib.hid (c18 x)
      have hr := HRT.out k (by rw [HN.out]; exact hlt)
      rw [hx] at hr
      rw [hr] at HR
      clear hx hr
      go_wp2_with (go_at_call 18; (with_reducible refine (HR.out _).mono ?_); rintro e w2 ⟨rfl, hgr⟩; have F2 := Lib.hid (F1.out.trans (Fr.of_grown hgr)); clear hgr)
      go_roundw
      case rel => exact ⟨k + 1, by go_num, by omega, Lib.hid (HW.out.trans F2.out)⟩
      case measure => simp [intOf]; omega
    · go_wp2_with (first
        | (go_at_call 19; (with_reducible refine (HDEF.out _ HW.out).mono ?_); rintro e w2 ⟨hf2, B, rfl, ho2⟩; have F2 := Lib.hid (HW.out.trans hf2); have O2 := Lib.hid ho2; clear hf2 ho2)
        | (go_at_call 20; (with_reducible refine (HRES.out _ B F2.out O2.out).mono ?_); rintro e w3 ⟨hf3, gg, rfl, hr3⟩; have F3 := Lib.hid (F2.out.trans hf3); have O3 := Lib.hid (ownsL_fr O2.out hf3 id); have R3 := Lib.hid hr3; clear hf3 hr3)
        | (go_at_call 21; (with_reducible refine (HSET.out _ gg F3.out R3.out).mono ?_); rintro e w4 ⟨gs, ga, rfl, hs4, ha4, _, hf4⟩; have F4 := Lib.hid (fr_al (F3.out.trans hf4) (.cells #[.slice a n c, .slice (some ⟨gg, 0, none⟩) n n, .slice (some ⟨gs, 0, none⟩) n n, .slice (some ⟨ga, 0, none⟩) n n] 58)); have K4 := Lib.hid (fr_al hf4 (.cells #[.slice a n c, .slice (some ⟨gg, 0, none⟩) n n, .slice (some ⟨gs, 0, none⟩) n n, .slice (some ⟨ga, 0, none⟩) n n] 58)); have S4 := Lib.hid ((hs4.mono (Nat.zero_le _)).fr (fr_al (Fr.refl (fun _ => False) _) (.cells #[.slice a n c, .slice (some ⟨gg, 0, none⟩) n n, .slice (some ⟨gs, 0, none⟩) n n, .slice (some ⟨ga, 0, none⟩) n n] 58)) id); have A4 := Lib.hid ((ha4.mono (Nat.zero_le _)).fr (fr_al (Fr.refl (fun _ => False) _) (.cells #[.slice a n c, .slice (some ⟨gg, 0, none⟩) n n, .slice (some ⟨gs, 0, none⟩) n n, .slice (some ⟨ga, 0, none⟩) n n] 58)) id); clear hs4 ha4 hf4)
        | (go_at_call 22; (with_reducible refine (HWRD.out _ gg gs ga (HPL.out _ gg gs ga F4.out (R3.out.fr K4.out id) S4.out A4.out)).mono ?_); rintro e w5 ⟨hf5, v5, rfl, hw5⟩; have b0 := hf5.cell (fcell w4 #[.slice a n c, .slice (some ⟨gg, 0, none⟩) n n, .slice (some ⟨gs, 0, none⟩) n n, .slice (some ⟨ga, 0, none⟩) n n] 58 0 _ rfl) id; have b1 := hf5.cell (fcell w4 #[.slice a n c, .slice (some ⟨gg, 0, none⟩) n n, .slice (some ⟨gs, 0, none⟩) n n, .slice (some ⟨ga, 0, none⟩) n n] 58 1 _ rfl) id; have b2 := hf5.cell (fcell w4 #[.slice a n c, .slice (some ⟨gg, 0, none⟩) n n, .slice (some ⟨gs, 0, none⟩) n n, .slice (some ⟨ga, 0, none⟩) n n] 58 2 _ rfl) id; have b3 := hf5.cell (fcell w4 #[.slice a n c, .slice (some ⟨gg, 0, none⟩) n n, .slice (some ⟨gs, 0, none⟩) n n, .slice (some ⟨ga, 0, none⟩) n n] 58 3 _ rfl) id; have F5 := Lib.hid (F4.out.trans hf5); have O5 := Lib.hid (ownsL_fr (ownsL_fr O3.out K4.out id) hf5 id); have A5 := Lib.hid (A4.out.fr hf5 id); have W5 := Lib.hid hw5; clear hf5 hw5)
        | (go_at_call 23; (with_reducible refine (HADR.out _ B gg gs ga O5.out A5.out).mono ?_); rintro e w6 ⟨v6, rfl, hn6, hf6⟩; have N6 := Lib.hid hn6; have F6 := Lib.hid hf6; clear hn6 hf6))
      go_ret3
      exact asmP_of W5.out F5.out N6.out F6.out
theorem fit_66 {op r1 r2 off : Int} (hf : fm (ix op) = 66) (a : 0 ≤ r1 ∧ r1 ≤ 31) (b : 0 ≤ r2 ∧ r2 ≤ 31) (c : -4096 ≤ off ∧ off ≤ 4094 ∧ off % 2 = 0) : fitI ⟨op, 0, r1, r2, off⟩ = true := by
  unfold fitI fitsB
  simp only
  rw [hf, room_all (by unfold isForm; omega) (by decide)]
  simp [regB, uRd, uRs1, uRs2, roomB]
  omega
theorem fit_j {rd off : Int} (a : 0 ≤ rd ∧ rd ≤ 31) (c : -1048576 ≤ off ∧ off ≤ 1048574 ∧ off % 2 = 0) : fitI ⟨3, rd, 0, 0, off⟩ = true := by
  unfold fitI fitsB
  simp only
  rw [show fm (ix 3) = 74 by decide, room_all (by unfold isForm; omega) (by decide)]
  simp [regB, uRd, uRs1, uRs2, roomB]
  omega
theorem contr_fin : ∀ k : Fin 46, fm k.val = 66 → fm (ix (contr (k.val : Int))) = 66 := by decide
theorem contr_66 {op : Int} (h : fm (ix op) = 66) : fm (ix (contr op)) = 66 := by
  by_cases hb : 0 ≤ op ∧ op < 46
  · have e : ix op = op.toNat := by unfold ix; rw [if_pos hb]
    rw [e] at h
    have := contr_fin ⟨op.toNat, by omega⟩ h
    rwa [show ((op.toNat : Nat) : Int) = op by omega] at this
  · rw [show ix op = 0 by unfold ix; rw [if_neg hb]] at h
    exact absurd h (by decide)
theorem right_1 {x : It} (h : rightB x = true) (h1 : x.k = 1) : fitI ⟨x.op, x.rd, x.r1, x.r2, x.imm⟩ = true := by
  unfold rightB at h
  rw [if_pos h1, Bool.and_eq_true] at h
  exact h.1
theorem off_even {l : List It} {s : List Int} {k : Nat} (hs : s.length = l.length) (hk : k < l.length) (ht : isTo (l.getD k it0) = true) (hh : hasL (accL l) (l.getD k it0).lab = true) : offK (golL l) s k % 2 = 0 := by
  rw [← way_is l s hs hk ht hh]
  omega
theorem ins_fits (l : List It) (hfew : l.length ≤ 32768) (hr : ∀ k, k < l.length → rightB (l.getD k it0) = true) (hlk : lackK l (accL l) l.length = false) {k : Nat} (hk : k < l.length) :
    ∃ L, insK l (golL l) (farL l) k = some L ∧ ∀ i ∈ L, fitI i = true := by
  have hx := hr k hk
  have hsl : (szF l (farL l)).length = l.length := szF_len l _
  have hoff := off_in (szF_in l (farL l)) hsl hfew (goals_ok l) hk
  have hev : isTo (l.getD k it0) = true → offK (golL l) (szF l (farL l)) k % 2 = 0 := fun ht => off_even hsl hk ht (not_lack hlk hk ht)
  have hst : isBr l k = true → farL l k = false → -4096 ≤ offK (golL l) (szF l (farL l)) k ∧ offK (golL l) (szF l (farL l)) k ≤ 4094 := fun a b => by
    have := far_reach l (golL l) k hk a b
    unfold reachB at this
    simp only [Bool.and_eq_true, decide_eq_true_eq] at this
    exact this
  have hbr : isBr l k = ((l.getD k it0).k == 3) := rfl
  rw [hbr] at hst
  unfold insK
  generalize l.getD k it0 = x at *
  generalize offK (golL l) (szF l (farL l)) k = D at *
  rcases right_kind hx with e | e | e | e | e
  · exact ⟨_, by rw [if_pos e], fun i hi => by rw [List.mem_singleton] at hi; subst hi; exact right_1 hx e⟩
  · exact ⟨_, by rw [if_neg (by omega), if_neg (by omega), if_neg (by omega), if_neg (by omega)], fun i hi => by cases hi⟩
  · obtain ⟨h1, h2, h3, h4, h5, h6⟩ := right_3 hx e
    have hev' := hev (by unfold isTo; simp [e])
    cases hF : farL l k
    · have hre : -4096 ≤ D ∧ D ≤ 4094 := hst (by simp [e]) hF
      refine ⟨_, by rw [if_neg (by omega), if_neg (by omega), if_pos e, if_neg (by decide)], fun i hi => ?_⟩
      rw [List.mem_singleton] at hi
      subst hi
      rw [h2]
      exact fit_66 h1 h3 h4 ⟨hre.1, hre.2, hev'⟩
    · have hJ : jumpB (D - 4) = true := by
        unfold jumpB
        simp only [Bool.and_eq_true, decide_eq_true_eq]
        omega
      refine ⟨_, by rw [if_neg (by omega), if_neg (by omega), if_pos e, if_pos rfl, if_pos hJ], fun i hi => ?_⟩
      simp only [List.mem_cons, List.not_mem_nil, or_false] at hi
      rcases hi with rfl | rfl
      · exact fit_66 (contr_66 h1) h3 h4 ⟨by decide, by decide, by decide⟩
      · exact fit_j ⟨by decide, by decide⟩ ⟨by omega, by omega, by omega⟩
  · obtain ⟨h1, h2, h3⟩ := right_4 hx e
    have hev' := hev (by unfold isTo; simp [e])
    have hJ : jumpB D = true := by
      unfold jumpB
      simp only [Bool.and_eq_true, decide_eq_true_eq]
      omega
    refine ⟨_, by rw [if_neg (by omega), if_neg (by omega), if_neg (by omega), if_pos e, if_pos hJ], fun i hi => ?_⟩
    rw [List.mem_singleton] at hi
    subst hi
    exact fit_j h2 ⟨by omega, by omega, hev'⟩
  · obtain ⟨h1, _⟩ := right_5 hx e
    exact ⟨_, by rw [if_neg (by omega), if_pos e], num_fits h1⟩
/-- The instructions of an item, and of the first items. -/
def insD (l : List It) (k : Nat) : List In := (insK l (golL l) (farL l) k).getD []
def wrdD (l : List It) : Nat → List Int
  | 0 => []
  | k + 1 => wrdD l k ++ (insD l k).map encI
theorem ins_some {l : List It} (hfew : l.length ≤ 32768) (hr : ∀ k, k < l.length → rightB (l.getD k it0) = true) (hlk : lackK l (accL l) l.length = false) {k : Nat} (hk : k < l.length) : insK l (golL l) (farL l) k = some (insD l k) ∧ ∀ i ∈ insD l k, fitI i = true := by
  obtain ⟨L, h1, h2⟩ := ins_fits l hfew hr hlk hk
  unfold insD
  rw [h1]
  exact ⟨rfl, h2⟩
theorem words_is {l : List It} (hfew : l.length ≤ 32768) (hr : ∀ k, k < l.length → rightB (l.getD k it0) = true) (hlk : lackK l (accL l) l.length = false) : ∀ k, k ≤ l.length → wordsK l (golL l) (farL l) k = some (wrdD l k)
  | 0, _ => rfl
  | k + 1, hk => by
    have ih := words_is hfew hr hlk k (by omega)
    have hi := (ins_some hfew hr hlk (k := k) (by omega)).1
    unfold wordsK
    rw [ih, hi]
    rfl
end Go.Proofs.Ytnjlcimeaoedcaa
