/-
  Listing (layer 6): the hexadecimal digits of a word, written. Listing (layer 6): the line of a word; Line.
-/
import Derived.Test.YtlagdgkjpnocfaaGreatDoorQLsC
import Derived.Test.YtlagdgkjpnocfaaGreatDoorQFits
namespace Go.Proofs.YtlagdgkjpnocfaaGreatDoor
open Go.RowKit
set_option linter.unusedVariables false
set_option linter.unusedSimpArgs false
theorem WL.ixg {P : Program} {ops : Array Oper} {N : Nat} {Q : Exit → Act → World → Prop} {s : List (Nat × Value)} {l : List Oper} {o : Oper} {d g : Nat} {w : World} {t : TypeId} {y : Operand} {i v : Value} (hop : o.op = .indexAddr t (.global g) y) (hd : o.dst = some d) (hN : Nat.blt d N = true) (hg : gd ops s o = some true) (hi : ev s y = some i) (hr : (Instr.indexAt t (.pointer (some ⟨g, 0, none⟩)) i).run P w = .ok v w) (h : WL P ops N Q ((d, v) :: s) l w) : WL P ops N Q s (o :: l) w :=
  WL.run hd hN hg (fun a k => by
    have h2 := k.eval hi
    have h1 : a.eval (.global g) = .pointer (some ⟨g, 0, none⟩) := rfl
    unfold execOp
    rw [hop]
    simp only [h1, h2, Sem.run_bind, hr, Result.andThen_ok, Sem.run_pure]) h
theorem WL.neg {P : Program} {ops : Array Oper} {N : Nat} {Q : Exit → Act → World → Prop} {s : List (Nat × Value)} {l : List Oper} {o : Oper} {d : Nat} {w : World} {u : UnOp} {t : TypeId} {x : Operand} {i v : Value} (hop : o.op = .unOp u t x) (hd : o.dst = some d) (hN : Nat.blt d N = true) (hg : gd ops s o = some true) (hi : ev s x = some i) (hr : (Op.unary u i : Sem Value).run P w = .ok v w) (h : WL P ops N Q ((d, v) :: s) l w) : WL P ops N Q s (o :: l) w :=
  WL.run hd hN hg (fun a k => by
    have h2 := k.eval hi
    unfold execOp
    rw [hop]
    simp only [h2, Sem.run_bind, hr, Result.andThen_ok, Sem.run_pure]) h
theorem WL.sl {P : Program} {ops : Array Oper} {N : Nat} {Q : Exit → Act → World → Prop} {s : List (Nat × Value)} {l : List Oper} {o : Oper} {d : Nat} {w : World} {t : TypeId} {x y : Operand} {u i v : Value} (hop : o.op = .slice t x (some y) none none) (hd : o.dst = some d) (hN : Nat.blt d N = true) (hg : gd ops s o = some true) (hu : ev s x = some u) (hi : ev s y = some i) (hr : (Instr.sliceAt t u (some i) none none).run P w = .ok v w) (h : WL P ops N Q ((d, v) :: s) l w) : WL P ops N Q s (o :: l) w :=
  WL.run hd hN hg (fun a k => by
    have h1 := k.eval hu
    have h2 := k.eval hi
    unfold execOp
    rw [hop]
    simp only [Option.map_some, Option.map_none, h1, h2, Sem.run_bind, hr, Result.andThen_ok, Sem.run_pure]) h
theorem bodyw_ret2 {P : Program} {N : Nat} {s : List (Nat × Value)} {w : World} {fn : Func} {R : Ending → World → Prop} {t u : Nat} {v v' : Value} (hr : fn.results = #[.tmp t, .tmp u]) (hv : lk s t = some v) (hv' : lk s u = some v') (h : R (.returned (.tuple #[v, v'])) w) : Xw .ret N (bodyPost P fn R) s w := fun a k => by
  refine ⟨k.defers, .tuple #[v, v'], ?_, h⟩
  rw [results_tmp2 hr]
  have h1 := k.has t v hv
  have h2 := k.has u v' hv'
  simp only [Array.getD_eq_getD_getElem?, h1, h2, Option.getD_some]
/-- What is read of the table of bits. -/
def DbW (w : World) : Prop := w.cell? ⟨7, 15, none⟩ = some (.int .u8 4)
theorem cf_tz64 (w : World) (vs : Array Value) : (callFunc 139 vs).run Tryz.prog w = .ok (.enter 139 vs) w := by simp [go_sem]
theorem ld_u8 (w : World) (m : Int) (d : Addr) (h : w.cell? d = some (.int .u8 m)) : (Instr.loadAt 5 (.pointer (some d))).run Tryz.prog w = .ok (.int .u8 m) w := by simp [go_sem, h]
theorem ix_tab (w : World) : (Instr.indexAt 167 (.pointer (some ⟨7, 0, none⟩)) (.int .u64 15)).run Tryz.prog w = .ok (.pointer (some ⟨7, 15, none⟩)) w := by simp [go_sem]
theorem t_tz64 (w : World) (hd : DbW w) : Calls Tryz.prog 139 #[.int .u64 16] w fun e w' => e = .returned (.int .i64 4) ∧ w' = w := by
  refine calls_tw Tryz.func139 rfl rfl (Nat.le_of_ble_eq_true rfl) ?_
  refine TW.sreg ?_
  refine WL.op rfl rfl rfl (Go.Proofs.YtlagdgkjpnocfaaGreatDoor.W.quiet_assign rfl rfl) ?_
  refine WL.nil ?_
  refine TW.seq ?_
  refine TW.sreg ?_
  refine WL.op rfl rfl rfl (Go.Proofs.YtlagdgkjpnocfaaGreatDoor.W.quiet_move rfl rfl) ?_
  refine WL.op rfl rfl rfl (Go.Proofs.YtlagdgkjpnocfaaGreatDoor.W.quiet_bin rfl rfl rfl (v := .bool false) (fun W => by kernel_rfl)) ?_
  refine WL.nil ?_
  refine TW.cond rfl (fun hb => by cases hb) (fun _ => ?_)
  refine TW.skip ?_
  refine TW.sreg ?_
  refine WL.op rfl rfl rfl (Go.Proofs.YtlagdgkjpnocfaaGreatDoor.W.quiet_move rfl rfl) ?_
  refine WL.op rfl rfl rfl (Go.Proofs.YtlagdgkjpnocfaaGreatDoor.W.quiet_move rfl rfl) ?_
  refine WL.neg (v := .int .u64 18446744073709551600) rfl rfl rfl rfl rfl (by kernel_rfl) ?_
  refine WL.op rfl rfl rfl (Go.Proofs.YtlagdgkjpnocfaaGreatDoor.W.quiet_bin rfl rfl rfl (v := .int .u64 16) (fun W => by kernel_rfl)) ?_
  refine WL.op rfl rfl rfl (Go.Proofs.YtlagdgkjpnocfaaGreatDoor.W.quiet_bin rfl rfl rfl (v := .int .u64 4573923408821661840) (fun W => by kernel_rfl)) ?_
  refine WL.op rfl rfl rfl (Go.Proofs.YtlagdgkjpnocfaaGreatDoor.W.quiet_bin rfl rfl rfl (v := .int .u64 15) (fun W => by kernel_rfl)) ?_
  refine WL.ixg rfl rfl rfl rfl rfl (ix_tab _) ?_
  refine WL.ld rfl rfl rfl rfl rfl (ld_u8 _ _ _ hd) ?_
  refine WL.cv rfl rfl rfl rfl rfl (cv_u8i _) ?_
  refine WL.op rfl rfl rfl (Go.Proofs.YtlagdgkjpnocfaaGreatDoor.W.quiet_assign rfl rfl) ?_
  refine WL.nil ?_
  refine TW.rt ?_
  repeat (with_reducible first | refine Xw.thn (by simp) ?_ | refine Xw.rblk ?_)
  refine bodyw_ret rfl rfl ?_
  exact ⟨rfl, rfl⟩
theorem t_tz (w : World) (hd : DbW w) : Calls Tryz.prog 137 #[.int .u64 16] w fun e w' => e = .returned (.int .i64 4) ∧ w' = w := by
  refine calls_tw Tryz.func137 rfl rfl (Nat.le_of_ble_eq_true rfl) ?_
  refine TW.sreg ?_
  refine WL.op rfl rfl rfl (Go.Proofs.YtlagdgkjpnocfaaGreatDoor.W.quiet_assign rfl rfl) ?_
  refine WL.nil ?_
  refine TW.seq ?_
  refine TW.cond rfl (fun hb => by cases hb) (fun _ => ?_)
  refine TW.skip ?_
  refine TW.sreg ?_
  refine WL.op rfl rfl rfl (Go.Proofs.YtlagdgkjpnocfaaGreatDoor.W.quiet_move rfl rfl) ?_
  refine WL.call (hr := t_tz64 w hd) rfl rfl rfl rfl rfl (fun W => cf_tz64 W _) ?_
  rintro e w1 ⟨rfl, rfl⟩
  refine ⟨_, rfl, ?_⟩
  refine WL.op rfl rfl rfl (Go.Proofs.YtlagdgkjpnocfaaGreatDoor.W.quiet_assign rfl rfl) ?_
  refine WL.nil ?_
  refine TW.rt ?_
  repeat (with_reducible first | refine Xw.thn (by simp) ?_ | refine Xw.rblk ?_)
  refine bodyw_ret rfl rfl ?_
  exact ⟨rfl, rfl⟩
/-- The row that the digits are written into, from its end. -/
def fbRow (i : Nat) (ds : List UInt8) : Array Value := (List.replicate i (Value.int .u8 0) ++ ds.map (fun d => Value.int .u8 (d.toNat : Int))).toArray
theorem fbRow_size (i : Nat) (ds : List UInt8) : (fbRow i ds).size = i + ds.length := by simp [fbRow]
theorem fbRow_set (i : Nat) (ds : List UInt8) (d : UInt8) : (fbRow (i + 1) ds).setIfInBounds i (.int .u8 (d.toNat : Int)) = fbRow i (d :: ds) := by
  apply Array.toList_inj.1
  simp only [fbRow, List.toList_toArray, Array.toList_setIfInBounds]
  rw [List.replicate_succ', List.append_assoc, List.set_append_right _ _ (by simp)]
  simp
def Rwb (w : World) (g i : Nat) (ds : List UInt8) : Prop := w.heap[g]? = some (.cells (fbRow i ds) 157 (0, 0))
theorem Rwb.start (w : World) : Rwb (w.alloc (.cells (Array.replicate 65 (.int .u8 0)) 157)) w.heap.size 65 [] := by
  unfold Rwb fbRow
  rw [heap_alloc_new]
  rfl
theorem st_u8 (w : World) (d : Addr) (v u : Int) (h : w.cell? d = some (.int .u8 v)) (hf : w.frozen? d = false) : (Instr.storeAt 5 (.pointer (some d)) (.int .u8 u)).run Tryz.prog w = .ok () (w.setCell d (.int .u8 u)) := by simp [go_sem, h, hf]
theorem Rwb.put {w : World} {g i : Nat} {ds : List UInt8} (h : Rwb w g (i + 1) ds) (d : UInt8) : Rwb (w.setCell ⟨g, i, none⟩ (.int .u8 (d.toNat : Int))) g i (d :: ds) := by
  have := heap_setCell_same w g i _ _ (Value.int .u8 (d.toNat : Int)) h
  rw [fbRow_set] at this
  exact this
theorem Rwb.zero {w : World} {g i : Nat} {ds : List UInt8} (h : Rwb w g (i + 1) ds) : w.cell? ⟨g, i, none⟩ = some (.int .u8 0) ∧ w.frozen? ⟨g, i, none⟩ = false := by
  refine ⟨?_, frozen_of_row w g i _ _ h⟩
  rw [cell_of_row w g i _ _ _ h]
  simp [fbRow, List.getElem?_append]
theorem Rwb.at {w : World} {g i : Nat} {ds : List UInt8} (h : Rwb w g i ds) (j : Nat) (hj : j < ds.length) : w.cell? ⟨g, i + j, none⟩ = some (.int .u8 (ds[j].toNat : Int)) := by
  rw [cell_of_row w g (i + j) _ _ _ h]
  simp [fbRow, List.getElem?_append, hj]
theorem ix_65 (w : World) (b i : Nat) (h : i < 65) : (Instr.indexAt 157 (.pointer (some ⟨b, 0, none⟩)) (.int .i64 (i : Int))).run Tryz.prog w = .ok (.pointer (some ⟨b, i, none⟩)) w := by
  have h' : (i : Int) < 65 := by omega
  simp [go_sem, h, h']
theorem sl_65 (w : World) (b i : Nat) (h0 : 0 < i) (h : i < 65) : (Instr.sliceAt 157 (.pointer (some ⟨b, 0, none⟩)) (some (.int .i64 (i : Int))) none none).run Tryz.prog w = .ok (.slice (some ⟨b, i, none⟩) (65 - i) (65 - i)) w := by
  have hA : Tryz.prog.arrayLen 157 = 65 := by kernel_rfl
  rw [run_sliceAt_array_l w 157 ⟨b, 0, none⟩ (by kernel_rfl) .i64 (i : Int) (by omega) (by rw [hA]; omega), hA]
  rw [show Tryz.prog.elem 157 = 5 by kernel_rfl]
  simp [Tryz.sizeOf5, slicedAt, Result.andThen, Addr.add]
  rw [if_neg (by omega), if_neg (by omega)]
set_option maxRecDepth 100000 in
set_option maxHeartbeats 1600000 in
theorem t_fmtBits (u : Nat) (hu : u < 4294967296) (w : World) (hd : DbW w) : Calls Tryz.prog 122 #[.slice none 0 0, .int .u64 (u : Int), .int .i64 16, .bool false, .bool false] w fun e w' => e = .returned (.tuple #[.slice none 0 0, bts (hexD u)]) ∧ Fr (fun _ => False) w w' := by
  have hlen := hexD_len 8 u (by decide) (by omega)
  refine calls_tw Tryz.func122 rfl rfl (Nat.le_of_ble_eq_true rfl) ?_
  refine TW.sreg ?_
  refine WL.op rfl rfl rfl (Go.Proofs.YtlagdgkjpnocfaaGreatDoor.W.quiet_assign rfl rfl) ?_
  refine WL.op rfl rfl rfl (Go.Proofs.YtlagdgkjpnocfaaGreatDoor.W.quiet_assign rfl rfl) ?_
  refine WL.nil ?_
  refine TW.seq ?_
  refine TW.sreg ?_
  refine WL.op rfl rfl rfl (Go.Proofs.YtlagdgkjpnocfaaGreatDoor.W.quiet_move rfl rfl) ?_
  refine WL.op rfl rfl rfl (Go.Proofs.YtlagdgkjpnocfaaGreatDoor.W.quiet_bin rfl rfl rfl (v := .bool false) (fun W => by kernel_rfl)) ?_
  refine WL.op rfl rfl rfl (Go.Proofs.YtlagdgkjpnocfaaGreatDoor.W.quiet_move rfl rfl) ?_
  refine WL.op rfl rfl rfl (Go.Proofs.YtlagdgkjpnocfaaGreatDoor.W.quiet_move rfl rfl) ?_
  refine WL.op rfl rfl rfl (Go.Proofs.YtlagdgkjpnocfaaGreatDoor.W.quiet_bin rfl rfl rfl (v := .bool false) (fun W => by kernel_rfl)) ?_
  refine WL.op rfl rfl rfl (Go.Proofs.YtlagdgkjpnocfaaGreatDoor.W.quiet_pick rfl rfl rfl) ?_
  refine WL.op rfl rfl rfl (Go.Proofs.YtlagdgkjpnocfaaGreatDoor.W.quiet_move rfl rfl) ?_
  refine WL.op rfl rfl rfl (Go.Proofs.YtlagdgkjpnocfaaGreatDoor.W.quiet_move rfl rfl) ?_
  refine WL.op rfl rfl rfl (Go.Proofs.YtlagdgkjpnocfaaGreatDoor.W.quiet_bin rfl rfl rfl (v := .bool false) (fun W => by kernel_rfl)) ?_
  refine WL.op rfl rfl rfl (Go.Proofs.YtlagdgkjpnocfaaGreatDoor.W.quiet_pick rfl rfl rfl) ?_
  refine WL.nil ?_
  refine TW.cond rfl (fun hb => by cases hb) (fun _ => ?_)
  refine TW.skip ?_
  refine TW.sreg ?_
  refine WL.alloc rfl rfl rfl rfl (al_65 _) ?_
  refine WL.nil ?_
  have f1 := fr_al (Fr.refl (fun _ => False) w) (.cells (Array.replicate 65 (.int .u8 0)) 157)
  have r1 := Rwb.start w
  generalize w.alloc (.cells (Array.replicate 65 (.int .u8 0)) 157) = w1 at *
  obtain ⟨ba, hba⟩ : ∃ z, w.heap.size = z := ⟨_, rfl⟩
  rw [hba] at r1 ⊢
  have hd1 : DbW w1 := f1.cell hd id
  refine TW.sreg ?_
  refine WL.op rfl rfl rfl (Go.Proofs.YtlagdgkjpnocfaaGreatDoor.W.quiet_assign rfl rfl) ?_
  refine WL.nil ?_
  refine TW.seq ?_
  refine TW.sreg ?_
  refine WL.op rfl rfl rfl (Go.Proofs.YtlagdgkjpnocfaaGreatDoor.W.quiet_move rfl rfl) ?_
  refine WL.nil ?_
  refine TW.cond rfl (fun hb => by cases hb) (fun _ => ?_)
  refine TW.skip ?_
  refine TW.seq ?_
  refine TW.sreg ?_
  refine WL.op rfl rfl rfl (Go.Proofs.YtlagdgkjpnocfaaGreatDoor.W.quiet_move rfl rfl) ?_
  refine WL.call (hr := t_ip2 w1) rfl rfl rfl rfl rfl (fun W => cf_ip2 W _) ?_
  rintro e w2 ⟨rfl, rfl⟩
  refine ⟨_, rfl, ?_⟩
  refine WL.nil ?_
  refine TW.cond rfl (fun _ => ?_) (fun hb => by cases hb)
  refine TW.sreg ?_
  refine WL.op rfl rfl rfl (Go.Proofs.YtlagdgkjpnocfaaGreatDoor.W.quiet_move rfl rfl) ?_
  refine WL.cv rfl rfl rfl rfl rfl (cv_iu _ _ (by decide) (by decide)) ?_
  refine WL.call (hr := t_tz _ hd1) rfl rfl rfl rfl rfl (fun W => cf_tz W _) ?_
  rintro e w3 ⟨rfl, rfl⟩
  refine ⟨_, rfl, ?_⟩
  refine WL.cv rfl rfl rfl rfl rfl (cv_iu _ _ (by decide) (by decide)) ?_
  refine WL.op rfl rfl rfl (Go.Proofs.YtlagdgkjpnocfaaGreatDoor.W.quiet_assign rfl rfl) ?_
  refine WL.nil ?_
  refine TW.sreg ?_
  refine WL.op rfl rfl rfl (Go.Proofs.YtlagdgkjpnocfaaGreatDoor.W.quiet_move rfl rfl) ?_
  refine WL.cv rfl rfl rfl rfl rfl (cv_iu64 _ _ (by decide) (by decide)) ?_
  refine WL.op rfl rfl rfl (Go.Proofs.YtlagdgkjpnocfaaGreatDoor.W.quiet_assign rfl rfl) ?_
  refine WL.nil ?_
  refine TW.sreg ?_
  refine WL.op rfl rfl rfl (Go.Proofs.YtlagdgkjpnocfaaGreatDoor.W.quiet_move rfl rfl) ?_
  refine WL.cv rfl rfl rfl rfl rfl (cv_iu _ _ (by decide) (by decide)) ?_
  refine WL.op rfl rfl rfl (Go.Proofs.YtlagdgkjpnocfaaGreatDoor.W.quiet_bin rfl rfl rfl (fun W => bn_subu W _ _)) ?_
  refine WL.op rfl rfl rfl (Go.Proofs.YtlagdgkjpnocfaaGreatDoor.W.quiet_assign rfl rfl) ?_
  refine WL.nil ?_
  refine TW.seq ?_
  refine TW.block ?_
  refine TW.loopG (n := 8) (fun a _ => 65 - (intOf (a.tmps.getD 13 undef)).toNat) (fun j b W => ∃ (u' : Nat) (ds : List UInt8), ds.length = j ∧ u' < 4294967296 ∧ hexD u = hexD u' ++ ds ∧ Kn Tryz.f122.ntmps [(1, .int .u64 (u' : Int)), (13, .int .i64 ((65 - j : Nat) : Int)), (12, .pointer (some ⟨ba, 0, none⟩)), (14, .int .u64 4), (15, .int .u64 16), (16, .int .u64 15), (10, .slice none 0 0), (3, .bool false), (4, .bool false)] b ∧ Rwb W ba (65 - j) ds ∧ Fr (fun _ => False) w W ∧ j ≤ 8) (fun j b W h => ?hval) 0 (by decide) (fun b h => ⟨u, [], rfl, hu, by simp, (by (repeat (refine Kn.cons h rfl ?_)); exact h.base), r1, f1, by decide⟩) ?_
  case hval =>
    obtain ⟨_, _, _, _, _, hk, _, _, hj8⟩ := h
    have := hk.has 13 _ rfl
    simp [Array.getD_eq_getD_getElem?, this, intOf]
    omega
  clear r1 f1 hd1
  rintro j b W hj ⟨u', ds, hds, hu', hx, hkn, hr, hf, hj8⟩
  refine TW.app ?_ hkn
  clear hkn b
  have hpos := hexD_pos u'
  have hjl : ds.length + (hexD u').length ≤ 8 := by rw [hx, List.length_append] at hlen; omega
  refine TW.seq ?_
  refine TW.sreg ?_
  refine WL.op rfl rfl rfl (Go.Proofs.YtlagdgkjpnocfaaGreatDoor.W.quiet_move rfl rfl) ?_
  refine WL.op rfl rfl rfl (Go.Proofs.YtlagdgkjpnocfaaGreatDoor.W.quiet_move rfl rfl) ?_
  refine WL.op rfl rfl rfl (Go.Proofs.YtlagdgkjpnocfaaGreatDoor.W.quiet_bin rfl rfl rfl (fun W => bn_ge64 W _ _ _ _)) ?_
  refine WL.nil ?_
  refine TW.cond rfl (fun hge => ?_) (fun hlt => ?_)
  · have hge' : 16 ≤ u' := by have := of_decide_eq_true hge; omega
    obtain ⟨i, hi⟩ : ∃ i, 65 - j = i + 1 := ⟨64 - j, by omega⟩
    rw [hi] at hr
    have hx16 := hexD_hi hge'
    rw [hx16] at hx
    obtain ⟨z0, zf⟩ := hr.zero
    refine TW.skip ?_
    refine TW.block ?_
    refine TW.sreg ?_
    refine WL.op rfl rfl rfl (Go.Proofs.YtlagdgkjpnocfaaGreatDoor.W.quiet_move rfl rfl) ?_
    refine WL.op rfl rfl rfl (Go.Proofs.YtlagdgkjpnocfaaGreatDoor.W.quiet_bin rfl rfl rfl (fun W => (bn_subi W _ _ ((65 - j : Nat) : Int) 1 (by omega) (by omega)).trans (by rw [show ((65 - j : Nat) : Int) - 1 = (i : Int) by omega]))) ?_
    refine WL.op rfl rfl rfl (Go.Proofs.YtlagdgkjpnocfaaGreatDoor.W.quiet_assign rfl rfl) ?_
    refine WL.nil ?_
    refine TW.sreg ?_
    refine WL.op rfl rfl rfl (Go.Proofs.YtlagdgkjpnocfaaGreatDoor.W.quiet_move rfl rfl) ?_
    refine WL.op rfl rfl rfl (Go.Proofs.YtlagdgkjpnocfaaGreatDoor.W.quiet_move rfl rfl) ?_
    refine WL.op rfl rfl rfl (Go.Proofs.YtlagdgkjpnocfaaGreatDoor.W.quiet_move rfl rfl) ?_
    refine WL.op rfl rfl rfl (Go.Proofs.YtlagdgkjpnocfaaGreatDoor.W.quiet_bin rfl rfl rfl (fun W => (bn_and15 W _ _ (u' : Int) (by omega) (by omega)).trans (by rw [show (u' : Int) % 16 = ((u' % 16 : Nat) : Int) by omega]))) ?_
    refine WL.ix rfl rfl rfl rfl rfl rfl (ix_dig _ (u' % 16) (by omega)) ?_
    refine WL.op rfl rfl rfl (Go.Proofs.YtlagdgkjpnocfaaGreatDoor.W.quiet_index rfl rfl rfl (fun W => ix_65 W ba i (by omega))) ?_
    refine WL.store rfl rfl rfl rfl rfl (st_u8 _ _ _ _ z0 zf) ?_
    refine WL.nil ?_
    have hr2 := hr.put (dig (u' % 16))
    have hf2 := fr_set hf (b := ba) (by omega) i (.int .u8 ((dig (u' % 16)).toNat : Int))
    generalize W.setCell ⟨ba, i, none⟩ (.int .u8 ((dig (u' % 16)).toNat : Int)) = W2 at *
    refine TW.reg ?_
    refine WL.op rfl rfl rfl (Go.Proofs.YtlagdgkjpnocfaaGreatDoor.W.quiet_move rfl rfl) ?_
    refine WL.op rfl rfl rfl (Go.Proofs.YtlagdgkjpnocfaaGreatDoor.W.quiet_move rfl rfl) ?_
    refine WL.op rfl rfl rfl (Go.Proofs.YtlagdgkjpnocfaaGreatDoor.W.quiet_bin rfl rfl rfl (fun W => (bn_shr4 W _ _ (u' : Int)).trans (by rw [show (u' : Int) / 16 = ((u' / 16 : Nat) : Int) by omega]))) ?_
    refine WL.op rfl rfl rfl (Go.Proofs.YtlagdgkjpnocfaaGreatDoor.W.quiet_assign rfl rfl) ?_
    refine WL.end ?_
    repeat (with_reducible refine Xw.nblk ?_)
    have hl2 : ds.length + (hexD (u' / 16)).length + 1 ≤ 8 := by rw [hx16, List.length_append] at hjl; simp at hjl; omega
    have hi2 : i = 65 - (j + 1) := by omega
    subst hi2
    refine Xw.any fun b h => ⟨j + 1, by omega, by omega, u' / 16, dig (u' % 16) :: ds, by simp [hds], by omega, by rw [hx, List.append_assoc]; rfl, (by (repeat (refine Kn.cons h rfl ?_)); exact h.base), hr2, hf2, by omega⟩
  · have hlt' : u' < 16 := by have := of_decide_eq_false hlt; omega
    obtain ⟨i, hi⟩ : ∃ i, 65 - j = i + 1 := ⟨64 - j, by omega⟩
    rw [hi] at hr
    rw [hexD_lo hlt'] at hx
    obtain ⟨z0, zf⟩ := hr.zero
    refine TW.exit ?_
    repeat (with_reducible refine Xw.thn (by simp) ?_)
    refine Xw.hit ?_
    refine Xw.nrm ?_
    refine TW.sreg ?_
    refine WL.op rfl rfl rfl (Go.Proofs.YtlagdgkjpnocfaaGreatDoor.W.quiet_move rfl rfl) ?_
    refine WL.op rfl rfl rfl (Go.Proofs.YtlagdgkjpnocfaaGreatDoor.W.quiet_bin rfl rfl rfl (fun W => (bn_subi W _ _ ((65 - j : Nat) : Int) 1 (by omega) (by omega)).trans (by rw [show ((65 - j : Nat) : Int) - 1 = (i : Int) by omega]))) ?_
    refine WL.op rfl rfl rfl (Go.Proofs.YtlagdgkjpnocfaaGreatDoor.W.quiet_assign rfl rfl) ?_
    refine WL.nil ?_
    refine TW.reg ?_
    refine WL.op rfl rfl rfl (Go.Proofs.YtlagdgkjpnocfaaGreatDoor.W.quiet_move rfl rfl) ?_
    refine WL.op rfl rfl rfl (Go.Proofs.YtlagdgkjpnocfaaGreatDoor.W.quiet_move rfl rfl) ?_
    refine WL.ix rfl rfl rfl rfl rfl rfl (ix_dig _ u' (by omega)) ?_
    refine WL.op rfl rfl rfl (Go.Proofs.YtlagdgkjpnocfaaGreatDoor.W.quiet_index rfl rfl rfl (fun W => ix_65 W ba i (by omega))) ?_
    refine WL.store rfl rfl rfl rfl rfl (st_u8 _ _ _ _ z0 zf) ?_
    have hr2 := hr.put (dig u')
    have hf2 := fr_set hf (b := ba) (by omega) i (.int .u8 ((dig u').toNat : Int))
    generalize W.setCell ⟨ba, i, none⟩ (.int .u8 ((dig u').toNat : Int)) = W2 at *
    have hx2 : hexD u = dig u' :: ds := hx
    have hi2 : (dig u' :: ds).length = 65 - i := by simp [hds]; omega
    have hcv : (convert 42 9 (.slice (some ⟨ba, i, none⟩) (65 - i) (65 - i))).run Tryz.prog W2 = .ok (bts (hexD u)) W2 := by
      have q := run_convert_bytes_back (P := Tryz.prog) W2 42 9 5 ⟨ba, i, none⟩ (65 - i) (dig u' :: ds) Tryz.underlying42 Tryz.underlying5 Tryz.underlying9 (fun k hk => by rw [Addr.add_lit]; exact hr2.at k hk)
      rw [hi2] at q
      rw [hx2]
      exact q
    refine WL.end ?_
    repeat (with_reducible refine Xw.nblk ?_)
    refine Xw.nrm ?_
    refine TW.seq ?_
    refine TW.sreg ?_
    refine WL.op rfl rfl rfl (Go.Proofs.YtlagdgkjpnocfaaGreatDoor.W.quiet_move rfl rfl) ?_
    refine WL.nil ?_
    refine TW.cond rfl (fun hb => by cases hb) (fun _ => ?_)
    refine TW.skip ?_
    refine TW.seq ?_
    refine TW.sreg ?_
    refine WL.op rfl rfl rfl (Go.Proofs.YtlagdgkjpnocfaaGreatDoor.W.quiet_move rfl rfl) ?_
    refine WL.nil ?_
    refine TW.cond rfl (fun hb => by cases hb) (fun _ => ?_)
    refine TW.skip ?_
    refine TW.sreg ?_
    refine WL.op rfl rfl rfl (Go.Proofs.YtlagdgkjpnocfaaGreatDoor.W.quiet_move rfl rfl) ?_
    refine WL.sl rfl rfl rfl rfl rfl rfl (sl_65 _ ba i (by omega) (by omega)) ?_
    refine WL.cv rfl rfl rfl rfl rfl hcv ?_
    refine WL.op rfl rfl rfl (Go.Proofs.YtlagdgkjpnocfaaGreatDoor.W.quiet_assign rfl rfl) ?_
    refine WL.nil ?_
    refine TW.rt ?_
    repeat (with_reducible first | refine Xw.thn (by simp) ?_ | refine Xw.rblk ?_)
    refine bodyw_ret2 rfl rfl rfl ?_
    exact ⟨rfl, hf2⟩
section
variable (w : World) (vs : Array Value)
theorem cf_fb : (callFunc 122 vs).run Tryz.prog w = .ok (.enter 122 vs) w := by simp [go_sem]
theorem cf_ifu : (callFunc 93 vs).run Tryz.prog w = .ok (.enter 93 vs) w := by simp [go_sem]
theorem cf_sfu : (callFunc 70 vs).run Tryz.prog w = .ok (.enter 70 vs) w := by simp [go_sem]
theorem cf_rep : (callFunc 71 vs).run Tryz.prog w = .ok (.enter 71 vs) w := by simp [go_sem]
theorem cf_hex : (callFunc 47 vs).run Tryz.prog w = .ok (.enter 47 vs) w := by simp [go_sem]
theorem cf_wb : (callFunc 48 vs).run Tryz.prog w = .ok (.enter 48 vs) w := by simp [go_sem]
theorem cf_ln : (callFunc 17 vs).run Tryz.prog w = .ok (.enter 17 vs) w := by simp [go_sem]
theorem cf_dcd : (callFunc 72 vs).run Tryz.prog w = .ok (.enter 72 vs) w := by simp [go_sem]
theorem cf_rt : (callFunc 13 vs).run Tryz.prog w = .ok (.enter 13 vs) w := by simp [go_sem]
end
theorem ln_str (w : World) (s : List UInt8) : (Builtin.len_ #[9] 3 #[bts s]).run Tryz.prog w = .ok (.int .i64 (s.length : Int)) w := by simp [go_sem, ByteArray.size]
theorem WL.lns {P : Program} {ops : Array Oper} {N : Nat} {Q : Exit → Act → World → Prop} {s : List (Nat × Value)} {l : List Oper} {o : Oper} {d : Nat} {w : World} {x : Operand} {t : TypeId} {u v : Value} (hop : o.op = .call ⟨.builtin .len, #[x], #[t]⟩) (hd : o.dst = some d) (hN : Nat.blt d N = true) (hg : gd ops s o = some true) (hu : ev s x = some u) (hr : (Builtin.len_ #[t] o.type #[u]).run P w = .ok v w) (h : WL P ops N Q ((d, v) :: s) l w) : WL P ops N Q s (o :: l) w :=
  WL.run hd hN hg (fun a k => by
    have h1 := k.eval hu
    unfold execOp
    rw [hop]
    generalize a.eval = e at *
    simp [go_sem, h1, hr]) h
theorem cv_u32 (w : World) (m : Int) (h0 : 0 ≤ m) (h1 : m < 4294967296) : (convert 40 85 (.int .u32 m)).run Tryz.prog w = .ok (.int .u64 m) w := by
  have h : IntKind.u64.wrap m = m := IntWalk.u64_in _ (by omega)
  simp [go_sem, h]
theorem cv_i32 (w : World) (m : Int) (h0 : 0 ≤ m) (h1 : m < 4294967296) : (convert 3 40 (.int .i64 m)).run Tryz.prog w = .ok (.int .u32 m) w := by
  have h : IntKind.u32.wrap m = m := IntWalk.u32_in _ (by omega)
  simp [go_sem, h]
theorem t_ifmt (u : Nat) (hu : u < 4294967296) (w : World) (hd : DbW w) : Calls Tryz.prog 93 #[.int .u64 (u : Int), .int .i64 16] w fun e w' => e = .returned (bts (hexD u)) ∧ Fr (fun _ => False) w w' := by
  refine calls_tw Tryz.func93 rfl rfl (Nat.le_of_ble_eq_true rfl) ?_
  refine TW.sreg ?_
  refine WL.op rfl rfl rfl (Go.Proofs.YtlagdgkjpnocfaaGreatDoor.W.quiet_assign rfl rfl) ?_
  refine WL.nil ?_
  refine TW.seq ?_
  refine TW.sreg ?_
  refine WL.op rfl rfl rfl (Go.Proofs.YtlagdgkjpnocfaaGreatDoor.W.quiet_move rfl rfl) ?_
  refine WL.op rfl rfl rfl (Go.Proofs.YtlagdgkjpnocfaaGreatDoor.W.quiet_bin rfl rfl rfl (v := .bool false) (fun W => by kernel_rfl)) ?_
  refine WL.nil ?_
  refine TW.cond rfl (fun hb => by cases hb) (fun _ => ?_)
  refine TW.skip ?_
  refine TW.sreg ?_
  refine WL.op rfl rfl rfl (Go.Proofs.YtlagdgkjpnocfaaGreatDoor.W.quiet_move rfl rfl) ?_
  refine WL.op rfl rfl rfl (Go.Proofs.YtlagdgkjpnocfaaGreatDoor.W.quiet_move rfl rfl) ?_
  refine WL.call (hr := t_fmtBits u hu w hd) rfl rfl rfl rfl rfl (fun W => cf_fb W _) ?_
  rintro e w1 ⟨rfl, f1⟩
  refine ⟨_, rfl, ?_⟩
  refine WL.op rfl rfl rfl (Go.Proofs.YtlagdgkjpnocfaaGreatDoor.W.quiet_move rfl rfl) ?_
  refine WL.ext rfl rfl rfl rfl rfl rfl ?_
  refine WL.ext rfl rfl rfl rfl rfl rfl ?_
  refine WL.op rfl rfl rfl (Go.Proofs.YtlagdgkjpnocfaaGreatDoor.W.quiet_assign rfl rfl) ?_
  refine WL.op rfl rfl rfl (Go.Proofs.YtlagdgkjpnocfaaGreatDoor.W.quiet_assign rfl rfl) ?_
  refine WL.nil ?_
  refine TW.sreg ?_
  refine WL.op rfl rfl rfl (Go.Proofs.YtlagdgkjpnocfaaGreatDoor.W.quiet_move rfl rfl) ?_
  refine WL.op rfl rfl rfl (Go.Proofs.YtlagdgkjpnocfaaGreatDoor.W.quiet_assign rfl rfl) ?_
  refine WL.nil ?_
  refine TW.rt ?_
  repeat (with_reducible first | refine Xw.thn (by simp) ?_ | refine Xw.rblk ?_)
  refine bodyw_ret rfl rfl ?_
  exact ⟨rfl, f1⟩
theorem t_sfmt (u : Nat) (hu : u < 4294967296) (w : World) (hd : DbW w) : Calls Tryz.prog 70 #[.int .u64 (u : Int), .int .i64 16] w fun e w' => e = .returned (bts (hexD u)) ∧ Fr (fun _ => False) w w' := by
  refine calls_tw Tryz.func70 rfl rfl (Nat.le_of_ble_eq_true rfl) ?_
  refine TW.sreg ?_
  refine WL.op rfl rfl rfl (Go.Proofs.YtlagdgkjpnocfaaGreatDoor.W.quiet_assign rfl rfl) ?_
  refine WL.nil ?_
  refine TW.sreg ?_
  refine WL.op rfl rfl rfl (Go.Proofs.YtlagdgkjpnocfaaGreatDoor.W.quiet_move rfl rfl) ?_
  refine WL.op rfl rfl rfl (Go.Proofs.YtlagdgkjpnocfaaGreatDoor.W.quiet_move rfl rfl) ?_
  refine WL.call (hr := t_ifmt u hu w hd) rfl rfl rfl rfl rfl (fun W => cf_ifu W _) ?_
  rintro e w1 ⟨rfl, f1⟩
  refine ⟨_, rfl, ?_⟩
  refine WL.op rfl rfl rfl (Go.Proofs.YtlagdgkjpnocfaaGreatDoor.W.quiet_assign rfl rfl) ?_
  refine WL.nil ?_
  refine TW.rt ?_
  repeat (with_reducible first | refine Xw.thn (by simp) ?_ | refine Xw.rblk ?_)
  refine bodyw_ret rfl rfl ?_
  exact ⟨rfl, f1⟩
/-- The eight digits of a word. -/
def hexT (u : Nat) : List UInt8 := Lib.repeatL [48] (8 - (hexD u).length) ++ hexD u
theorem rep_len : ∀ n, (Lib.repeatL [48] n).length = n
  | 0 => by simp [Lib.repeatL]
  | n + 1 => by simp [Lib.repeatL, rep_len n]
theorem hexD_8 {u : Nat} (hu : u < 4294967296) : (hexD u).length ≤ 8 := hexD_len 8 u (by decide) (by omega)
theorem hexT_len {u : Nat} (hu : u < 4294967296) : (hexT u).length = 8 := by
  have := hexD_8 hu
  unfold hexT
  rw [List.length_append, rep_len]
  omega
theorem t_hex (u : Nat) (hu : u < 4294967296) (w : World) (hd : DbW w) : Calls Tryz.prog 47 #[.int .u32 (u : Int)] w fun e w' => e = .returned (bts (hexT u)) ∧ Fr (fun _ => False) w w' := by
  have h8 := hexD_8 hu
  refine calls_tw Tryz.func47 rfl rfl (Nat.le_of_ble_eq_true rfl) ?_
  refine TW.sreg ?_
  refine WL.op rfl rfl rfl (Go.Proofs.YtlagdgkjpnocfaaGreatDoor.W.quiet_assign rfl rfl) ?_
  refine WL.nil ?_
  refine TW.sreg ?_
  refine WL.op rfl rfl rfl (Go.Proofs.YtlagdgkjpnocfaaGreatDoor.W.quiet_move rfl rfl) ?_
  refine WL.cv rfl rfl rfl rfl rfl (cv_u32 _ _ (by omega) (by omega)) ?_
  refine WL.call (hr := t_sfmt u hu w hd) rfl rfl rfl rfl rfl (fun W => cf_sfu W _) ?_
  rintro e w1 ⟨rfl, f1⟩
  refine ⟨_, rfl, ?_⟩
  refine WL.op rfl rfl rfl (Go.Proofs.YtlagdgkjpnocfaaGreatDoor.W.quiet_assign rfl rfl) ?_
  refine WL.nil ?_
  refine TW.sreg ?_
  refine WL.op rfl rfl rfl (Go.Proofs.YtlagdgkjpnocfaaGreatDoor.W.quiet_move rfl rfl) ?_
  refine WL.lns rfl rfl rfl rfl rfl (ln_str _ _) ?_
  refine WL.op rfl rfl rfl (Go.Proofs.YtlagdgkjpnocfaaGreatDoor.W.quiet_bin rfl rfl rfl (fun W => (bn_subi W _ _ 8 ((hexD u).length : Int) (by omega) (by omega)).trans (by rw [show (8 : Int) - ((hexD u).length : Int) = ((8 - (hexD u).length : Nat) : Int) by omega]))) ?_
  refine WL.call (hr := Tryz.strings_Repeat ⟨#[48]⟩ (8 - (hexD u).length) w1 (by omega) (by show 1 * _ ≤ _; omega)) rfl rfl rfl rfl rfl (fun W => cf_rep W _) ?_
  rintro e w2 ⟨rfl, hb⟩
  refine ⟨_, rfl, ?_⟩
  refine WL.op rfl rfl rfl (Go.Proofs.YtlagdgkjpnocfaaGreatDoor.W.quiet_move rfl rfl) ?_
  refine WL.op rfl rfl rfl (Go.Proofs.YtlagdgkjpnocfaaGreatDoor.W.quiet_bin rfl rfl rfl (fun W => bn_cat W _ _ (Lib.repeatL [48] (8 - (hexD u).length)) (hexD u) (by rw [rep_len]; omega))) ?_
  refine WL.op rfl rfl rfl (Go.Proofs.YtlagdgkjpnocfaaGreatDoor.W.quiet_assign rfl rfl) ?_
  refine WL.nil ?_
  refine TW.rt ?_
  repeat (with_reducible first | refine Xw.thn (by simp) ?_ | refine Xw.rblk ?_)
  refine bodyw_ret rfl rfl ?_
  exact ⟨rfl, f1.trans (Fr.of_below' hb)⟩
theorem pal_ins (w : World) : (Instr.alloc 23 true (.tuple #[])).run Tryz.prog w = .ok (.pointer (some ⟨w.heap.size, 0, none⟩)) (w.alloc (.cells #[.int .i64 0, .int .i64 0, .int .i64 0, .int .i64 0, .int .i64 0] 23)) := by simp [go_sem]
theorem pst_ins (w : World) (u0 u1 u2 u3 u4 : Int) : (Instr.storeAt 23 (.pointer (some ⟨w.heap.size, 0, none⟩)) (.agg #[.int .i64 u0, .int .i64 u1, .int .i64 u2, .int .i64 u3, .int .i64 u4])).run Tryz.prog (w.alloc (.cells #[.int .i64 0, .int .i64 0, .int .i64 0, .int .i64 0, .int .i64 0] 23)) = .ok () (w.alloc (.cells #[.int .i64 u0, .int .i64 u1, .int .i64 u2, .int .i64 u3, .int .i64 u4] 23)) := by simp [go_sem]
theorem bn_neE (w : World) (x y : Operand) (m n : Int) : (do eqGuard .neq 24 x y (.int .i64 m) (.int .i64 n); binOp .neq 24 (.int .i64 m) (.int .i64 n) : Sem Value).run Tryz.prog w = .ok (.bool (m != n)) w := by simp [go_sem]
end Go.Proofs.YtlagdgkjpnocfaaGreatDoor
