/-
  Flow (layer 16): the order, the ways back, what is reached.
-/
import Derived.Test.YtobibplilbchfaaFlG
import Derived.Test.YtobibplilbchfaaFlH
import Derived.Lib.OwnBridge
import Derived.Lib.RowBridge
import Derived.Lib.AppendIntMem
import Derived.KernelRfl
namespace Go.Proofs.Ytobibplilbchfaa
open Go.RowKit Go.Sort
set_option linter.unusedVariables false
set_option linter.unusedSimpArgs false
set_option linter.unnecessarySimpa false
theorem qk_flow_traverse (w : World) (vs : Array Value) : (callFunc 22 vs).run Try.prog w = .ok (.enter 22 vs) w := by simp [go_sem]
theorem qg_flow_traversal_2 (w : World) (u0 u1 u2 u3 : Value) : (Instr.field 56 (.agg #[u0, u1, u2, u3]) 2).run Try.prog w = .ok u2 w := by kernel_rfl
theorem qk_slices_Reverse_int_int (w : World) (vs : Array Value) : (callFunc 25 vs).run Try.prog w = .ok (.enter 25 vs) w := by simp [go_sem]
theorem qg_flow_traversal_3 (w : World) (u0 u1 u2 u3 : Value) : (Instr.field 56 (.agg #[u0, u1, u2, u3]) 3).run Try.prog w = .ok u3 w := by kernel_rfl
theorem qi_s_bool (w : World) (b o n c j : Nat) (hj : j < n) : (Instr.indexAt 30 (.slice (some ⟨b, o, none⟩) n c) (.int .i64 (j : Int))).run Try.prog w = .ok (.pointer (some ⟨b, o + j, none⟩)) w := by
  have h : (j : Int) < (n : Int) := by omega
  simp [go_sem, h, hj]
theorem iC_map : ∀ xs : List Int, xs.flatMap iC = xs.map (Value.int .i64)
  | [] => rfl
  | x :: xs => by rw [List.flatMap_cons, iC_map xs]; rfl
theorem Ints.own {B : Nat} {w : World} {v : Value} {xs : List Int} (h : Ints B w v xs) : w.ownsRow B 3 1 v xs.length (xs.map (Value.int .i64)) := by
  have := h
  unfold Ints Row at this
  rw [iC_map] at this
  exact this
theorem Ints.of {B : Nat} {w : World} {v : Value} {xs : List Int} (h : w.ownsRow B 3 1 v xs.length (xs.map (Value.int .i64))) : Ints B w v xs := by
  unfold Ints Row
  rw [iC_map]
  exact h
theorem srt_fr {w : World} {g n : Nat} {d : Array Int} {os : Array Obj} : Fr (fun q => q = g) w (Go.Sort.grow (putRow (Value.int .i64) (Sort.ahead w n) g 0 d) os) := by
  refine ⟨rfl, rfl, ?_, fun k hk hn => ?_⟩
  · simp [Go.Sort.grow, putRow, mapBlock, Sort.ahead]
  · simp [Go.Sort.grow, putRow, mapBlock, Sort.ahead, Array.getElem?_append, Array.getElem?_modify, Array.getElem_modify, hk, show ¬g = k from fun e => hn e.symm]
theorem rev_fr {w : World} {g n : Nat} {d : Array Int} : Fr (fun q => q = g) w (putRow (Value.int .i64) (Sort.ahead w n) g 0 d) := by
  refine ⟨rfl, rfl, ?_, fun k hk hn => ?_⟩
  · simp [putRow, mapBlock, Sort.ahead]
  · simp [putRow, mapBlock, Sort.ahead, Array.getElem?_modify, show ¬g = k from fun e => hn e.symm]
theorem t_rev {B : Nat} {w : World} {v : Value} {xs : List Int} (h : Ints B w v xs) (hl : xs.length ≤ 1000000) : Calls Try.prog 25 #[v] w fun e w' => e = .returned (.tuple #[]) ∧ Ints B w' v xs.reverse ∧ Fr (fun q => v.ownBlock = some q) w w' := by
  by_cases hv : v = .slice none 0 0
  · subst hv
    refine (Try.slices_Reverse_int_empty none 0 w).mono fun e w' q => ?_
    obtain ⟨rfl, rfl⟩ := q
    rcases h.2 with ⟨_, hn⟩ | ⟨g, _, _, e, _⟩
    · have : xs = [] := List.eq_nil_of_length_eq_zero hn
      subst this
      exact ⟨rfl, h, Fr.refl _ _⟩
    · cases e
  · obtain ⟨g, cap, rfl, hb, hlt, hn, hm, hzl, hH⟩ := Lib.holds_of_ownsRow h.own hv
    refine (Try.slices_Reverse_int g 0 cap xs w hH (by omega)).mono fun e w' q => ?_
    obtain ⟨rfl, n, rfl⟩ := q
    refine ⟨rfl, ?_, rev_fr.mono (fun q _ e => by rw [e]; rfl)⟩
    have hs : xs.reverse.length = xs.length := List.length_reverse
    have h1 := Lib.ownsRow_putRow (q := n) (k := xs.length) (ys := xs.reverse) h.own hs (Nat.le_refl _)
    rw [← hs, List.take_length] at h1
    refine Ints.of ?_
    rw [← hs]
    exact h1
theorem t_sort {B : Nat} {w : World} {v : Value} {xs : List Int} (h : Ints B w v xs) (hl : xs.length ≤ 1000000) : Calls Try.prog 33 #[v] w fun e w' => e = .returned (.tuple #[]) ∧ Ints B w' v (xs.mergeSort fun x y => decide (x ≤ y)) ∧ Fr (fun q => v.ownBlock = some q) w w' := by
  by_cases hv : v = .slice none 0 0
  · subst hv
    refine (Try.slices_Sort_int_none none 0 w).mono fun e w' q => ?_
    obtain ⟨rfl, rfl⟩ := q
    rcases h.2 with ⟨_, hn⟩ | ⟨g, _, _, e, _⟩
    · have : xs = [] := List.eq_nil_of_length_eq_zero hn
      subst this
      exact ⟨rfl, by simpa using h, Fr.refl _ _⟩
    · cases e
  · obtain ⟨g, cap, rfl, hb, hlt, hn, hm, hzl, hH⟩ := Lib.holds_of_ownsRow h.own hv
    refine (Try.slices_Sort_int g 0 cap xs w hH hlt (by omega)).mono fun e w' q => ?_
    obtain ⟨rfl, n, os, rfl⟩ := q
    refine ⟨rfl, ?_, srt_fr.mono (fun q _ e => by rw [e]; rfl)⟩
    have hs : (xs.mergeSort fun x y => decide (x ≤ y)).length = xs.length := List.length_mergeSort _
    have h1 := Lib.ownsRow_putRow (q := n) (k := xs.length) (ys := xs.mergeSort fun x y => decide (x ≤ y)) h.own hs (Nat.le_refl _)
    have h2 := Lib.ownsRow_grow h1 0 os
    rw [← hs, List.take_length] at h2
    refine Ints.of ?_
    rw [← hs]
    exact h2
/-- A row of truth values of the call's own. -/
def bC (x : Bool) : List Value := [.bool x]
theorem bC_len (x : Bool) : (bC x).length = 1 := rfl
def Bools (B : Nat) (w : World) (v : Value) (xs : List Bool) : Prop := Row B 4 1 bC w v xs
theorem Bools.fr {B : Nat} {w w' : World} {v : Value} {xs : List Bool} {F : Nat → Prop} (h : Bools B w v xs) (hf : Fr F w w') (hn : ∀ k, v.ownBlock = some k → ¬F k) : Bools B w' v xs := Row.fr h hf hn
theorem infoB : (Try.prog.info? 4).map (fun i => (i.zero, i.size, i.bytes)) = some (some (.bool false), 1, 1) := by kernel_rfl
theorem mk_b (n : Nat) (hn : n ≤ 1000000) (w : World) : (Instr.makeSlice 30 (.int .i64 (n : Int)) (.int .i64 (n : Int))).run Try.prog w = .ok (.slice (some ⟨w.heap.size, 0, none⟩) n n) (w.alloc (.cells (madeCells #[.bool false] n) 4)) :=
  run_make_row' 30 4 (.bool false) 1 Try.underlying30 infoB rfl .i64 .i64 n (by omega) (by omega) w
theorem repb_flat : ∀ n : Nat, (List.replicate n false).flatMap bC = List.replicate n (.bool false)
  | 0 => rfl
  | n + 1 => by rw [List.replicate_succ, List.flatMap_cons, repb_flat n, List.replicate_succ]; rfl
theorem bools_made {B g n : Nat} {w : World} (h : Bx w g (madeCells #[.bool false] n) 4) (hb : B ≤ g) (hn : n ≤ 1000000) : Bools B w (.slice (some ⟨g, 0, none⟩) n n) (List.replicate n false) := by
  refine ⟨by rw [flat_len bC_len], .inr ⟨g, n, _, by simp, hb, h, by simp, by unfold maxLen; omega, by rw [size_madeCells]; omega, ?_⟩⟩
  rw [toList_madeCells_one, repb_flat]
  simp
theorem Bools.cell {B : Nat} {w : World} {g n cap : Nat} {ys : List Bool} (h : Bools B w (.slice (some ⟨g, 0, none⟩) n cap) ys) {k : Nat} (hk : k < ys.length) : w.cell? ⟨g, 0 + k, none⟩ = some (.bool (ys.getD k false)) :=
  Row.cell bC_len h (k := k) (x := ys[k]) (List.getElem?_eq_getElem hk) (j := 0) (u := .bool (ys.getD k false)) (by simp [bC, List.getD_eq_getElem?_getD, hk]) (by omega)
theorem Bools.store {B : Nat} {w : World} {g n cap : Nat} {ys : List Bool} (h : Bools B w (.slice (some ⟨g, 0, none⟩) n cap) ys) {k : Nat} (hk : k < ys.length) (x : Bool) : ∃ w', (Instr.storeAt 4 (.pointer (some ⟨g, 0 + k, none⟩)) (.bool x)).run Try.prog w = .ok () w' ∧ (Bools B w' (.slice (some ⟨g, 0, none⟩) n cap) (ys.set k x) ∧ Fr (fun q => q = g) w w') := by
  have c0 := h.cell hk
  have e0 := Row.free (q := 0 + k) h
  exact ⟨w.setCell ⟨g, 0 + k, none⟩ (.bool x), by simp only [Nat.zero_add] at c0 e0 ⊢; simp [go_sem, c0, e0], Row.upd bC_len h hk (j := 0) (by decide) (by omega) _ x (fun _ _ => rfl), Fr.setCell _ _ _ rfl⟩
/-- The traversal, by the walk. -/
theorem t_trav (nm : ByteArray) (vd : Bool) (pr R : Int) (oa : Option Addr) (on oc : Nat) (ba : Option Addr) (bs : List Bk) (bc : Nat) (hnb : bs.length ≤ 1000) (w : World) (hbl : BkL w ba bs) : Calls Try.prog 22 #[.agg #[.string nm, .bool vd, .int .i64 pr, .int .i64 R, .slice oa on oc, .slice ba bs.length bc]] w fun e w' => ∃ v0 v1 vl vb, e = .returned (.agg #[v0, v1, vl, vb]) ∧ Ints w.heap.size w' vl (walkedF bs).left ∧ Row w.heap.size 41 2 pC w' vb (walkedF bs).back ∧ Fr (fun _ => False) w w' := by
  obtain ⟨N, hN, hr⟩ := run_walked bs
  have := t_traverse nm vd pr R oa on oc ba bs bc hnb N (by rw [hr]; rfl) (by omega) w hbl
  rw [hr] at this
  exact this
theorem left_in (bs : List Bk) : (∀ x ∈ (walkedF bs).left, InB bs x) ∧ (walkedF bs).left.length ≤ 3 * bs.length ∧ (walkedF bs).back.length ≤ 3 * bs.length := by
  obtain ⟨N, hN, hr⟩ := run_walked bs
  have h := ok_iter bs N
  rw [hr] at h
  have h1 : (walkedF bs).left.length ≤ N := h.ll
  have h2 : (walkedF bs).back.length ≤ N := h.lb
  exact ⟨h.lg, by omega, by omega⟩
def seenF (bs : List Bk) (l : List Int) : List Bool := (List.range bs.length).map fun (k : Nat) => l.contains (k : Int)
theorem seen_nil (bs : List Bk) : seenF bs [] = List.replicate bs.length false := by unfold seenF; simp [List.map_const']
theorem seen_len (bs : List Bk) (l : List Int) : (seenF bs l).length = bs.length := by simp [seenF]
theorem seen_snoc (bs : List Bk) (l : List Int) (n : Nat) (hn : n < bs.length) : (seenF bs l).set n true = seenF bs (l ++ [(n : Int)]) := by
  refine List.ext_getElem (by simp [seen_len]) fun k h1 h2 => ?_
  rw [List.getElem_set]
  unfold seenF
  by_cases q : n = k
  · subst q; simp
  · rw [if_neg q]
    have : ((k : Int) == (n : Int)) = false := by simp; omega
    simp only [List.getElem_map, List.getElem_range, List.contains_append, List.contains_cons, List.contains_nil, this, Bool.or_false]
set_option maxRecDepth 100000 in
theorem t_order (nm : ByteArray) (vd : Bool) (pr R : Int) (oa : Option Addr) (on oc : Nat) (ba : Option Addr) (bs : List Bk) (bc : Nat) (hnb : bs.length ≤ 1000) (w : World) (hbl : BkL w ba bs) : Calls Try.prog 14 #[.agg #[.string nm, .bool vd, .int .i64 pr, .int .i64 R, .slice oa on oc, .slice ba bs.length bc]] w fun e w' => ∃ v, e = .returned v ∧ Ints w.heap.size w' v (walkedF bs).left.reverse ∧ Fr (fun _ => False) w w' := by
  have ff := Fr.refl (fun _ => False) w
  refine calls_tw Try.func14 rfl rfl (Nat.le_of_ble_eq_true rfl) ?_
  obtain ⟨_, hll, _⟩ := left_in bs
  refine TW.sreg ?_
  have lw1 := ff.size
  refine O.boxR rfl rfl rfl rfl rfl (qxR_api_Proc w _ _ _ _ _ _ _ _ _ _) ?_
  rintro wa1 ⟨fa1, bx1⟩
  replace ff := ff.trans fa1
  refine WL.op rfl rfl rfl (Go.Proofs.Ytobibplilbchfaa.W.quiet_assign rfl rfl) ?_
  refine WL.nil ?_
  refine TW.sreg ?_
  refine WL.ld rfl rfl rfl rfl rfl (qlB_api_Proc _ _ _ _ _ _ _ _ _ _ _ _ _ bx1) ?_
  have hsz := ff.size
  refine WL.call (hr := t_trav nm vd pr R oa on oc ba bs bc hnb _ (hbl.fr ff)) rfl rfl rfl rfl rfl (fun W => qk_flow_traverse W _) ?_
  rintro e w1 ⟨v0, v1, vl, vb, rfl, hl, hb, f1⟩
  refine ⟨_, rfl, ?_⟩
  replace bx1 := bx1.fr f1 id
  replace ff := ff.trans f1
  replace hl := Row.base (B' := w.heap.size) hl (fun k hk => by have := (Row.lt hl k hk).1; omega)
  refine O.fd rfl rfl rfl rfl rfl (qg_flow_traversal_2 _ _ _ _ _) ?_
  refine WL.op rfl rfl rfl (Go.Proofs.Ytobibplilbchfaa.W.quiet_assign rfl rfl) ?_
  refine WL.nil ?_
  refine TW.sreg ?_
  refine WL.op rfl rfl rfl (Go.Proofs.Ytobibplilbchfaa.W.quiet_move rfl rfl) ?_
  refine WL.call (hr := t_rev hl (by omega)) rfl rfl rfl rfl rfl (fun W => qk_slices_Reverse_int_int W _) ?_
  rintro e w2 ⟨rfl, hr, f2⟩
  refine ⟨_, rfl, ?_⟩
  refine WL.nil ?_
  refine TW.sreg ?_
  refine WL.op rfl rfl rfl (Go.Proofs.Ytobibplilbchfaa.W.quiet_move rfl rfl) ?_
  refine WL.op rfl rfl rfl (Go.Proofs.Ytobibplilbchfaa.W.quiet_assign rfl rfl) ?_
  refine WL.nil ?_
  refine TW.rt ?_
  refine bodyw_ret rfl rfl ?_
  exact ⟨_, rfl, hr, ff.trans' f2 (fun q hq e => by have := (Row.lt hl q e).1; omega)⟩
set_option maxRecDepth 100000 in
theorem t_back (nm : ByteArray) (vd : Bool) (pr R : Int) (oa : Option Addr) (on oc : Nat) (ba : Option Addr) (bs : List Bk) (bc : Nat) (hnb : bs.length ≤ 1000) (w : World) (hbl : BkL w ba bs) : Calls Try.prog 10 #[.agg #[.string nm, .bool vd, .int .i64 pr, .int .i64 R, .slice oa on oc, .slice ba bs.length bc]] w fun e w' => ∃ v, e = .returned v ∧ Row w.heap.size 41 2 pC w' v (walkedF bs).back ∧ Fr (fun _ => False) w w' := by
  have ff := Fr.refl (fun _ => False) w
  refine calls_tw Try.func10 rfl rfl (Nat.le_of_ble_eq_true rfl) ?_
  refine TW.sreg ?_
  have lw1 := ff.size
  refine O.boxR rfl rfl rfl rfl rfl (qxR_api_Proc w _ _ _ _ _ _ _ _ _ _) ?_
  rintro wa1 ⟨fa1, bx1⟩
  replace ff := ff.trans fa1
  refine WL.op rfl rfl rfl (Go.Proofs.Ytobibplilbchfaa.W.quiet_assign rfl rfl) ?_
  refine WL.nil ?_
  refine TW.sreg ?_
  refine WL.ld rfl rfl rfl rfl rfl (qlB_api_Proc _ _ _ _ _ _ _ _ _ _ _ _ _ bx1) ?_
  have hsz := ff.size
  refine WL.call (hr := t_trav nm vd pr R oa on oc ba bs bc hnb _ (hbl.fr ff)) rfl rfl rfl rfl rfl (fun W => qk_flow_traverse W _) ?_
  rintro e w1 ⟨v0, v1, vl, vb, rfl, hl, hb, f1⟩
  refine ⟨_, rfl, ?_⟩
  replace bx1 := bx1.fr f1 id
  replace ff := ff.trans f1
  refine O.fd rfl rfl rfl rfl rfl (qg_flow_traversal_3 _ _ _ _ _) ?_
  refine WL.op rfl rfl rfl (Go.Proofs.Ytobibplilbchfaa.W.quiet_assign rfl rfl) ?_
  refine WL.nil ?_
  refine TW.rt ?_
  refine bodyw_ret rfl rfl ?_
  exact ⟨_, rfl, Row.base hb (fun k hk => by have := (Row.lt hb k hk).1; omega), ff⟩
set_option maxRecDepth 100000 in
theorem t_reach (nm : ByteArray) (vd : Bool) (pr R : Int) (oa : Option Addr) (on oc : Nat) (ba : Option Addr) (bs : List Bk) (bc : Nat) (hnb : bs.length ≤ 1000) (w : World) (hbl : BkL w ba bs) : Calls Try.prog 9 #[.agg #[.string nm, .bool vd, .int .i64 pr, .int .i64 R, .slice oa on oc, .slice ba bs.length bc]] w fun e w' => ∃ (B g : Nat) (c : Nat), e = .returned (.slice (some ⟨g, 0, none⟩) bs.length c) ∧ Bools B w' (.slice (some ⟨g, 0, none⟩) bs.length c) (seenF bs (walkedF bs).left) ∧ Fr (fun _ => False) w w' := by
  have ff := Fr.refl (fun _ => False) w
  refine calls_tw Try.func9 rfl rfl (Nat.le_of_ble_eq_true rfl) ?_
  obtain ⟨hli, hll, _⟩ := left_in bs
  refine TW.sreg ?_
  have lw1 := ff.size
  refine O.boxR rfl rfl rfl rfl rfl (qxR_api_Proc w _ _ _ _ _ _ _ _ _ _) ?_
  rintro wa1 ⟨fa1, bx1⟩
  replace ff := ff.trans fa1
  refine WL.op rfl rfl rfl (Go.Proofs.Ytobibplilbchfaa.W.quiet_assign rfl rfl) ?_
  refine WL.nil ?_
  refine TW.sreg ?_
  refine WL.op rfl rfl rfl (Go.Proofs.Ytobibplilbchfaa.W.quiet_field rfl rfl (fun W => (qa_api_Proc_5 W _ _))) ?_
  refine WL.ld rfl rfl rfl rfl rfl (ql_s_api_Block _ _ _ _ _ (bx1.cell (j := 5) rfl)) ?_
  refine O.len rfl rfl rfl rfl rfl (qn_s_api_Block _ _ _ _) ?_
  have lt2_bx1 := bx1.lt
  have lw2 := ff.size
  refine O.mkR rfl rfl rfl rfl rfl rfl (mk_b bs.length (by omega) _) ?_
  rintro wa2 ⟨fa2, bx2⟩
  replace bx1 := bx1.fr fa2 id
  replace ff := ff.trans fa2
  have hB := bools_made (B := wa1.heap.size) bx2 (Nat.le_refl _) (by omega)
  have hws := fa2.size
  have hwb := bx2.lt
  refine WL.op rfl rfl rfl (Go.Proofs.Ytobibplilbchfaa.W.quiet_assign rfl rfl) ?_
  refine WL.nil ?_
  refine TW.seq ?_
  refine TW.sreg ?_
  refine WL.ld rfl rfl rfl rfl rfl (qlB_api_Proc _ _ _ _ _ _ _ _ _ _ _ _ _ bx1) ?_
  refine WL.call (hr := t_trav nm vd pr R oa on oc ba bs bc hnb _ (hbl.fr ff)) rfl rfl rfl rfl rfl (fun W => qk_flow_traverse W _) ?_
  rintro e w1 ⟨v0, v1, vl, vb, rfl, hl, hb, f1⟩
  refine ⟨_, rfl, ?_⟩
  replace bx1 := bx1.fr f1 id
  replace hB := hB.fr f1 (fun _ _ => id)
  replace ff := ff.trans f1
  obtain ⟨la, lc, rfl⟩ := Row.form hl
  obtain ⟨w2b, hw2b⟩ : ∃ n, n = wa2.heap.size := ⟨_, rfl⟩
  rw [← hw2b] at hl hwb
  refine O.fd rfl rfl rfl rfl rfl (qg_flow_traversal_2 _ _ _ _ _) ?_
  refine O.len rfl rfl rfl rfl rfl (qn_s_int _ _ _ _) ?_
  refine WL.op rfl rfl rfl (Go.Proofs.Ytobibplilbchfaa.W.quiet_move rfl rfl) ?_
  refine WL.nil ?_
  refine TW.block ?_
  refine O.loopG (n := (walkedF bs).left.length) (fun a _ => (intOf (a.tmps.getD 14 undef)).toNat) (fun j a W => Kn Try.f9.ntmps [(3, .slice (some ⟨wa1.heap.size, 0, none⟩) bs.length bs.length), (12, .slice la (walkedF bs).left.length lc), (13, .int .i64 ((walkedF bs).left.length : Int)), (14, .int .i64 (j : Int))] a ∧ Fr (fun _ => False) w W ∧ Bools wa1.heap.size W (.slice (some ⟨wa1.heap.size, 0, none⟩) bs.length bs.length) (seenF bs ((walkedF bs).left.take j)) ∧ Ints w2b W (.slice la (walkedF bs).left.length lc) (walkedF bs).left) (fun j a W h => O.slotv h.1 rfl) 0 (Nat.zero_le _) (fun a k => ⟨(by (repeat (refine Kn.cons k rfl ?_)); exact k.base), ff, by rw [List.take_zero, seen_nil]; exact hB, hl⟩) ?_
  rintro j a wl hj ⟨k, ff, hB, hl⟩
  refine TW.app (s := [(3, .slice (some ⟨wa1.heap.size, 0, none⟩) bs.length bs.length), (12, .slice la (walkedF bs).left.length lc), (13, .int .i64 ((walkedF bs).left.length : Int)), (14, .int .i64 (j : Int))]) ?_ k
  refine TW.sreg ?_
  refine WL.op rfl rfl rfl (Go.Proofs.Ytobibplilbchfaa.W.quiet_bin rfl rfl rfl (fun W => qb_lss_int W _ _ _ _)) ?_
  refine O.split (fun hbj => ?_) (fun hbj => ?_)
  · skip
    have hj2 : j < (walkedF bs).left.length := by have := of_decide_eq_true hbj; omega
    obtain ⟨_, _, e2, hat⟩ := hl.at
    cases e2
    obtain ⟨g, o, rfl, hc⟩ := hat j hj2
    have hin := hli ((walkedF bs).left.getD j 0) (by rw [List.getD_eq_getElem?_getD, List.getElem?_eq_getElem hj2]; exact List.getElem_mem hj2)
    unfold InB at hin
    obtain ⟨n, hn⟩ : ∃ n : Nat, (walkedF bs).left.getD j 0 = (n : Int) := ⟨((walkedF bs).left.getD j 0).toNat, by omega⟩
    rw [hn] at hc
    refine WL.nil ?_
    refine TW.seq ?_
    refine TW.cond rfl (fun _ => ?_) (fun hb => by cases hb)
    refine TW.skip ?_
    refine TW.seq ?_
    refine TW.block ?_
    refine TW.sreg ?_
    refine O.ixa rfl rfl rfl rfl rfl rfl (qi_s_int _ _ _ _ _ _ (by omega)) ?_
    refine WL.ld rfl rfl rfl rfl rfl (ql_int _ _ _ hc) ?_
    refine WL.op rfl rfl rfl (Go.Proofs.Ytobibplilbchfaa.W.quiet_assign rfl rfl) ?_
    refine WL.nil ?_
    refine TW.reg ?_
    refine WL.op rfl rfl rfl (Go.Proofs.Ytobibplilbchfaa.W.quiet_move rfl rfl) ?_
    refine WL.op rfl rfl rfl (Go.Proofs.Ytobibplilbchfaa.W.quiet_move rfl rfl) ?_
    refine O.ixa rfl rfl rfl rfl rfl rfl (qi_s_bool _ _ _ _ _ _ (by omega)) ?_
    refine O.storeR rfl rfl rfl rfl rfl (hB.store (k := n) (by rw [seen_len]; omega) true) ?_
    rintro w5 ⟨hB2, hFs⟩
    replace hl := Ints.fr hl hFs (fun k hk e => by have := (Row.lt hl k hk).1; omega)
    replace ff := ff.trans' hFs (fun q hq e => by omega)
    rw [seen_snoc bs _ n (by omega), ← hn, show (walkedF bs).left.take j ++ [(walkedF bs).left.getD j 0] = (walkedF bs).left.take (j + 1) by rw [List.take_add_one, List.getElem?_eq_getElem hj2, List.getD_eq_getElem?_getD, List.getElem?_eq_getElem hj2]; rfl] at hB2
    refine WL.end ?_
    refine Xw.nblk ?_
    refine Xw.nrm ?_
    refine TW.reg ?_
    refine WL.op rfl rfl rfl (Go.Proofs.Ytobibplilbchfaa.W.quiet_bin rfl rfl rfl (fun W => qb_add_int W _ _ _ _ (by omega) (by omega))) ?_
    refine WL.op rfl rfl rfl (Go.Proofs.Ytobibplilbchfaa.W.quiet_move rfl rfl) ?_
    refine WL.end ?_
    refine Xw.any (fun a k => ?_)
    exact ⟨j + 1, by omega, by omega, (by (repeat (refine Kn.cons k rfl ?_)); exact k.base), ff, hB2, hl⟩
  · skip
    refine WL.nil ?_
    refine TW.seq ?_
    refine TW.cond rfl (fun hb => by cases hb) (fun _ => ?_)
    refine TW.exit ?_
    refine Xw.thn (by simp) ?_
    refine Xw.thn (by simp) ?_
    refine Xw.hit ?_
    refine Xw.nrm ?_
    refine TW.sreg ?_
    refine WL.op rfl rfl rfl (Go.Proofs.Ytobibplilbchfaa.W.quiet_move rfl rfl) ?_
    refine WL.op rfl rfl rfl (Go.Proofs.Ytobibplilbchfaa.W.quiet_assign rfl rfl) ?_
    refine WL.nil ?_
    refine TW.rt ?_
    refine bodyw_ret rfl rfl ?_
    have hje : j = (walkedF bs).left.length := by have := of_decide_eq_false hbj; omega
    subst hje
    rw [List.take_length] at hB
    exact ⟨_, _, _, rfl, hB, ff⟩
end Go.Proofs.Ytobibplilbchfaa
