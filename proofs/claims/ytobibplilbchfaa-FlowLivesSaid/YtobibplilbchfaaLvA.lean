/-
  Flow (layer 16): what is live: a register, registers read, what an end reads, what an instruction does.
-/
import Derived.Test.YtobibplilbchfaaDuC
import Derived.Test.YtobibplilbchfaaFlI
namespace Go.Proofs.Ytobibplilbchfaa
open Go.RowKit
set_option linter.unusedVariables false
set_option linter.unusedSimpArgs false
set_option linter.unnecessarySimpa false
theorem qn_flow_Row (w : World) (a : Option Addr) (k l : Nat) : (Builtin.len_ #[63] 3 #[.slice a k l]).run Try.prog w = .ok (.int .i64 k) w := by simp [go_sem]
theorem qi_flow_Row (w : World) (b o n c j : Nat) (hj : j < n) : (Instr.indexAt 63 (.slice (some ⟨b, o, none⟩) n c) (.int .i64 (j : Int))).run Try.prog w = .ok (.pointer (some ⟨b, o + j, none⟩)) w := by
  have h : (j : Int) < (n : Int) := by omega
  simp [go_sem, h, hj]
theorem qk_flow_Row_has (w : World) (vs : Array Value) : (callFunc 42 vs).run Try.prog w = .ok (.enter 42 vs) w := by simp [go_sem]
theorem qa_api_Block_2 (w : World) (b o : Nat) : (Instr.fieldAt 48 (.pointer (some ⟨b, o, none⟩)) 2).run Try.prog w = .ok (.pointer (some ⟨b, o + 2, none⟩)) w := by simp [go_sem]
theorem qlB_api_Ins (w : World) (g : Nat) (um0 : Int) (um1 : Int) (um2 : Int) (um3 : Int) (um4 : Int) (um5 : Int) (um6 : Int) (um7 : Int) (um8 : Int) (up9 : Option Addr) (uk9 ul9 : Nat) (up10 : Bool) (tt : TypeId) (h : Bx w g #[.int .i64 um0, .int .i64 um1, .int .i64 um2, .int .i64 um3, .int .i64 um4, .int .i64 um5, .int .i64 um6, .int .i64 um7, .int .u32 um8, .slice up9 uk9 ul9, .bool up10] tt) : (Instr.loadAt 69 (.pointer (some ⟨g, 0, none⟩))).run Try.prog w = .ok (.agg #[.int .i64 um0, .int .i64 um1, .int .i64 um2, .int .i64 um3, .int .i64 um4, .int .i64 um5, .int .i64 um6, .int .i64 um7, .int .u32 um8, .slice up9 uk9 ul9, .bool up10]) w := by
  have c0 := h.cell (j := 0) rfl
  have c1 := h.cell (j := 1) rfl
  have c2 := h.cell (j := 2) rfl
  have c3 := h.cell (j := 3) rfl
  have c4 := h.cell (j := 4) rfl
  have c5 := h.cell (j := 5) rfl
  have c6 := h.cell (j := 6) rfl
  have c7 := h.cell (j := 7) rfl
  have c8 := h.cell (j := 8) rfl
  have c9 := h.cell (j := 9) rfl
  have c10 := h.cell (j := 10) rfl
  simp [go_sem, c0, c1, c2, c3, c4, c5, c6, c7, c8, c9, c10]
theorem qzR_flow_effect (w : World) : ∃ w', (Instr.alloc 71 true (.tuple #[])).run Try.prog w = .ok (.pointer (some ⟨w.heap.size, 0, none⟩)) w' ∧ (Fr (fun _ => False) w w' ∧ Bx w' w.heap.size #[.int .i64 0, .slice none 0 0] 71) := ⟨w.alloc (.cells #[.int .i64 0, .slice none 0 0] 71), by simp [go_sem], fr_al (Fr.refl _ _) _, Bx.new _ _ _⟩
theorem qk_ir_Def (w : World) (vs : Array Value) : (callFunc 44 vs).run Try.prog w = .ok (.enter 44 vs) w := by simp [go_sem]
theorem qk_ir_Uses (w : World) (vs : Array Value) : (callFunc 45 vs).run Try.prog w = .ok (.enter 45 vs) w := by simp [go_sem]
theorem qd_flow_effect_0_1 (w : World) (p0_m0 : Int) (p1_p0 : Option Addr) (p1_k0 p1_l0 : Nat) : (Instr.build 71 #[(0, .int .i64 p0_m0), (1, .slice p1_p0 p1_k0 p1_l0)]).run Try.prog w = .ok (.agg #[.int .i64 p0_m0, .slice p1_p0 p1_k0 p1_l0]) w := by simp [go_sem]
theorem qsA_flow_effect (w : World) (g : Nat) (z0 z1 : Value) (um0 : Int) (up1 : Option Addr) (uk1 ul1 : Nat) (h : Bx w g #[z0, z1] 71) : ∃ w', (Instr.storeAt 71 (.pointer (some ⟨g, 0, none⟩)) (.agg #[.int .i64 um0, .slice up1 uk1 ul1])).run Try.prog w = .ok () w' ∧ (Fr (fun q => q = g) w w' ∧ Bx w' g #[.int .i64 um0, .slice up1 uk1 ul1] 71) := h.store 71 #[.int .i64 um0, .slice up1 uk1 ul1] (by kernel_rfl) rfl (by simp [Value.oneCell'])
/-- A row of what is live, plainly: a register read, all of several, an instruction passed. -/
def inR (n : Nat) (r : Int) : Bool := decide (0 ≤ r) && decide (r < n)
def set1 (l : List Bool) (r : Int) (b : Bool) : List Bool := if inR l.length r = true then l.set r.toNat b else l
def readL (l : List Bool) (rs : List Int) : List Bool := rs.foldl (fun l r => set1 l r true) l
def passL (l : List Bool) (d : Int) (rs : List Int) : List Bool := readL (set1 l d false) rs
def endR (b : Bk) : List Int := if b.en = 2 ∨ b.en = 3 then [b.a] else []
theorem set1_len (l : List Bool) (r : Int) (b : Bool) : (set1 l r b).length = l.length := by unfold set1; split <;> simp
theorem readL_len (rs : List Int) : ∀ l : List Bool, (readL l rs).length = l.length := by
  induction rs with
  | nil => intro l; rfl
  | cons r rs ih => intro l; show (readL (set1 l r true) rs).length = _; rw [ih, set1_len]
theorem passL_len (l : List Bool) (d : Int) (rs : List Int) : (passL l d rs).length = l.length := by unfold passL; rw [readL_len, set1_len]
theorem readL_snoc (l : List Bool) (rs : List Int) (j : Nat) (hj : j < rs.length) : readL l (rs.take (j + 1)) = set1 (readL l (rs.take j)) (rs.getD j 0) true := by
  rw [List.take_add_one, List.getElem?_eq_getElem hj, List.getD_eq_getElem?_getD, List.getElem?_eq_getElem hj]
  unfold readL
  rw [List.foldl_append]
  rfl
theorem inR_yes {n : Nat} {r : Int} (h : inR n r = true) : 0 ≤ r ∧ r < n := by
  unfold inR at h
  rw [Bool.and_eq_true] at h
  exact ⟨of_decide_eq_true h.1, of_decide_eq_true h.2⟩
theorem bi_max (w : World) (ty : TypeId) (n : Int) : (Builtin.max_ #[3, 3] ty #[.int .i64 0, .int .i64 n]).run Try.prog w = .ok (.int .i64 (max 0 n)) w := by
  by_cases h : n < 0
  · have e : max 0 n = 0 := by omega
    rw [e]; simp [go_sem, Builtin.max_, Builtin.max2]; omega
  · have e : max 0 n = n := by omega
    rw [e]; simp [go_sem, Builtin.max_, Builtin.max2]; omega
set_option maxRecDepth 100000 in
theorem t_has (a : Option Addr) (n c : Nat) (r : Int) (w : World) : Calls Try.prog 42 #[.slice a n c, .int .i64 r] w fun e w' => e = .returned (.bool (inR n r)) ∧ Fr (fun _ => False) w w' := by
  have ff := Fr.refl (fun _ => False) w
  refine calls_tw Try.func42 rfl rfl (Nat.le_of_ble_eq_true rfl) ?_
  refine TW.sreg ?_
  refine WL.op rfl rfl rfl (Go.Proofs.Ytobibplilbchfaa.W.quiet_assign rfl rfl) ?_
  refine WL.nil ?_
  refine TW.sreg ?_
  refine WL.op rfl rfl rfl (Go.Proofs.Ytobibplilbchfaa.W.quiet_move rfl rfl) ?_
  refine WL.op rfl rfl rfl (Go.Proofs.Ytobibplilbchfaa.W.quiet_bin rfl rfl rfl (fun W => qb_geq_int W _ _ _ _)) ?_
  refine O.split (fun h1 => ?_) (fun h1 => ?_)
  · skip
    refine WL.op rfl rfl rfl (Go.Proofs.Ytobibplilbchfaa.W.quiet_move rfl rfl) ?_
    refine WL.op rfl rfl rfl (Go.Proofs.Ytobibplilbchfaa.W.quiet_move rfl rfl) ?_
    refine WL.op rfl rfl rfl (Go.Proofs.Ytobibplilbchfaa.W.quiet_move rfl rfl) ?_
    refine O.len rfl rfl rfl rfl rfl (qn_flow_Row _ _ _ _) ?_
    refine WL.op rfl rfl rfl (Go.Proofs.Ytobibplilbchfaa.W.quiet_bin rfl rfl rfl (fun W => qb_lss_int W _ _ _ _)) ?_
    refine O.split (fun h2 => ?_) (fun h2 => ?_)
    · skip
      refine WL.op rfl rfl rfl (Go.Proofs.Ytobibplilbchfaa.W.quiet_pick rfl rfl rfl) ?_
      refine WL.op rfl rfl rfl (Go.Proofs.Ytobibplilbchfaa.W.quiet_assign rfl rfl) ?_
      refine WL.nil ?_
      refine TW.rt ?_
      refine bodyw_ret rfl rfl ?_
      exact ⟨by unfold inR; rw [h1, h2]; rfl, ff⟩
    · skip
      refine WL.op rfl rfl rfl (Go.Proofs.Ytobibplilbchfaa.W.quiet_pick rfl rfl rfl) ?_
      refine WL.op rfl rfl rfl (Go.Proofs.Ytobibplilbchfaa.W.quiet_assign rfl rfl) ?_
      refine WL.nil ?_
      refine TW.rt ?_
      refine bodyw_ret rfl rfl ?_
      exact ⟨by unfold inR; rw [h1, h2]; rfl, ff⟩
  · skip
    refine WL.op rfl rfl rfl (Go.Proofs.Ytobibplilbchfaa.W.quiet_move rfl rfl) ?_
    refine WL.skip rfl rfl rfl ?_
    refine WL.skip rfl rfl rfl ?_
    refine WL.skip rfl rfl rfl ?_
    refine WL.skip rfl rfl rfl ?_
    refine WL.op rfl rfl rfl (Go.Proofs.Ytobibplilbchfaa.W.quiet_pick rfl rfl rfl) ?_
    refine WL.op rfl rfl rfl (Go.Proofs.Ytobibplilbchfaa.W.quiet_assign rfl rfl) ?_
    refine WL.nil ?_
    refine TW.rt ?_
    refine bodyw_ret rfl rfl ?_
    exact ⟨by unfold inR; rw [h1]; rfl, ff⟩
set_option maxRecDepth 100000 in
theorem t_read (B B2 g c : Nat) (xs : List Bool) (rv : Value) (rs : List Int) (hrl : rs.length ≤ 1000000) (w : World) (hL : Bools B w (.slice (some ⟨g, 0, none⟩) xs.length c) xs) (hR : Ints B2 w rv rs) : Calls Try.prog 28 #[.slice (some ⟨g, 0, none⟩) xs.length c, rv] w fun e w' => e = .returned (.tuple #[]) ∧ Bools B w' (.slice (some ⟨g, 0, none⟩) xs.length c) (readL xs rs) ∧ Fr (fun q => q = g) w w' := by
  have fd := Fr.refl (fun q => q = g) w
  obtain ⟨ra, rc, rfl⟩ := Row.form hR
  refine calls_tw Try.func28 rfl rfl (Nat.le_of_ble_eq_true rfl) ?_
  refine TW.sreg ?_
  refine WL.op rfl rfl rfl (Go.Proofs.Ytobibplilbchfaa.W.quiet_move rfl rfl) ?_
  refine O.len rfl rfl rfl rfl rfl (qn_s_int _ _ _ _) ?_
  refine WL.op rfl rfl rfl (Go.Proofs.Ytobibplilbchfaa.W.quiet_move rfl rfl) ?_
  refine WL.nil ?_
  refine TW.block ?_
  refine O.loopG (n := rs.length) (fun a _ => (intOf (a.tmps.getD 8 undef)).toNat) (fun j a W => Kn Try.f28.ntmps [(0, .slice (some ⟨g, 0, none⟩) xs.length c), (6, .slice ra rs.length rc), (7, .int .i64 (rs.length : Int)), (8, .int .i64 (j : Int))] a ∧ Fr (fun q => q = g) w W ∧ Bools B W (.slice (some ⟨g, 0, none⟩) xs.length c) (readL xs (rs.take j)) ∧ Ints B2 W (.slice ra rs.length rc) rs) (fun j a W h => O.slotv h.1 rfl) 0 (Nat.zero_le _) (fun a k => ⟨(by (repeat (refine Kn.cons k rfl ?_)); exact k.base), fd, by rw [List.take_zero]; exact hL, hR⟩) ?_
  rintro j a wl hj ⟨k, fd, hL, hR⟩
  refine TW.app (s := [(0, .slice (some ⟨g, 0, none⟩) xs.length c), (6, .slice ra rs.length rc), (7, .int .i64 (rs.length : Int)), (8, .int .i64 (j : Int))]) ?_ k
  refine TW.sreg ?_
  refine WL.op rfl rfl rfl (Go.Proofs.Ytobibplilbchfaa.W.quiet_bin rfl rfl rfl (fun W => qb_lss_int W _ _ _ _)) ?_
  refine O.split (fun hbj => ?_) (fun hbj => ?_)
  · skip
    have hj2 : j < rs.length := by have := of_decide_eq_true hbj; omega
    obtain ⟨_, _, e2, hat⟩ := hR.at
    cases e2
    obtain ⟨gr, og, rfl, hc⟩ := hat j hj2
    have hyl : (readL xs (rs.take j)).length = xs.length := readL_len _ _
    refine WL.nil ?_
    refine TW.seq ?_
    refine TW.cond rfl (fun _ => ?_) (fun hb => by cases hb)
    refine TW.skip ?_
    refine TW.seq ?_
    refine TW.block ?_
    refine TW.sreg ?_
    refine O.ixa rfl rfl rfl rfl rfl rfl (qi_s_int _ _ _ _ _ _ (by omega)) ?_
    refine WL.ld rfl rfl rfl rfl rfl (ql_int _ _ _ hc) ?_
    refine WL.op rfl rfl rfl (Go.Proofs.Ytobibplilbchfaa.W.quiet_assign rfl rfl) ?_
    refine WL.nil ?_
    refine TW.sreg ?_
    refine WL.op rfl rfl rfl (Go.Proofs.Ytobibplilbchfaa.W.quiet_move rfl rfl) ?_
    refine WL.op rfl rfl rfl (Go.Proofs.Ytobibplilbchfaa.W.quiet_move rfl rfl) ?_
    refine WL.call (hr := t_has _ xs.length c (rs.getD j 0) _) rfl rfl rfl rfl rfl (fun W => qk_flow_Row_has W _) ?_
    rintro e w1 ⟨rfl, f1⟩
    refine ⟨_, rfl, ?_⟩
    replace hL := hL.fr f1 (fun _ _ => id)
    replace hR := Ints.fr hR f1 (fun _ _ => id)
    replace fd := fd.trans' f1 (fun _ _ e => e.elim)
    refine O.split (fun h2 => ?_) (fun h2 => ?_)
    · skip
      obtain ⟨h3, h4⟩ := inR_yes h2
      obtain ⟨m, hm⟩ : ∃ m : Nat, rs.getD j 0 = (m : Int) := ⟨(rs.getD j 0).toNat, by omega⟩
      refine WL.nil ?_
      refine TW.cond rfl (fun _ => ?_) (fun hb => by cases hb)
      refine TW.reg ?_
      refine WL.op rfl rfl rfl (Go.Proofs.Ytobibplilbchfaa.W.quiet_move rfl rfl) ?_
      refine WL.op rfl rfl rfl (Go.Proofs.Ytobibplilbchfaa.W.quiet_move rfl rfl) ?_
      refine O.ixa rfl rfl rfl rfl rfl rfl (by rw [hm]; exact qi_flow_Row _ _ _ _ _ _ (by omega)) ?_
      refine O.storeR rfl rfl rfl rfl rfl (hL.store (k := m) (by omega) true) ?_
      rintro w5 ⟨hL2, hF2⟩
      refine WL.end ?_
      refine Xw.nblk ?_
      refine Xw.nrm ?_
      refine TW.reg ?_
      refine WL.op rfl rfl rfl (Go.Proofs.Ytobibplilbchfaa.W.quiet_bin rfl rfl rfl (fun W => qb_add_int W _ _ _ _ (by omega) (by omega))) ?_
      refine WL.op rfl rfl rfl (Go.Proofs.Ytobibplilbchfaa.W.quiet_move rfl rfl) ?_
      refine WL.end ?_
      refine Xw.any (fun a k => ?_)
      refine ⟨j + 1, by omega, by omega, (by (repeat (refine Kn.cons k rfl ?_)); exact k.base), fd.trans' hF2 (fun _ _ e => e), ?_, Ints.fr hR hF2 (fun q e e2 => Row.apart_typ hR (Row.typ hL g rfl).choose_spec (by decide) (e.trans (congrArg some e2)))⟩
      rw [readL_snoc _ _ _ hj2]
      unfold set1
      rw [hyl, if_pos h2, hm]
      exact hL2
    · skip
      refine WL.nil ?_
      refine TW.cond rfl (fun hb => by cases hb) (fun _ => ?_)
      refine TW.skipx ?_
      refine Xw.nblk ?_
      refine Xw.nrm ?_
      refine TW.reg ?_
      refine WL.op rfl rfl rfl (Go.Proofs.Ytobibplilbchfaa.W.quiet_bin rfl rfl rfl (fun W => qb_add_int W _ _ _ _ (by omega) (by omega))) ?_
      refine WL.op rfl rfl rfl (Go.Proofs.Ytobibplilbchfaa.W.quiet_move rfl rfl) ?_
      refine WL.end ?_
      refine Xw.any (fun a k => ?_)
      refine ⟨j + 1, by omega, by omega, (by (repeat (refine Kn.cons k rfl ?_)); exact k.base), fd, ?_, hR⟩
      rw [readL_snoc _ _ _ hj2]
      unfold set1
      rw [hyl, if_neg (by rw [h2]; decide)]
      exact hL
  · skip
    refine WL.nil ?_
    refine TW.seq ?_
    refine TW.cond rfl (fun hb => by cases hb) (fun _ => ?_)
    refine TW.exit ?_
    refine Xw.thn (by simp) ?_
    refine Xw.thn (by simp) ?_
    refine Xw.hit ?_
    refine O.end0 rfl ?_
    have hje : j = rs.length := by have := of_decide_eq_false hbj; omega
    subst hje
    rw [List.take_length] at hL
    exact ⟨rfl, hL, fd⟩
set_option maxRecDepth 100000 in
theorem t_endr (b : Bk) (ia : Option Addr) (ic : Nat) (w : World) : Calls Try.prog 29 #[.agg #[.slice ia b.ins.length ic, .int .i64 b.en, .int .i64 b.a, .int .i64 b.t, .int .i64 b.el]] w fun e w' => ∃ v, e = .returned v ∧ Ints w.heap.size w' v (endR b) ∧ Fr (fun _ => False) w w' := by
  have ff := Fr.refl (fun _ => False) w
  refine calls_tw Try.func29 rfl rfl (Nat.le_of_ble_eq_true rfl) ?_
  refine TW.sreg ?_
  have lw1 := ff.size
  refine O.boxR rfl rfl rfl rfl rfl (qxR_api_Block w _ _ _ _ _ _ _) ?_
  rintro wa1 ⟨fa1, bx1⟩
  replace ff := ff.trans fa1
  refine WL.op rfl rfl rfl (Go.Proofs.Ytobibplilbchfaa.W.quiet_assign rfl rfl) ?_
  refine WL.nil ?_
  refine TW.seq ?_
  refine TW.sreg ?_
  refine WL.op rfl rfl rfl (Go.Proofs.Ytobibplilbchfaa.W.quiet_field rfl rfl (fun W => (qa_api_Block_1 W _ _))) ?_
  refine WL.ld rfl rfl rfl rfl rfl (ql_int _ _ _ (bx1.cell (j := 1) rfl)) ?_
  refine WL.op rfl rfl rfl (Go.Proofs.Ytobibplilbchfaa.W.quiet_bin rfl rfl rfl (fun W => qb_eql_int W _ _ _ _)) ?_
  refine O.split (fun h1 => ?_) (fun h1 => ?_)
  · skip
    refine WL.op rfl rfl rfl (Go.Proofs.Ytobibplilbchfaa.W.quiet_move rfl rfl) ?_
    refine WL.skip rfl rfl rfl ?_
    refine WL.skip rfl rfl rfl ?_
    refine WL.skip rfl rfl rfl ?_
    refine WL.op rfl rfl rfl (Go.Proofs.Ytobibplilbchfaa.W.quiet_pick rfl rfl rfl) ?_
    refine WL.nil ?_
    refine TW.cond rfl (fun _ => ?_) (fun hb => by cases hb)
    refine TW.sreg ?_
    refine WL.op rfl rfl rfl (Go.Proofs.Ytobibplilbchfaa.W.quiet_field rfl rfl (fun W => (qa_api_Block_2 W _ _))) ?_
    refine WL.ld rfl rfl rfl rfl rfl (ql_int _ _ _ (bx1.cell (j := 2) rfl)) ?_
    have lt2_bx1 := bx1.lt
    have lw2 := ff.size
    refine O.bslR rfl rfl rfl rfl rfl (qv_s_int_1 wa1 _) ?_
    rintro wa2 ⟨fa2, bx2⟩
    replace bx1 := bx1.fr fa2 id
    replace ff := ff.trans fa2
    refine WL.op rfl rfl rfl (Go.Proofs.Ytobibplilbchfaa.W.quiet_assign rfl rfl) ?_
    refine WL.nil ?_
    refine TW.rt ?_
    refine Xw.thn (by simp) ?_
    refine bodyw_ret rfl rfl ?_
    exact ⟨_, rfl, by unfold endR; rw [if_pos (.inl (by simpa using h1))]; exact ints1 bx2 (by omega), ff⟩
  · skip
    refine WL.op rfl rfl rfl (Go.Proofs.Ytobibplilbchfaa.W.quiet_move rfl rfl) ?_
    refine WL.op rfl rfl rfl (Go.Proofs.Ytobibplilbchfaa.W.quiet_field rfl rfl (fun W => (qa_api_Block_1 W _ _))) ?_
    refine WL.ld rfl rfl rfl rfl rfl (ql_int _ _ _ (bx1.cell (j := 1) rfl)) ?_
    refine WL.op rfl rfl rfl (Go.Proofs.Ytobibplilbchfaa.W.quiet_bin rfl rfl rfl (fun W => qb_eql_int W _ _ _ _)) ?_
    refine O.split (fun h2 => ?_) (fun h2 => ?_)
    · skip
      refine WL.op rfl rfl rfl (Go.Proofs.Ytobibplilbchfaa.W.quiet_pick rfl rfl rfl) ?_
      refine WL.nil ?_
      refine TW.cond rfl (fun _ => ?_) (fun hb => by cases hb)
      refine TW.sreg ?_
      refine WL.op rfl rfl rfl (Go.Proofs.Ytobibplilbchfaa.W.quiet_field rfl rfl (fun W => (qa_api_Block_2 W _ _))) ?_
      refine WL.ld rfl rfl rfl rfl rfl (ql_int _ _ _ (bx1.cell (j := 2) rfl)) ?_
      have lt3_bx1 := bx1.lt
      have lw3 := ff.size
      refine O.bslR rfl rfl rfl rfl rfl (qv_s_int_1 wa1 _) ?_
      rintro wa3 ⟨fa3, bx3⟩
      replace bx1 := bx1.fr fa3 id
      replace ff := ff.trans fa3
      refine WL.op rfl rfl rfl (Go.Proofs.Ytobibplilbchfaa.W.quiet_assign rfl rfl) ?_
      refine WL.nil ?_
      refine TW.rt ?_
      refine Xw.thn (by simp) ?_
      refine bodyw_ret rfl rfl ?_
      exact ⟨_, rfl, by unfold endR; rw [if_pos (.inr (by simpa using h2))]; exact ints1 bx3 (by omega), ff⟩
    · skip
      refine WL.op rfl rfl rfl (Go.Proofs.Ytobibplilbchfaa.W.quiet_pick rfl rfl rfl) ?_
      refine WL.nil ?_
      refine TW.cond rfl (fun hb => by cases hb) (fun _ => ?_)
      refine TW.skip ?_
      refine TW.sreg ?_
      refine WL.op rfl rfl rfl (Go.Proofs.Ytobibplilbchfaa.W.quiet_assign rfl rfl) ?_
      refine WL.nil ?_
      refine TW.rt ?_
      refine bodyw_ret rfl rfl ?_
      exact ⟨_, rfl, by unfold endR; rw [if_neg (fun q => q.elim (by simpa using h1) (by simpa using h2))]; exact Row.nil _ _ _ _ _, ff⟩
set_option maxRecDepth 100000 in
theorem t_effect (i : Inn) (p : Option Addr × Nat) (hal : i.args.length ≤ 1000) (w : World) (hA : IntsAt w p.1 i.args) : Calls Try.prog 31 #[.agg #[.int .i64 i.x0, .int .i64 i.x1, .int .i64 i.x2, .int .i64 i.x3, .int .i64 i.x4, .int .i64 i.x5, .int .i64 i.x6, .int .i64 i.x7, .int .u32 i.u, .slice p.1 i.args.length p.2, .bool i.lg]] w fun e w' => ∃ v, e = .returned (.agg #[.int .i64 (defF i), v]) ∧ Ints w.heap.size w' v (usesF i) ∧ Fr (fun _ => False) w w' := by
  have ff := Fr.refl (fun _ => False) w
  refine calls_tw Try.func31 rfl rfl (Nat.le_of_ble_eq_true rfl) ?_
  refine TW.sreg ?_
  have lw1 := ff.size
  refine O.boxR rfl rfl rfl rfl rfl (qxR_api_Ins w _ _ _ _ _ _ _ _ _ _ _ _ _) ?_
  rintro wa1 ⟨fa1, bx1⟩
  replace ff := ff.trans fa1
  have lt2_bx1 := bx1.lt
  have lw2 := ff.size
  refine O.allocR rfl rfl rfl rfl (qzR_flow_effect wa1) ?_
  rintro wa2 ⟨fa2, bx2⟩
  replace bx1 := bx1.fr fa2 id
  replace ff := ff.trans fa2
  refine WL.nil ?_
  have b1 := bx1
  have b2 := bx2
  have lt1 := bx1.lt
  have lt2 := bx2.lt
  refine TW.sregH (fun W => Fr (fun q => q = wa1.heap.size) wa2 W) (by kernel_rfl) ?_
  have fd : Fr (fun _ => False) wa2 wa2.drew := (Fr.refl _ _).drewN 1
  have HW : Fr (fun q => q = wa1.heap.size) wa2 wa2.drew := (Fr.refl _ _).drewN 1
  replace bx1 := bx1.fr fd id
  replace bx2 := bx2.fr fd id
  replace ff := ff.trans fd
  generalize hV : wa2.drew = V1 at *
  clear hV
  refine WH.take 0 rfl (by kernel_rfl) (by kernel_rfl) (by kernel_rfl) (fun _ _ _ _ _ h => h) rfl rfl rfl HW (RH.load rfl rfl (fun W hW => qlB_api_Ins _ _ _ _ _ _ _ _ _ _ _ _ _ _ _ _ (b1.fr hW (fun e => by omega)))) ?_
  refine WH.take 2 rfl (by kernel_rfl) (by kernel_rfl) (by kernel_rfl) (fun _ _ _ _ _ h => h) rfl rfl rfl HW (RH.load rfl rfl (fun W hW => qlB_api_Ins _ _ _ _ _ _ _ _ _ _ _ _ _ _ _ _ (b1.fr hW (fun e => by omega)))) ?_
  refine WH.one 1 (by kernel_rfl) rfl ?_ 
  refine WL.call (hr := t_def i p _) rfl rfl rfl rfl rfl (fun W => qk_ir_Def W _) ?_
  rintro e w2 ⟨rfl, f2⟩
  refine ⟨_, rfl, ?_⟩
  replace bx1 := bx1.fr f2 id
  replace bx2 := bx2.fr f2 id
  replace HW := HW.trans' f2 (fun q hq e => e.elim)
  replace ff := ff.trans f2
  refine WL.fin HW ?_
  refine WH.one 3 (by kernel_rfl) rfl ?_ 
  have hsz := ff.size
  refine WL.call (hr := t_uses i p hal _ (hA.fr ff)) rfl rfl rfl rfl rfl (fun W => qk_ir_Uses W _) ?_
  rintro e w3 ⟨v, rfl, hI, f3⟩
  refine ⟨_, rfl, ?_⟩
  replace bx1 := bx1.fr f3 id
  replace bx2 := bx2.fr f3 id
  replace HW := HW.trans' f3 (fun q hq e => e.elim)
  replace ff := ff.trans f3
  have hI := Row.base (B' := w.heap.size) hI (fun k hk => by have := (Row.lt hI k hk).1; omega)
  obtain ⟨va, vc, rfl⟩ := Row.form hI
  refine WL.fin HW ?_
  refine WH.one 4 (by kernel_rfl) rfl ?_ 
  refine O.bld rfl rfl rfl rfl rfl (qd_flow_effect_0_1 _ _ _ _ _) ?_
  refine WL.fin HW ?_
  refine WH.one 5 (by kernel_rfl) rfl ?_ 
  refine O.storeR rfl rfl rfl rfl rfl (qsA_flow_effect w3 _ _ _ _ _ _ _ bx2) ?_
  rintro wa3 ⟨fa3, bx2x⟩
  replace bx1 := bx1.fr fa3 (fun e => by omega)
  replace HW := HW.trans' fa3 (fun q hq e => by first | exact e | exact Or.inl e | exact Or.inr e | omega)
  replace hI := Row.fr hI fa3 (fun q e e2 => Row.apart_typ hI bx2 (by decide) (e.trans (congrArg some e2)))
  replace ff := ff.trans' fa3 (fun q hq e => by omega)
  clear bx2
  have bx2 := bx2x
  clear bx2x
  refine WL.fin HW ?_
  refine WH.done (by kernel_rfl) ?_
  refine TW.rt ?_
  refine O.retc1 rfl rfl (run_loadVar_row _ _ _ 71 _ _ _ bx2 Try.underlying71 rfl (by kernel_rfl)) ?_
  exact ⟨_, rfl, hI, ff⟩
end Go.Proofs.Ytobibplilbchfaa
