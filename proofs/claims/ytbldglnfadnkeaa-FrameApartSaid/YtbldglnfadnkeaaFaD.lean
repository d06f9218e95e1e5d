/-
  Frames (layer 25): objects placed; places taken one behind the other.
-/
import Derived.Test.YtbldglnfadnkeaaFaQ
import Derived.Test.YtbldglnfadnkeaaFaP
namespace Go.Proofs.Ytbldglnfadnkeaa
open Go.RowKit
set_option linter.unusedVariables false
set_option linter.unusedSimpArgs false
theorem qn_s_api_Slot (w : World) (a : Option Addr) (k l : Nat) : (Builtin.len_ #[22] 3 #[.slice a k l]).run Try.prog w = .ok (.int .i64 k) w := by simp [go_sem]
theorem qi_s_api_Slot (w : World) (b o n c j : Nat) (hj : j < n) : (Instr.indexAt 22 (.slice (some ⟨b, o, none⟩) n c) (.int .i64 (j : Int))).run Try.prog w = .ok (.pointer (some ⟨b, o + j * 4, none⟩)) w := by
  have h : (j : Int) < (n : Int) := by omega
  simp [go_sem, h, hj]
theorem ql_api_Slot (w : World) (b o : Nat) (u0 u1 u2 u3 : Value) (h0 : w.cell? ⟨b, o, none⟩ = some u0) (h1 : w.cell? ⟨b, o + 1, none⟩ = some u1) (h2 : w.cell? ⟨b, o + 2, none⟩ = some u2) (h3 : w.cell? ⟨b, o + 3, none⟩ = some u3) : (Instr.loadAt 42 (.pointer (some ⟨b, o, none⟩))).run Try.prog w = .ok (.agg #[u0, u1, u2, u3]) w := by simp [go_sem, h0, h1, h2, h3]
theorem qzR_api_Slot (w : World) : ∃ w', (Instr.alloc 42 true (.tuple #[])).run Try.prog w = .ok (.pointer (some ⟨w.heap.size, 0, none⟩)) w' ∧ (Fr (fun _ => False) w w' ∧ Bx w' w.heap.size #[.string ⟨#[]⟩, .int .i64 0, .int .i64 0, .int .i64 0] 42) := ⟨w.alloc (.cells #[.string ⟨#[]⟩, .int .i64 0, .int .i64 0, .int .i64 0] 42), by simp [go_sem], fr_al (Fr.refl _ _) _, Bx.new _ _ _⟩
theorem qsA_api_Slot (w : World) (g : Nat) (z0 z1 z2 z3 : Value) (up0 : ByteArray) (um1 : Int) (um2 : Int) (um3 : Int) (h : Bx w g #[z0, z1, z2, z3] 42) : ∃ w', (Instr.storeAt 42 (.pointer (some ⟨g, 0, none⟩)) (.agg #[.string up0, .int .i64 um1, .int .i64 um2, .int .i64 um3])).run Try.prog w = .ok () w' ∧ (Fr (fun q => q = g) w w' ∧ Bx w' g #[.string up0, .int .i64 um1, .int .i64 um2, .int .i64 um3] 42) := by
  have c0 := h.cell (j := 0) rfl
  have e0 := h.free 0
  have c1 := h.cell (j := 1) rfl
  have e1 := h.free 1
  have c2 := h.cell (j := 2) rfl
  have e2 := h.free 2
  have c3 := h.cell (j := 3) rfl
  have e3 := h.free 3
  have H : ∀ k v W z, Bx W g z 42 → Bx (W.setCell ⟨g, k, none⟩ v) g (z.setIfInBounds k v) 42 := fun k v W z h => h.set k v
  refine ⟨_, by simp [go_sem, c0, e0, c1, e1, c2, e2, c3, e3]; rfl, ?_, ?_⟩
  · repeat first | exact Fr.refl _ _ | refine Fr.trans ?_ (Fr.setCell _ _ _ rfl)
  · exact H 3 _ _ _ (H 2 _ _ _ (H 1 _ _ _ (H 0 _ _ _ (h))))
theorem qa_api_Slot_1 (w : World) (b o : Nat) : (Instr.fieldAt 42 (.pointer (some ⟨b, o, none⟩)) 1).run Try.prog w = .ok (.pointer (some ⟨b, o + 1, none⟩)) w := by simp [go_sem]
theorem qb_sub_int (w : World) (x y : Operand) (m n : Int) (h0 : -9223372036854775808 ≤ m - n) (h1 : m - n ≤ 9223372036854775807) : ((do eqGuard .sub 3 x y (.int .i64 m) (.int .i64 n); binOp .sub 3 (.int .i64 m) (.int .i64 n) : Sem Value)).run Try.prog w = .ok (.int .i64 (m - n)) w := by
  have h : IntKind.i64.wrap (m - n) = m - n := IntWalk.i64_in _ (by omega)
  simp [go_sem, h]
theorem qb_quo_int (w : World) (x y : Operand) (m n : Int) (hn : n ≠ 0) (h0 : -9223372036854775808 ≤ m.tdiv n) (h1 : m.tdiv n ≤ 9223372036854775807) : ((do eqGuard .quo 3 x y (.int .i64 m) (.int .i64 n); binOp .quo 3 (.int .i64 m) (.int .i64 n) : Sem Value)).run Try.prog w = .ok (.int .i64 (m.tdiv n)) w := by
  have h : IntKind.i64.wrap (m.tdiv n) = m.tdiv n := IntWalk.i64_in _ (by omega)
  simp [go_sem, h, hn]
theorem qb_mul_int (w : World) (x y : Operand) (m n : Int) (h0 : -9223372036854775808 ≤ m * n) (h1 : m * n ≤ 9223372036854775807) : ((do eqGuard .mul 3 x y (.int .i64 m) (.int .i64 n); binOp .mul 3 (.int .i64 m) (.int .i64 n) : Sem Value)).run Try.prog w = .ok (.int .i64 (m * n)) w := by
  have h : IntKind.i64.wrap (m * n) = m * n := IntWalk.i64_in _ (by omega)
  simp [go_sem, h]
theorem qk_rushlightref14_next (w : World) (vs : Array Value) : (callFunc 23 vs).run Try.prog w = .ok (.enter 23 vs) w := by simp [go_sem]
theorem qxR_api_Slot (w : World) (up0 : ByteArray) (um1 : Int) (um2 : Int) (um3 : Int) : ∃ w', (Instr.box 42 (.agg #[.string up0, .int .i64 um1, .int .i64 um2, .int .i64 um3])).run Try.prog w = .ok (.pointer (some ⟨w.heap.size, 0, none⟩)) w' ∧ (Fr (fun _ => False) w w' ∧ Bx w' w.heap.size #[.string up0, .int .i64 um1, .int .i64 um2, .int .i64 um3] 42) := ⟨w.alloc (.cells #[.string up0, .int .i64 um1, .int .i64 um2, .int .i64 um3] 42), by simp [go_sem], fr_al (Fr.refl _ _) _, Bx.new _ _ _⟩
theorem qk_frame_Lay_1 (w : World) (vs : Array Value) : (callFunc 14 vs).run Try.prog w = .ok (.enter 14 vs) w := by simp [go_sem]
theorem qk_slices_IndexFunc_api_Slot_api_Slot (w : World) (vs : Array Value) : (callFunc 20 vs).run Try.prog w = .ok (.enter 20 vs) w := by simp [go_sem]
theorem qb_geq_int (w : World) (x y : Operand) (m n : Int) : ((do eqGuard .geq 3 x y (.int .i64 m) (.int .i64 n); binOp .geq 3 (.int .i64 m) (.int .i64 n) : Sem Value)).run Try.prog w = .ok (.bool (decide (n ≤ m))) w := by simp [go_sem]
theorem qsA_int (w : World) (g : Nat) (z0 : Value) (um0 : Int) (h : Bx w g #[z0] 3) : ∃ w', (Instr.storeAt 3 (.pointer (some ⟨g, 0, none⟩)) (.int .i64 um0)).run Try.prog w = .ok () w' ∧ (Fr (fun q => q = g) w w' ∧ Bx w' g #[.int .i64 um0] 3) := by
  have c0 := h.cell (j := 0) rfl
  have e0 := h.free 0
  exact ⟨w.setCell ⟨g, 0, none⟩ (.int .i64 um0), by simp [go_sem, c0, e0], Fr.setCell _ _ _ rfl, h.set 0 _⟩
/-- A row of the call's own whose block lies below a bound. -/
def IntsIn (B Z : Nat) (w : World) (v : Value) (xs : List Int) : Prop := Ints B w v xs ∧ ∀ k, v.ownBlock = some k → k < Z
theorem IntsIn.fr {B Z : Nat} {w w' : World} {v : Value} {xs : List Int} {F : Nat → Prop} (h : IntsIn B Z w v xs) (hf : Fr F w w') (hn : ∀ k, B ≤ k → k < Z → ¬F k) : IntsIn B Z w' v xs := ⟨hf.owns h.1 (fun k hk => hn k (World.ownsRow.lt h.1 k hk).1 (h.2 k hk)), h.2⟩
theorem Ints.in {B : Nat} {w : World} {v : Value} {xs : List Int} (h : Ints B w v xs) : IntsIn B w.heap.size w v xs := ⟨h, fun k hk => (World.ownsRow.lt h k hk).2⟩
theorem bi_max (w : World) (ty : TypeId) (n : Int) : (Builtin.max_ #[3, 3] ty #[.int .i64 0, .int .i64 n]).run Try.prog w = .ok (.int .i64 (max 0 n)) w := by
  by_cases h : n < 0
  · have e : max 0 n = 0 := by omega
    rw [e]; simp [go_sem, Builtin.max_, Builtin.max2]; omega
  · have e : max 0 n = n := by omega
    rw [e]; simp [go_sem, Builtin.max_, Builtin.max2]; omega
theorem t_next (n : Int) (h0 : 0 ≤ n) (h1 : n ≤ 4000000) (w : World) : Calls Try.prog 23 #[.int .i64 n] w fun e w' => e = .returned (.int .i64 (up4 n)) ∧ w' = w := (c23 n h0 h1 w).mono fun e w' z => ⟨z.1, z.2.symm⟩
theorem tdiv4 {n : Int} (h : 0 ≤ n) : n.tdiv 4 = n / 4 := Int.tdiv_eq_ediv_of_nonneg h
set_option maxRecDepth 100000 in
theorem t_place (oa : Option Addr) (c : Nat) (s : List Int) (hl : s.length ≤ 1000) (hs : Slim s) (w : World) (hat : SlotsAt w oa s) : Calls Try.prog 17 #[.slice oa s.length c] w fun e w' => ∃ v, e = .returned (.tuple #[v, .int .i64 (offs s s.length)]) ∧ Ints w.heap.size w' v (offL s s.length) ∧ Fr (fun _ => False) w w' := by
  refine calls_tw Try.func17 rfl rfl (Nat.le_of_ble_eq_true rfl) ?_
  refine TW.sreg ?_
  refine WL.op rfl rfl rfl (Go.Proofs.Ytbldglnfadnkeaa.W.quiet_assign rfl rfl) ?_
  refine WL.op rfl rfl rfl (Go.Proofs.Ytbldglnfadnkeaa.W.quiet_assign rfl rfl) ?_
  refine WL.nil ?_
  refine TW.sreg ?_
  refine WL.op rfl rfl rfl (Go.Proofs.Ytbldglnfadnkeaa.W.quiet_assign rfl rfl) ?_
  refine WL.nil ?_
  refine TW.sreg ?_
  refine WL.op rfl rfl rfl (Go.Proofs.Ytbldglnfadnkeaa.W.quiet_assign rfl rfl) ?_
  refine WL.nil ?_
  refine TW.seq ?_
  refine TW.sreg ?_
  refine WL.op rfl rfl rfl (Go.Proofs.Ytbldglnfadnkeaa.W.quiet_move rfl rfl) ?_
  refine O.len rfl rfl rfl rfl rfl (qn_s_api_Slot _ _ _ _) ?_
  refine WL.op rfl rfl rfl (Go.Proofs.Ytbldglnfadnkeaa.W.quiet_move rfl rfl) ?_
  refine WL.nil ?_
  refine TW.block ?_
  refine O.loopG (n := s.length) (fun a _ => (intOf (a.tmps.getD 10 undef)).toNat) (fun j a W => ∃ (v : Value), Kn Try.f17.ntmps [(4, v), (5, .int .i64 (offs s j)), (8, .slice oa s.length c), (9, .int .i64 (s.length : Int)), (10, .int .i64 (j : Int))] a ∧ Fr (fun _ => False) w W ∧ Ints w.heap.size W v (offL s j)) (fun j a W h => by obtain ⟨_, h⟩ := h; exact O.slotv h.1 rfl) 0 (Nat.zero_le _) (fun a k => ⟨.slice none 0 0, (by (repeat (refine Kn.cons k rfl ?_)); exact k.base), Fr.refl _ _, Ints.nil _ _⟩) ?_
  rintro j a wl hj ⟨v, k, ff, hI⟩
  refine TW.app (s := [(4, v), (5, .int .i64 (offs s j)), (8, .slice oa s.length c), (9, .int .i64 (s.length : Int)), (10, .int .i64 (j : Int))]) ?_ k
  refine TW.sreg ?_
  refine WL.op rfl rfl rfl (Go.Proofs.Ytbldglnfadnkeaa.W.quiet_bin rfl rfl rfl (fun W => qb_lss_int W _ _ _ _)) ?_
  refine O.split (fun hb => ?_) (fun hb => ?_)
  · skip
    have hj2 : j < s.length := by have := of_decide_eq_true hb; omega
    obtain ⟨g, o, nm, al, ce, rfl, h1, h2, h3, h4⟩ := hat j hj2
    have h1 := ff.cell h1 id
    have h2 := ff.cell h2 id
    have h3 := ff.cell h3 id
    have h4 := ff.cell h4 id
    have hw0 := ff.size
    obtain ⟨z0, z1, z2⟩ := offs_in hs j hj
    obtain ⟨s0, s1⟩ := hs j hj2
    have hofs : offs s (j + 1) = offs s j + (s.getD j 0 + 3) / 4 * 4 := rfl
    have hoL := offL_succ s j
    have hoN := offL_len s j
    refine WL.nil ?_
    refine TW.seq ?_
    refine TW.cond rfl (fun _ => ?_) (fun hb => by cases hb)
    refine TW.skip ?_
    refine TW.seq ?_
    refine TW.block ?_
    refine TW.sreg ?_
    refine O.ixa rfl rfl rfl rfl rfl rfl (qi_s_api_Slot _ _ _ _ _ _ (by omega)) ?_
    refine WL.ld rfl rfl rfl rfl rfl (ql_api_Slot _ _ _ _ _ _ _ h1 h2 h3 h4) ?_
    have lw1 := ff.size
    refine O.allocR rfl rfl rfl rfl (qzR_api_Slot wl) ?_
    rintro wa1 ⟨fa1, bx1⟩
    replace ff := ff.trans fa1
    refine O.storeR rfl rfl rfl rfl rfl (qsA_api_Slot wa1 _ _ _ _ _ _ _ _ _ bx1) ?_
    rintro wa2 ⟨fa2, bx1x⟩
    replace ff := ff.trans' fa2 (fun q hq e => by omega)
    clear bx1
    have bx1 := bx1x
    clear bx1x
    refine WL.nil ?_
    refine TW.sreg ?_
    refine WL.op rfl rfl rfl (Go.Proofs.Ytbldglnfadnkeaa.W.quiet_move rfl rfl) ?_
    refine WL.op rfl rfl rfl (Go.Proofs.Ytbldglnfadnkeaa.W.quiet_move rfl rfl) ?_
    refine O.bsl rfl rfl rfl rfl rfl (qv_s_int_1 _ _) ?_
    have f0 : Fr (fun _ => False) wl wa2 := fa1.trans' fa2 (fun q hq e => by omega)
    have hvb := hI.lt
    refine WL.append rfl rfl rfl rfl rfl rfl (Ints.appO _ _ (hI.fr f0 (fun _ _ => id)) (by have := ff.size; omega) (by omega)) ?_
    rintro v2 w4 ⟨hI2, hF2⟩
    rw [← hoL] at hI2
    -- world w4
    replace bx1 := bx1.fr hF2 (fun e => by have := hvb _ e; omega)
    replace ff := ff.trans' hF2 (fun q hq e => by have := hvb _ e; omega)
    refine WL.op rfl rfl rfl (Go.Proofs.Ytbldglnfadnkeaa.W.quiet_assign rfl rfl) ?_
    refine WL.nil ?_
    refine TW.reg ?_
    refine WL.op rfl rfl rfl (Go.Proofs.Ytbldglnfadnkeaa.W.quiet_move rfl rfl) ?_
    refine WL.op rfl rfl rfl (Go.Proofs.Ytbldglnfadnkeaa.W.quiet_field rfl rfl (fun W => (qa_api_Slot_1 W _ _))) ?_
    refine WL.ld rfl rfl rfl rfl rfl (ql_int _ _ _ (bx1.cell (j := 1) rfl)) ?_
    refine WL.op rfl rfl rfl (Go.Proofs.Ytbldglnfadnkeaa.W.quiet_bin rfl rfl rfl (fun W => qb_add_int W _ _ _ _ (by omega) (by omega))) ?_
    refine WL.op rfl rfl rfl (Go.Proofs.Ytbldglnfadnkeaa.W.quiet_bin rfl rfl rfl (fun W => qb_sub_int W _ _ _ _ (by omega) (by omega))) ?_
    refine O.bmax rfl rfl rfl rfl rfl rfl (bi_max _ _ _) ?_
    refine WL.op rfl rfl rfl (Go.Proofs.Ytbldglnfadnkeaa.W.quiet_bin rfl rfl rfl (fun W => (qb_quo_int W _ _ _ _ (by decide) (by rw [tdiv4 (by omega)]; omega) (by rw [tdiv4 (by omega)]; omega)).trans (by rw [tdiv4 (by omega)]))) ?_
    refine WL.op rfl rfl rfl (Go.Proofs.Ytbldglnfadnkeaa.W.quiet_bin rfl rfl rfl (fun W => qb_mul_int W _ _ _ _ (by omega) (by omega))) ?_
    refine WL.op rfl rfl rfl (Go.Proofs.Ytbldglnfadnkeaa.W.quiet_bin rfl rfl rfl (fun W => (qb_add_int W _ _ _ _ (by omega) (by omega)).trans (by rw [show offs s j + max 0 (s.getD j 0 + 4 - 1) / 4 * 4 = offs s (j + 1) by rw [hofs]; omega]))) ?_
    refine WL.op rfl rfl rfl (Go.Proofs.Ytbldglnfadnkeaa.W.quiet_assign rfl rfl) ?_
    refine WL.end ?_
    refine Xw.nblk ?_
    refine Xw.nrm ?_
    refine TW.reg ?_
    refine WL.op rfl rfl rfl (Go.Proofs.Ytbldglnfadnkeaa.W.quiet_bin rfl rfl rfl (fun W => qb_add_int W _ _ _ _ (by omega) (by omega))) ?_
    refine WL.op rfl rfl rfl (Go.Proofs.Ytbldglnfadnkeaa.W.quiet_move rfl rfl) ?_
    refine WL.end ?_
    refine Xw.any (fun a k => ?_)
    refine ⟨j + 1, by omega, by omega, v2, by (repeat (refine Kn.cons k rfl ?_)); exact k.base, ff, hI2⟩
  · skip
    refine WL.nil ?_
    refine TW.seq ?_
    refine TW.cond rfl (fun hb => by cases hb) (fun _ => ?_)
    refine TW.exit ?_
    refine Xw.thn (by simp) ?_
    refine Xw.thn (by simp) ?_
    refine Xw.hit ?_
    refine Xw.nrm ?_
    refine TW.sreg ?_
    refine WL.op rfl rfl rfl (Go.Proofs.Ytbldglnfadnkeaa.W.quiet_move rfl rfl) ?_
    refine WL.op rfl rfl rfl (Go.Proofs.Ytbldglnfadnkeaa.W.quiet_move rfl rfl) ?_
    refine WL.op rfl rfl rfl (Go.Proofs.Ytbldglnfadnkeaa.W.quiet_assign rfl rfl) ?_
    refine WL.op rfl rfl rfl (Go.Proofs.Ytbldglnfadnkeaa.W.quiet_assign rfl rfl) ?_
    refine WL.nil ?_
    refine TW.rt ?_
    refine O.ret2 rfl rfl rfl ?_
    have hje : j = s.length := by have := of_decide_eq_false hb; omega
    subst hje
    exact ⟨v, rfl, hI, ff⟩
set_option maxRecDepth 100000 in
theorem t_rplace (oa : Option Addr) (c : Nat) (s : List Int) (hl : s.length ≤ 90) (hs : Slim s) (w : World) (hat : SlotsAt w oa s) : Calls Try.prog 19 #[.slice oa s.length c] w fun e w' => ∃ v, e = .returned (.tuple #[v, .int .i64 (offs s s.length)]) ∧ Ints w.heap.size w' v (offL s s.length) ∧ Fr (fun _ => False) w w' := by
  refine calls_tw Try.func19 rfl rfl (Nat.le_of_ble_eq_true rfl) ?_
  refine TW.sreg ?_
  refine WL.op rfl rfl rfl (Go.Proofs.Ytbldglnfadnkeaa.W.quiet_assign rfl rfl) ?_
  refine WL.op rfl rfl rfl (Go.Proofs.Ytbldglnfadnkeaa.W.quiet_assign rfl rfl) ?_
  refine WL.nil ?_
  refine TW.sreg ?_
  refine WL.op rfl rfl rfl (Go.Proofs.Ytbldglnfadnkeaa.W.quiet_assign rfl rfl) ?_
  refine WL.nil ?_
  refine TW.sreg ?_
  refine WL.op rfl rfl rfl (Go.Proofs.Ytbldglnfadnkeaa.W.quiet_assign rfl rfl) ?_
  refine WL.nil ?_
  refine TW.seq ?_
  refine TW.sreg ?_
  refine WL.op rfl rfl rfl (Go.Proofs.Ytbldglnfadnkeaa.W.quiet_assign rfl rfl) ?_
  refine WL.nil ?_
  refine TW.block ?_
  refine O.loopG (n := s.length) (fun a _ => (intOf (a.tmps.getD 6 undef)).toNat) (fun j a W => ∃ (v : Value), Kn Try.f19.ntmps [(0, .slice oa s.length c), (4, v), (5, .int .i64 (offs s j)), (6, .int .i64 (j : Int))] a ∧ Fr (fun _ => False) w W ∧ Ints w.heap.size W v (offL s j)) (fun j a W h => by obtain ⟨_, h⟩ := h; exact O.slotv h.1 rfl) 0 (Nat.zero_le _) (fun a k => ⟨.slice none 0 0, (by (repeat (refine Kn.cons k rfl ?_)); exact k.base), Fr.refl _ _, Ints.nil _ _⟩) ?_
  rintro j a wl hj ⟨v, k, ff, hI⟩
  refine TW.app (s := [(0, .slice oa s.length c), (4, v), (5, .int .i64 (offs s j)), (6, .int .i64 (j : Int))]) ?_ k
  refine TW.seq ?_
  refine TW.sreg ?_
  refine WL.op rfl rfl rfl (Go.Proofs.Ytbldglnfadnkeaa.W.quiet_move rfl rfl) ?_
  refine WL.op rfl rfl rfl (Go.Proofs.Ytbldglnfadnkeaa.W.quiet_move rfl rfl) ?_
  refine O.len rfl rfl rfl rfl rfl (qn_s_api_Slot _ _ _ _) ?_
  refine WL.op rfl rfl rfl (Go.Proofs.Ytbldglnfadnkeaa.W.quiet_bin rfl rfl rfl (fun W => qb_lss_int W _ _ _ _)) ?_
  refine O.split (fun hb => ?_) (fun hb => ?_)
  · skip
    have hj2 : j < s.length := by have := of_decide_eq_true hb; omega
    obtain ⟨g, o, nm, al, ce, rfl, h1, h2, h3, h4⟩ := hat j hj2
    obtain ⟨z0, z1, z2⟩ := offs_in hs j hj
    obtain ⟨s0, s1⟩ := hs j hj2
    have hofs : up4 (offs s j + s.getD j 0) = offs s (j + 1) := by show _ = offs s j + up4 (s.getD j 0); unfold up4; omega
    have hoL := offL_succ s j
    have hoN := offL_len s j
    refine WL.nil ?_
    refine TW.cond rfl (fun _ => ?_) (fun hb => by cases hb)
    refine TW.skip ?_
    refine TW.seq ?_
    refine TW.block ?_
    refine TW.sreg ?_
    refine WL.op rfl rfl rfl (Go.Proofs.Ytbldglnfadnkeaa.W.quiet_move rfl rfl) ?_
    refine WL.op rfl rfl rfl (Go.Proofs.Ytbldglnfadnkeaa.W.quiet_move rfl rfl) ?_
    refine O.bsl rfl rfl rfl rfl rfl (qv_s_int_1 _ _) ?_
    refine WL.append rfl rfl rfl rfl rfl rfl (Ints.app _ _ hI ff (by omega)) ?_
    rintro v2 w4 ⟨hI2, ff2⟩
    rw [← hoL] at hI2
    -- world w4
    refine WL.op rfl rfl rfl (Go.Proofs.Ytbldglnfadnkeaa.W.quiet_assign rfl rfl) ?_
    refine WL.nil ?_
    refine TW.reg ?_
    refine WL.op rfl rfl rfl (Go.Proofs.Ytbldglnfadnkeaa.W.quiet_move rfl rfl) ?_
    refine WL.op rfl rfl rfl (Go.Proofs.Ytbldglnfadnkeaa.W.quiet_move rfl rfl) ?_
    refine WL.op rfl rfl rfl (Go.Proofs.Ytbldglnfadnkeaa.W.quiet_move rfl rfl) ?_
    refine O.ixa rfl rfl rfl rfl rfl rfl (qi_s_api_Slot _ _ _ _ _ _ (by omega)) ?_
    refine WL.op rfl rfl rfl (Go.Proofs.Ytbldglnfadnkeaa.W.quiet_field rfl rfl (fun W => (qa_api_Slot_1 W _ _))) ?_
    refine WL.ld rfl rfl rfl rfl rfl (ql_int _ _ _ (ff2.cell h2 id)) ?_
    refine WL.op rfl rfl rfl (Go.Proofs.Ytbldglnfadnkeaa.W.quiet_bin rfl rfl rfl (fun W => qb_add_int W _ _ _ _ (by omega) (by omega))) ?_
    refine WL.call (hr := (t_next (offs s j + s.getD j 0) (by omega) (by omega) w4)) rfl rfl rfl rfl rfl (fun W => qk_rushlightref14_next W _) ?_
    rintro e wz ⟨rfl, hwz⟩
    refine ⟨_, rfl, ?_⟩
    obtain rfl := hwz.symm
    rw [hofs]
    refine WL.op rfl rfl rfl (Go.Proofs.Ytbldglnfadnkeaa.W.quiet_assign rfl rfl) ?_
    refine WL.end ?_
    refine Xw.nblk ?_
    refine Xw.nrm ?_
    refine TW.reg ?_
    refine WL.op rfl rfl rfl (Go.Proofs.Ytbldglnfadnkeaa.W.quiet_move rfl rfl) ?_
    refine WL.op rfl rfl rfl (Go.Proofs.Ytbldglnfadnkeaa.W.quiet_bin rfl rfl rfl (fun W => qb_add_int W _ _ _ _ (by omega) (by omega))) ?_
    refine WL.op rfl rfl rfl (Go.Proofs.Ytbldglnfadnkeaa.W.quiet_assign rfl rfl) ?_
    refine WL.end ?_
    refine Xw.any (fun a k => ?_)
    refine ⟨j + 1, by omega, by omega, v2, by (repeat (refine Kn.cons k rfl ?_)); exact k.base, ff2, hI2⟩
  · skip
    refine WL.nil ?_
    refine TW.cond rfl (fun hb => by cases hb) (fun _ => ?_)
    refine TW.exit ?_
    refine Xw.thn (by simp) ?_
    refine Xw.thn (by simp) ?_
    refine Xw.hit ?_
    refine Xw.nrm ?_
    refine TW.sreg ?_
    refine WL.op rfl rfl rfl (Go.Proofs.Ytbldglnfadnkeaa.W.quiet_move rfl rfl) ?_
    refine WL.op rfl rfl rfl (Go.Proofs.Ytbldglnfadnkeaa.W.quiet_move rfl rfl) ?_
    refine WL.op rfl rfl rfl (Go.Proofs.Ytbldglnfadnkeaa.W.quiet_assign rfl rfl) ?_
    refine WL.op rfl rfl rfl (Go.Proofs.Ytbldglnfadnkeaa.W.quiet_assign rfl rfl) ?_
    refine WL.nil ?_
    refine TW.rt ?_
    refine O.ret2 rfl rfl rfl ?_
    have hje : j = s.length := by have := of_decide_eq_false hb; omega
    subst hje
    exact ⟨v, rfl, hI, ff⟩
set_option maxRecDepth 100000 in
theorem t_big (nm : ByteArray) (sz al ce : Int) (w : World) : Calls Try.prog 14 #[.agg #[.string nm, .int .i64 sz, .int .i64 al, .int .i64 ce]] w fun e w' => e = .returned (.bool (decide (2000 < sz))) ∧ Fr (fun _ => False) w w' := by
  have ff := Fr.refl (fun _ => False) w
  refine calls_tw Try.func14 rfl rfl (Nat.le_of_ble_eq_true rfl) ?_
  refine TW.sreg ?_
  have lw1 := ff.size
  refine O.boxR rfl rfl rfl rfl rfl (qxR_api_Slot w _ _ _ _) ?_
  rintro wa1 ⟨fa1, bx1⟩
  replace ff := ff.trans fa1
  refine WL.op rfl rfl rfl (Go.Proofs.Ytbldglnfadnkeaa.W.quiet_assign rfl rfl) ?_
  refine WL.nil ?_
  refine TW.sreg ?_
  refine WL.op rfl rfl rfl (Go.Proofs.Ytbldglnfadnkeaa.W.quiet_field rfl rfl (fun W => (qa_api_Slot_1 W _ _))) ?_
  refine WL.ld rfl rfl rfl rfl rfl (ql_int _ _ _ (bx1.cell (j := 1) rfl)) ?_
  refine WL.op rfl rfl rfl (Go.Proofs.Ytbldglnfadnkeaa.W.quiet_bin rfl rfl rfl (fun W => qb_gtr_int W _ _ _ _)) ?_
  refine WL.op rfl rfl rfl (Go.Proofs.Ytbldglnfadnkeaa.W.quiet_assign rfl rfl) ?_
  refine WL.nil ?_
  refine TW.rt ?_
  refine bodyw_ret rfl rfl ?_
  exact ⟨rfl, ff⟩
set_option maxRecDepth 100000 in
theorem t_idx (oa : Option Addr) (c : Nat) (s : List Int) (hl : s.length ≤ 1000000) (w : World) (hat : SlotsAt w oa s) : Calls Try.prog 20 #[.slice oa s.length c, .func (.func 14) #[] #[]] w fun e w' => ∃ r : Int, e = .returned (.int .i64 r) ∧ (r = -1 ∧ (∀ k, k < s.length → s.getD k 0 ≤ 2000) ∨ 0 ≤ r ∧ ∃ k, k < s.length ∧ 2000 < s.getD k 0) ∧ Fr (fun _ => False) w w' := by
  refine calls_tw Try.func20 rfl rfl (Nat.le_of_ble_eq_true rfl) ?_
  refine TW.sreg ?_
  refine WL.op rfl rfl rfl (Go.Proofs.Ytbldglnfadnkeaa.W.quiet_assign rfl rfl) ?_
  refine WL.nil ?_
  refine TW.seq ?_
  refine TW.sreg ?_
  refine WL.op rfl rfl rfl (Go.Proofs.Ytbldglnfadnkeaa.W.quiet_move rfl rfl) ?_
  refine O.len rfl rfl rfl rfl rfl (qn_s_api_Slot _ _ _ _) ?_
  refine WL.op rfl rfl rfl (Go.Proofs.Ytbldglnfadnkeaa.W.quiet_move rfl rfl) ?_
  refine WL.nil ?_
  refine TW.block ?_
  refine O.loopG (n := s.length) (fun a _ => (intOf (a.tmps.getD 8 undef)).toNat) (fun j a W => Kn Try.f20.ntmps [(0, .slice oa s.length c), (1, .func (.func 14) #[] #[]), (7, .int .i64 (s.length : Int)), (8, .int .i64 (j : Int))] a ∧ Fr (fun _ => False) w W ∧ ∀ k, k < j → s.getD k 0 ≤ 2000) (fun j a W h => O.slotv h.1 rfl) 0 (Nat.zero_le _) (fun a k => ⟨(by (repeat (refine Kn.cons k rfl ?_)); exact k.base), Fr.refl _ _, fun k hk => absurd hk (by omega)⟩) ?_
  rintro j a wl hj ⟨k, ff, hle⟩
  refine TW.app (s := [(0, .slice oa s.length c), (1, .func (.func 14) #[] #[]), (7, .int .i64 (s.length : Int)), (8, .int .i64 (j : Int))]) ?_ k
  refine TW.sreg ?_
  refine WL.op rfl rfl rfl (Go.Proofs.Ytbldglnfadnkeaa.W.quiet_bin rfl rfl rfl (fun W => qb_lss_int W _ _ _ _)) ?_
  refine O.split (fun hb => ?_) (fun hb => ?_)
  · skip
    have hj2 : j < s.length := by have := of_decide_eq_true hb; omega
    obtain ⟨g, o, nm, al, ce, rfl, h1, h2, h3, h4⟩ := hat j hj2
    have h1 := ff.cell h1 id
    have h2 := ff.cell h2 id
    have h3 := ff.cell h3 id
    have h4 := ff.cell h4 id
    refine WL.nil ?_
    refine TW.seq ?_
    refine TW.cond rfl (fun _ => ?_) (fun hb => by cases hb)
    refine TW.skip ?_
    refine TW.seq ?_
    refine TW.block ?_
    refine TW.sreg ?_
    refine WL.op rfl rfl rfl (Go.Proofs.Ytbldglnfadnkeaa.W.quiet_move rfl rfl) ?_
    refine WL.op rfl rfl rfl (Go.Proofs.Ytbldglnfadnkeaa.W.quiet_assign rfl rfl) ?_
    refine WL.nil ?_
    refine TW.sreg ?_
    refine WL.op rfl rfl rfl (Go.Proofs.Ytbldglnfadnkeaa.W.quiet_move rfl rfl) ?_
    refine WL.op rfl rfl rfl (Go.Proofs.Ytbldglnfadnkeaa.W.quiet_move rfl rfl) ?_
    refine WL.op rfl rfl rfl (Go.Proofs.Ytbldglnfadnkeaa.W.quiet_move rfl rfl) ?_
    refine O.ixa rfl rfl rfl rfl rfl rfl (qi_s_api_Slot _ _ _ _ _ _ (by omega)) ?_
    refine WL.ld rfl rfl rfl rfl rfl (ql_api_Slot _ _ _ _ _ _ _ h1 h2 h3 h4) ?_
    refine O.callv (hr := t_big nm (s.getD j 0) al ce _) rfl rfl rfl rfl rfl rfl (fun W => qk_frame_Lay_1 W _) ?_
    rintro e w1 ⟨rfl, f1⟩
    refine ⟨_, rfl, ?_⟩
    replace ff := ff.trans f1
    refine O.split (fun hb2 => ?_) (fun hb2 => ?_)
    · skip
      refine WL.nil ?_
      refine TW.cond rfl (fun _ => ?_) (fun hb => by cases hb)
      refine TW.sreg ?_
      refine WL.op rfl rfl rfl (Go.Proofs.Ytbldglnfadnkeaa.W.quiet_move rfl rfl) ?_
      refine WL.op rfl rfl rfl (Go.Proofs.Ytbldglnfadnkeaa.W.quiet_assign rfl rfl) ?_
      refine WL.nil ?_
      refine TW.rt ?_
      refine Xw.rblk ?_
      refine Xw.thn (by simp) ?_
      refine Xw.thn (by simp) ?_
      refine Xw.rblk ?_
      refine Xw.thn (by simp) ?_
      refine bodyw_ret rfl rfl ?_
      exact ⟨_, rfl, .inr ⟨by omega, j, hj2, of_decide_eq_true hb2⟩, ff⟩
    · skip
      refine WL.nil ?_
      refine TW.cond rfl (fun hb => by cases hb) (fun _ => ?_)
      refine TW.skipx ?_
      refine Xw.nblk ?_
      refine Xw.nrm ?_
      refine TW.reg ?_
      refine WL.op rfl rfl rfl (Go.Proofs.Ytbldglnfadnkeaa.W.quiet_bin rfl rfl rfl (fun W => qb_add_int W _ _ _ _ (by omega) (by omega))) ?_
      refine WL.op rfl rfl rfl (Go.Proofs.Ytbldglnfadnkeaa.W.quiet_move rfl rfl) ?_
      refine WL.end ?_
      refine Xw.any (fun a k => ?_)
      refine ⟨j + 1, by omega, by omega, by (repeat (refine Kn.cons k rfl ?_)); exact k.base, ff, fun q hq => ?_⟩
      have := of_decide_eq_false hb2
      by_cases e : q = j
      · subst e; omega
      · exact hle q (by omega)
  · skip
    refine WL.nil ?_
    refine TW.seq ?_
    refine TW.cond rfl (fun hb => by cases hb) (fun _ => ?_)
    refine TW.exit ?_
    refine Xw.thn (by simp) ?_
    refine Xw.thn (by simp) ?_
    refine Xw.hit ?_
    refine Xw.nrm ?_
    refine TW.sreg ?_
    refine WL.op rfl rfl rfl (Go.Proofs.Ytbldglnfadnkeaa.W.quiet_assign rfl rfl) ?_
    refine WL.nil ?_
    refine TW.rt ?_
    refine bodyw_ret rfl rfl ?_
    have hje : j = s.length := by have := of_decide_eq_false hb; omega
    subst hje
    exact ⟨_, rfl, .inl ⟨rfl, hle⟩, ff⟩
set_option maxRecDepth 100000 in
theorem t_any (oa : Option Addr) (c : Nat) (s : List Int) (hl : s.length ≤ 1000000) (w : World) (hat : SlotsAt w oa s) : Calls Try.prog 13 #[.slice oa s.length c, .func (.func 14) #[] #[]] w fun e w' => ∃ b : Bool, e = .returned (.bool b) ∧ (b = true ↔ ∃ k, k < s.length ∧ 2000 < s.getD k 0) ∧ Fr (fun _ => False) w w' := by
  refine calls_tw Try.func13 rfl rfl (Nat.le_of_ble_eq_true rfl) ?_
  refine TW.sreg ?_
  refine WL.op rfl rfl rfl (Go.Proofs.Ytbldglnfadnkeaa.W.quiet_assign rfl rfl) ?_
  refine WL.nil ?_
  refine TW.sreg ?_
  refine WL.op rfl rfl rfl (Go.Proofs.Ytbldglnfadnkeaa.W.quiet_move rfl rfl) ?_
  refine WL.op rfl rfl rfl (Go.Proofs.Ytbldglnfadnkeaa.W.quiet_move rfl rfl) ?_
  refine WL.call (hr := t_idx oa c s hl w hat) rfl rfl rfl rfl rfl (fun W => qk_slices_IndexFunc_api_Slot_api_Slot W _) ?_
  rintro e w1 ⟨r, rfl, hr, f1⟩
  refine ⟨_, rfl, ?_⟩
  refine WL.op rfl rfl rfl (Go.Proofs.Ytbldglnfadnkeaa.W.quiet_bin rfl rfl rfl (fun W => qb_geq_int W _ _ _ _)) ?_
  refine WL.op rfl rfl rfl (Go.Proofs.Ytbldglnfadnkeaa.W.quiet_assign rfl rfl) ?_
  refine WL.nil ?_
  refine TW.rt ?_
  refine bodyw_ret rfl rfl ?_
  refine ⟨_, rfl, ?_, f1⟩
  rw [decide_eq_true_eq]
  rcases hr with ⟨rfl, h⟩ | ⟨h, q⟩
  · refine ⟨fun e => by omega, fun ⟨k, hk, e⟩ => ?_⟩
    have := h k hk
    omega
  · exact ⟨fun _ => q, fun _ => h⟩
set_option maxRecDepth 100000 in
theorem t_take (n sz : Int) (b : Nat) (w : World) (hb : Bx w b #[.int .i64 sz] 3) (h0 : -9223372036854775808 ≤ sz + n) (h1 : sz + n ≤ 9223372036854775807) : Calls Try.prog 15 #[.int .i64 n, .pointer (some ⟨b, 0, none⟩)] w fun e w' => e = .returned (.int .i64 sz) ∧ Bx w' b #[.int .i64 (sz + n)] 3 ∧ Fr (fun q => q = b) w w' := by
  refine calls_tw Try.func15 rfl rfl (Nat.le_of_ble_eq_true rfl) ?_
  refine TW.sreg ?_
  refine WL.op rfl rfl rfl (Go.Proofs.Ytbldglnfadnkeaa.W.quiet_assign rfl rfl) ?_
  refine WL.nil ?_
  refine TW.sreg ?_
  refine WL.ld rfl rfl rfl rfl rfl (ql_int _ _ _ (hb.cell (j := 0) rfl)) ?_
  refine WL.op rfl rfl rfl (Go.Proofs.Ytbldglnfadnkeaa.W.quiet_assign rfl rfl) ?_
  refine WL.nil ?_
  refine TW.sreg ?_
  refine WL.ld rfl rfl rfl rfl rfl (ql_int _ _ _ (hb.cell (j := 0) rfl)) ?_
  refine WL.op rfl rfl rfl (Go.Proofs.Ytbldglnfadnkeaa.W.quiet_move rfl rfl) ?_
  refine WL.op rfl rfl rfl (Go.Proofs.Ytbldglnfadnkeaa.W.quiet_bin rfl rfl rfl (fun W => qb_add_int W _ _ _ _ (by omega) (by omega))) ?_
  refine O.storeR rfl rfl rfl rfl rfl (qsA_int w _ _ _ hb) ?_
  rintro wa1 ⟨fa1, hbx⟩
  clear hb
  have hb := hbx
  clear hbx
  refine WL.nil ?_
  refine TW.sreg ?_
  refine WL.op rfl rfl rfl (Go.Proofs.Ytbldglnfadnkeaa.W.quiet_move rfl rfl) ?_
  refine WL.op rfl rfl rfl (Go.Proofs.Ytbldglnfadnkeaa.W.quiet_assign rfl rfl) ?_
  refine WL.nil ?_
  refine TW.rt ?_
  refine bodyw_ret rfl rfl ?_
  exact ⟨rfl, hb, fa1⟩
end Go.Proofs.Ytbldglnfadnkeaa
