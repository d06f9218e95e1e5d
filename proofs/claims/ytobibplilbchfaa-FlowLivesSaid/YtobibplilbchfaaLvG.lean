/-
  Flow (layer 16): what is live.
-/
import Derived.Test.YtobibplilbchfaaLvF
namespace Go.Proofs.Ytobibplilbchfaa
open Go.RowKit
set_option linter.unusedVariables false
set_option linter.unusedSimpArgs false
theorem qlB_api_Block (w : World) (g : Nat) (up0 : Option Addr) (uk0 ul0 : Nat) (um1 : Int) (um2 : Int) (um3 : Int) (um4 : Int) (tt : TypeId) (h : Bx w g #[.slice up0 uk0 ul0, .int .i64 um1, .int .i64 um2, .int .i64 um3, .int .i64 um4] tt) : (Instr.loadAt 48 (.pointer (some ⟨g, 0, none⟩))).run Try.prog w = .ok (.agg #[.slice up0 uk0 ul0, .int .i64 um1, .int .i64 um2, .int .i64 um3, .int .i64 um4]) w := by
  have c0 := h.cell (j := 0) rfl
  have c1 := h.cell (j := 1) rfl
  have c2 := h.cell (j := 2) rfl
  have c3 := h.cell (j := 3) rfl
  have c4 := h.cell (j := 4) rfl
  simp [go_sem, c0, c1, c2, c3, c4]
theorem qlB_flow_effect (w : World) (g : Nat) (um0 : Int) (up1 : Option Addr) (uk1 ul1 : Nat) (tt : TypeId) (h : Bx w g #[.int .i64 um0, .slice up1 uk1 ul1] tt) : (Instr.loadAt 71 (.pointer (some ⟨g, 0, none⟩))).run Try.prog w = .ok (.agg #[.int .i64 um0, .slice up1 uk1 ul1]) w := by
  have c0 := h.cell (j := 0) rfl
  have c1 := h.cell (j := 1) rfl
  simp [go_sem, c0, c1]
theorem qzR_s_s_bool (w : World) : ∃ w', (Instr.alloc 42 true (.tuple #[])).run Try.prog w = .ok (.pointer (some ⟨w.heap.size, 0, none⟩)) w' ∧ (Fr (fun _ => False) w w' ∧ Bx w' w.heap.size #[.slice none 0 0] 42) := ⟨w.alloc (.cells #[.slice none 0 0] 42), by simp [go_sem], fr_al (Fr.refl _ _) _, Bx.new _ _ _⟩
theorem qb_quo_int (w : World) (x y : Operand) (m n : Int) (hn : n ≠ 0) (h0 : -9223372036854775808 ≤ m.tdiv n) (h1 : m.tdiv n ≤ 9223372036854775807) : ((do eqGuard .quo 3 x y (.int .i64 m) (.int .i64 n); binOp .quo 3 (.int .i64 m) (.int .i64 n) : Sem Value)).run Try.prog w = .ok (.int .i64 (m.tdiv n)) w := by
  have h : IntKind.i64.wrap (m.tdiv n) = m.tdiv n := IntWalk.i64_in _ (by omega)
  simp [go_sem, h, hn]
theorem qk_flow_table (w : World) (vs : Array Value) : (callFunc 27 vs).run Try.prog w = .ok (.enter 27 vs) w := by simp [go_sem]
theorem qsA_s_s_bool (w : World) (g : Nat) (z0 : Value) (up0 : Option Addr) (uk0 ul0 : Nat) (h : Bx w g #[z0] 42) : ∃ w', (Instr.storeAt 42 (.pointer (some ⟨g, 0, none⟩)) (.slice up0 uk0 ul0)).run Try.prog w = .ok () w' ∧ (Fr (fun q => q = g) w w' ∧ Bx w' g #[.slice up0 uk0 ul0] 42) := by
  have c0 := h.cell (j := 0) rfl
  have e0 := h.free 0
  exact ⟨w.setCell ⟨g, 0, none⟩ (.slice up0 uk0 ul0), by simp [go_sem, c0, e0], Fr.setCell _ _ _ rfl, h.set 0 _⟩
theorem qzR_s_s_int (w : World) : ∃ w', (Instr.alloc 28 true (.tuple #[])).run Try.prog w = .ok (.pointer (some ⟨w.heap.size, 0, none⟩)) w' ∧ (Fr (fun _ => False) w w' ∧ Bx w' w.heap.size #[.slice none 0 0] 28) := ⟨w.alloc (.cells #[.slice none 0 0] 28), by simp [go_sem], fr_al (Fr.refl _ _) _, Bx.new _ _ _⟩
theorem qsA_s_s_int (w : World) (g : Nat) (z0 : Value) (up0 : Option Addr) (uk0 ul0 : Nat) (h : Bx w g #[z0] 28) : ∃ w', (Instr.storeAt 28 (.pointer (some ⟨g, 0, none⟩)) (.slice up0 uk0 ul0)).run Try.prog w = .ok () w' ∧ (Fr (fun q => q = g) w w' ∧ Bx w' g #[.slice up0 uk0 ul0] 28) := by
  have c0 := h.cell (j := 0) rfl
  have e0 := h.free 0
  exact ⟨w.setCell ⟨g, 0, none⟩ (.slice up0 uk0 ul0), by simp [go_sem, c0, e0], Fr.setCell _ _ _ rfl, h.set 0 _⟩
theorem qzR_int (w : World) : ∃ w', (Instr.alloc 3 true (.tuple #[])).run Try.prog w = .ok (.pointer (some ⟨w.heap.size, 0, none⟩)) w' ∧ (Fr (fun _ => False) w w' ∧ Bx w' w.heap.size #[.int .i64 0] 3) := ⟨w.alloc (.cells #[.int .i64 0] 3), by simp [go_sem], fr_al (Fr.refl _ _) _, Bx.new _ _ _⟩
theorem qzR_api_Block (w : World) : ∃ w', (Instr.alloc 48 true (.tuple #[])).run Try.prog w = .ok (.pointer (some ⟨w.heap.size, 0, none⟩)) w' ∧ (Fr (fun _ => False) w w' ∧ Bx w' w.heap.size #[.slice none 0 0, .int .i64 0, .int .i64 0, .int .i64 0, .int .i64 0] 48) := ⟨w.alloc (.cells #[.slice none 0 0, .int .i64 0, .int .i64 0, .int .i64 0, .int .i64 0] 48), by simp [go_sem], fr_al (Fr.refl _ _) _, Bx.new _ _ _⟩
theorem qsA_int (w : World) (g : Nat) (z0 : Value) (um0 : Int) (h : Bx w g #[z0] 3) : ∃ w', (Instr.storeAt 3 (.pointer (some ⟨g, 0, none⟩)) (.int .i64 um0)).run Try.prog w = .ok () w' ∧ (Fr (fun q => q = g) w w' ∧ Bx w' g #[.int .i64 um0] 3) := by
  have c0 := h.cell (j := 0) rfl
  have e0 := h.free 0
  exact ⟨w.setCell ⟨g, 0, none⟩ (.int .i64 um0), by simp [go_sem, c0, e0], Fr.setCell _ _ _ rfl, h.set 0 _⟩
theorem qsA_api_Block (w : World) (g : Nat) (z0 z1 z2 z3 z4 : Value) (up0 : Option Addr) (uk0 ul0 : Nat) (um1 : Int) (um2 : Int) (um3 : Int) (um4 : Int) (h : Bx w g #[z0, z1, z2, z3, z4] 48) : ∃ w', (Instr.storeAt 48 (.pointer (some ⟨g, 0, none⟩)) (.agg #[.slice up0 uk0 ul0, .int .i64 um1, .int .i64 um2, .int .i64 um3, .int .i64 um4])).run Try.prog w = .ok () w' ∧ (Fr (fun q => q = g) w w' ∧ Bx w' g #[.slice up0 uk0 ul0, .int .i64 um1, .int .i64 um2, .int .i64 um3, .int .i64 um4] 48) := h.store 48 #[.slice up0 uk0 ul0, .int .i64 um1, .int .i64 um2, .int .i64 um3, .int .i64 um4] (by kernel_rfl) rfl (by simp [Value.oneCell'])
theorem qk_flow_endReads (w : World) (vs : Array Value) : (callFunc 29 vs).run Try.prog w = .ok (.enter 29 vs) w := by simp [go_sem]
theorem ql_s_s_bool (w : World) (p : Option Addr) (k l : Nat) (d : Addr) (h : w.cell? d = some (.slice p k l)) : (Instr.loadAt 42 (.pointer (some d))).run Try.prog w = .ok (.slice p k l) w := by simp [go_sem, h]
theorem qk_slices_Backward_api_Ins_api_Ins (w : World) (vs : Array Value) : (callFunc 30 vs).run Try.prog w = .ok (.enter 30 vs) w := by simp [go_sem]
theorem qk_slices_Backward_api_Ins_api_Ins_1 (w : World) (vs : Array Value) : (callFunc 43 vs).run Try.prog w = .ok (.enter 43 vs) w := by simp [go_sem]
theorem qzR_api_Ins (w : World) : ∃ w', (Instr.alloc 69 true (.tuple #[])).run Try.prog w = .ok (.pointer (some ⟨w.heap.size, 0, none⟩)) w' ∧ (Fr (fun _ => False) w w' ∧ Bx w' w.heap.size #[.int .i64 0, .int .i64 0, .int .i64 0, .int .i64 0, .int .i64 0, .int .i64 0, .int .i64 0, .int .i64 0, .int .u32 0, .slice none 0 0, .bool false] 69) := ⟨w.alloc (.cells #[.int .i64 0, .int .i64 0, .int .i64 0, .int .i64 0, .int .i64 0, .int .i64 0, .int .i64 0, .int .i64 0, .int .u32 0, .slice none 0 0, .bool false] 69), by simp [go_sem], fr_al (Fr.refl _ _) _, Bx.new _ _ _⟩
theorem qsA_api_Ins (w : World) (g : Nat) (z0 z1 z2 z3 z4 z5 z6 z7 z8 z9 z10 : Value) (um0 : Int) (um1 : Int) (um2 : Int) (um3 : Int) (um4 : Int) (um5 : Int) (um6 : Int) (um7 : Int) (um8 : Int) (up9 : Option Addr) (uk9 ul9 : Nat) (up10 : Bool) (h : Bx w g #[z0, z1, z2, z3, z4, z5, z6, z7, z8, z9, z10] 69) : ∃ w', (Instr.storeAt 69 (.pointer (some ⟨g, 0, none⟩)) (.agg #[.int .i64 um0, .int .i64 um1, .int .i64 um2, .int .i64 um3, .int .i64 um4, .int .i64 um5, .int .i64 um6, .int .i64 um7, .int .u32 um8, .slice up9 uk9 ul9, .bool up10])).run Try.prog w = .ok () w' ∧ (Fr (fun q => q = g) w w' ∧ Bx w' g #[.int .i64 um0, .int .i64 um1, .int .i64 um2, .int .i64 um3, .int .i64 um4, .int .i64 um5, .int .i64 um6, .int .i64 um7, .int .u32 um8, .slice up9 uk9 ul9, .bool up10] 69) := h.store 69 #[.int .i64 um0, .int .i64 um1, .int .i64 um2, .int .i64 um3, .int .i64 um4, .int .i64 um5, .int .i64 um6, .int .i64 um7, .int .u32 um8, .slice up9 uk9 ul9, .bool up10] (by kernel_rfl) rfl (by simp [Value.oneCell'])
theorem qk_flow_effectOf (w : World) (vs : Array Value) : (callFunc 31 vs).run Try.prog w = .ok (.enter 31 vs) w := by simp [go_sem]
theorem qk_flow_Row_pass (w : World) (vs : Array Value) : (callFunc 32 vs).run Try.prog w = .ok (.enter 32 vs) w := by simp [go_sem]
theorem ql_s_s_int (w : World) (p : Option Addr) (k l : Nat) (d : Addr) (h : w.cell? d = some (.slice p k l)) : (Instr.loadAt 28 (.pointer (some d))).run Try.prog w = .ok (.slice p k l) w := by simp [go_sem, h]
theorem qk_slices_Sort_int_int (w : World) (vs : Array Value) : (callFunc 33 vs).run Try.prog w = .ok (.enter 33 vs) w := by simp [go_sem]
theorem qk_flow_Preds (w : World) (vs : Array Value) : (callFunc 8 vs).run Try.prog w = .ok (.enter 8 vs) w := by simp [go_sem]
theorem qk_flow_spread (w : World) (vs : Array Value) : (callFunc 34 vs).run Try.prog w = .ok (.enter 34 vs) w := by simp [go_sem]
end Go.Proofs.Ytobibplilbchfaa
namespace Go.Proofs.Ytobibplilbchfaa.M
open Go.RowKit
set_option linter.unusedVariables false
set_option linter.unusedSimpArgs false
theorem quo_in (n : Int) (h : 0 < n) (h2 : n ≤ 300) : 0 ≤ (2147483647 : Int).tdiv n ∧ (2147483647 : Int).tdiv n ≤ 2147483647 ∧ 300 ≤ ((2147483647 : Int).tdiv n).tdiv 2 ∧ ((2147483647 : Int).tdiv n).tdiv 2 ≤ 2147483647 := by
  have e : (2147483647 : Int).tdiv n = 2147483647 / n := Int.tdiv_eq_ediv_of_nonneg (by decide)
  have h0 : 7158278 ≤ (2147483647 : Int) / n := Int.le_ediv_of_mul_le h (by omega)
  have h1 : (2147483647 : Int) / n ≤ 2147483647 := Int.ediv_le_self _ (by decide)
  have e2 : ((2147483647 : Int) / n).tdiv 2 = (2147483647 : Int) / n / 2 := Int.tdiv_eq_ediv_of_nonneg (by omega)
  rw [e, e2]
  omega
theorem predsJ_in (bs : List Bk) (hnb : bs.length ≤ 300) : ∀ k, k < bs.length → ((predsJ bs bs.length 0).getD k []).length ≤ 1000 ∧ ∀ x ∈ (predsJ bs bs.length 0).getD k [], ∃ q : Nat, q < bs.length ∧ x = (q : Int) := fun k hk => by
  have h1 := predsJ_rlen bs bs.length 0 k hk
  refine ⟨by omega, fun x hx => ?_⟩
  rw [predsJ_get bs bs.length 0 k hk] at hx
  simp only [List.take_zero, List.contains_nil, Bool.false_eq_true, if_false, List.append_nil] at hx
  unfold predsN at hx
  obtain ⟨q, hq, rfl⟩ := List.mem_map.1 hx
  exact ⟨q, List.mem_range.1 (List.mem_filter.1 hq).1, rfl⟩
theorem endR_len (b : Bk) : (endR b).length ≤ 1000000 := by unfold endR; split <;> simp
theorem usesF_len (i : Inn) : (usesF i).length ≤ i.args.length + 2 := by
  unfold usesF
  refine Nat.le_trans (List.length_filter_le _ _) ?_
  rw [List.length_append, List.length_append]
  split <;> split <;> split <;> simp <;> omega
theorem foldx_len {n : Nat} (L : List Inn) (b : Bk) (m : Nat) (pre : List {k : Nat // k < n}) : (pre.foldl (fun l x => passI l (L.getD x.1 inn0)) (endRow b m)).length = m := by
  have : ∀ (pre : List {k : Nat // k < n}) (e : List Bool), (pre.foldl (fun l x => passI l (L.getD x.1 inn0)) e).length = e.length := fun pre => by
    induction pre with
    | nil => intro e; rfl
    | cons x pre ih => intro e; show (pre.foldl _ (passI e (L.getD x.1 inn0))).length = _; rw [ih]; exact passL_len _ _ _
  rw [this, endRow_len]
set_option maxRecDepth 100000 in
set_option maxHeartbeats 1000000 in
theorem t_live (nm : ByteArray) (vd : Bool) (pr R : Int) (oa : Option Addr) (on oc : Nat) (ba : Option Addr) (bs : List Bk) (bc : Nat) (hnb : bs.length ≤ 300) (hRb : R ≤ 300) (hins : ∀ b ∈ bs, b.ins.length ≤ 1000 ∧ ∀ i ∈ b.ins, i.args.length ≤ 1000) (w : World) (hbl : BkL w ba bs) : Calls Try.prog 18 #[.agg #[.string nm, .bool vd, .int .i64 pr, .int .i64 R, .slice oa on oc, .slice ba bs.length bc]] w fun e w' => ∃ (Si So : Nat) (vi vo : List Value) (il ol : List (List Bool)), e = .returned (.tuple #[.slice (some ⟨Si, 0, none⟩) bs.length bs.length, .slice (some ⟨So, 0, none⟩) bs.length bs.length]) ∧ Tbl Si 4 30 bC w' Si bs.length vi il ∧ Tbl So 4 30 bC w' So bs.length vo ol ∧ (∀ b, b < bs.length → (il.getD b []).length = R.toNat) ∧ (∀ b, b < bs.length → (ol.getD b []).length = R.toNat) ∧ (∀ k, k < bs.length → ∃ g c, vi.getD k nilS = .slice (some ⟨g, 0, none⟩) R.toNat c) ∧ (∀ k, k < bs.length → ∃ g c, vo.getD k nilS = .slice (some ⟨g, 0, none⟩) R.toNat c) ∧ (∀ b r, b < bs.length → r < R.toNat → (bit il b r = true ↔ LI bs.length R.toNat (predsJ bs bs.length 0) (tabG (fun k => setRow (bs.getD k bk0)) [] bs.length bs.length) (tabG (fun k => genRow (bs.getD k bk0) R.toNat) (List.replicate R.toNat false) bs.length bs.length) b r)) ∧ (∀ b r, b < bs.length → r < R.toNat → (bit ol b r = true ↔ LO bs.length R.toNat (predsJ bs bs.length 0) (tabG (fun k => setRow (bs.getD k bk0)) [] bs.length bs.length) (tabG (fun k => genRow (bs.getD k bk0) R.toNat) (List.replicate R.toNat false) bs.length bs.length) (tabG (fun k => endRow (bs.getD k bk0) R.toNat) (List.replicate R.toNat false) bs.length bs.length) b r)) ∧ Fr (fun _ => False) w w' := by
  have hq : 0 < (bs.length : Int) → 0 ≤ (2147483647 : Int).tdiv (bs.length : Int) ∧ (2147483647 : Int).tdiv (bs.length : Int) ≤ 2147483647 ∧ 300 ≤ ((2147483647 : Int).tdiv (bs.length : Int)).tdiv 2 ∧ ((2147483647 : Int).tdiv (bs.length : Int)).tdiv 2 ≤ 2147483647 := fun h => quo_in _ h (by omega)
  have ff := Fr.refl (fun _ => False) w
  refine calls_tw Try.func18 rfl rfl (Nat.le_of_ble_eq_true rfl) (by intro w h; revert h; simp) ?_
  refine TW.sreg ?_
  have lw1 := ff.size
  refine O.boxR rfl rfl rfl rfl rfl (qxR_api_Proc w _ _ _ _ _ _ _ _ _ _) ?_
  rintro wa1 ⟨fa1, bx1⟩
  replace ff := ff.trans fa1
  have lt2_bx1 := bx1.lt
  have lw2 := ff.size
  refine O.allocR rfl rfl rfl rfl (qzR_s_s_bool wa1) ?_
  rintro wa2 ⟨fa2, bx2⟩
  replace bx1 := bx1.fr fa2 id
  replace ff := ff.trans fa2
  refine WL.op rfl rfl rfl (Go.Proofs.Ytobibplilbchfaa.M.W.quiet_assign rfl rfl) ?_
  refine WL.nil ?_
  refine TW.seq ?_
  refine TW.sreg ?_
  refine WL.op rfl rfl rfl (Go.Proofs.Ytobibplilbchfaa.M.W.quiet_field rfl rfl (fun W => (qa_api_Proc_5 W _ _))) ?_
  refine WL.ld rfl rfl rfl rfl rfl (ql_s_api_Block _ _ _ _ _ (bx1.cell (j := 5) rfl)) ?_
  refine O.len rfl rfl rfl rfl rfl (qn_s_api_Block _ _ _ _) ?_
  refine WL.op rfl rfl rfl (Go.Proofs.Ytobibplilbchfaa.M.W.quiet_assign rfl rfl) ?_
  refine WL.nil ?_
  refine O.mid (fun a W => Kn ⟨Try.f18.ntmps, [], none, 1000⟩ [(1, .pointer (some ⟨w.heap.size, 0, none⟩)), (2, .pointer (some ⟨wa1.heap.size, 0, none⟩)), (23, .bool false)] a ∧ Fr (fun _ => False) w W ∧ Bx W w.heap.size #[.string nm, .bool vd, .int .i64 pr, .int .i64 R, .slice oa on oc, .slice ba bs.length bc] 25 ∧ Bx W wa1.heap.size #[.slice none 0 0] 42) ?_ ?_
  · skip
    refine Q.reg (C := fun W => Fr (fun _ => False) wa2 W) (by kernel_rfl) (by kernel_rfl) (fun W h => h.drewN 1) (Fr.refl _ _) ?_
    refine W.op rfl rfl rfl (Go.Proofs.Ytobibplilbchfaa.M.W.quiet_move rfl rfl) ?_
    refine W.op rfl rfl rfl (Go.Proofs.Ytobibplilbchfaa.M.W.quiet_bin rfl rfl rfl (fun W => qb_gtr_int W _ _ _ _)) ?_
    refine Q.split (fun hnp => ?_) (fun hnp => ?_)
    · skip
      obtain ⟨q1, q2, q3, q4⟩ := hq (by have := of_decide_eq_true hnp; omega)
      have hnz : (bs.length : Int) ≠ 0 := by have := of_decide_eq_true hnp; omega
      refine W.op rfl rfl rfl (Go.Proofs.Ytobibplilbchfaa.M.W.quiet_move rfl rfl) ?_
      refine W.op rfl rfl rfl (Go.Proofs.Ytobibplilbchfaa.M.W.quiet_field rfl rfl (fun W => (qa_api_Proc_3 W _ _))) ?_
      refine W.op rfl rfl rfl (Go.Proofs.Ytobibplilbchfaa.M.W.quiet_load rfl rfl (fun W hW => (ql_int _ _ _ ((bx1.fr hW id).cell (j := 3) rfl)))) ?_
      refine W.op rfl rfl rfl (Go.Proofs.Ytobibplilbchfaa.M.W.quiet_move rfl rfl) ?_
      refine W.op rfl rfl rfl (Go.Proofs.Ytobibplilbchfaa.M.W.quiet_bin rfl rfl rfl (fun W => qb_quo_int W _ _ _ _ (by omega) (by omega) (by omega))) ?_
      refine W.op rfl rfl rfl (Go.Proofs.Ytobibplilbchfaa.M.W.quiet_bin rfl rfl rfl (fun W => qb_quo_int W _ _ _ _ (by decide) (by omega) (by omega))) ?_
      refine W.op rfl rfl rfl (Go.Proofs.Ytobibplilbchfaa.M.W.quiet_bin rfl rfl rfl (fun W => qb_gtr_int W _ _ _ _)) ?_
      refine Q.split (fun hb => by have := of_decide_eq_true hb; omega) (fun hb => ?_)
      refine W.op rfl rfl rfl (Go.Proofs.Ytobibplilbchfaa.M.W.quiet_pick rfl rfl rfl) ?_
      refine Q.end (fun wq1 fq1 => ?_)
      replace bx1 := bx1.fr fq1 id
      replace bx2 := bx2.fr fq1 id
      replace ff := ff.trans fq1
      refine Xw.any (fun a k => ?_)
      exact ⟨(by (repeat (refine Kn.cons k rfl ?_)); exact k.base), ff, bx1, bx2⟩
    · skip
      refine W.op rfl rfl rfl (Go.Proofs.Ytobibplilbchfaa.M.W.quiet_move rfl rfl) ?_
      refine W.skip rfl rfl rfl ?_
      refine W.skip rfl rfl rfl ?_
      refine W.skip rfl rfl rfl ?_
      refine W.skip rfl rfl rfl ?_
      refine W.skip rfl rfl rfl ?_
      refine W.skip rfl rfl rfl ?_
      refine W.op rfl rfl rfl (Go.Proofs.Ytobibplilbchfaa.M.W.quiet_pick rfl rfl rfl) ?_
      refine Q.end (fun wq2 fq2 => ?_)
      replace bx1 := bx1.fr fq2 id
      replace bx2 := bx2.fr fq2 id
      replace ff := ff.trans fq2
      refine Xw.any (fun a k => ?_)
      exact ⟨(by (repeat (refine Kn.cons k rfl ?_)); exact k.base), ff, bx1, bx2⟩
  · rintro a wn ⟨k, ff, bx1, bx2⟩
    refine TW.app (s := [(1, .pointer (some ⟨w.heap.size, 0, none⟩)), (2, .pointer (some ⟨wa1.heap.size, 0, none⟩)), (23, .bool false)]) ?_ k
    refine TW.cond rfl (fun hb => by cases hb) (fun _ => ?_)
    refine TW.skip ?_
    refine O.mid (fun a W => ∃ (Si So : Nat) (vi vo : List Value), Kn ⟨Try.f18.ntmps, [], none, 1000⟩ [(1, .pointer (some ⟨w.heap.size, 0, none⟩)), (2, .pointer (some ⟨wa1.heap.size, 0, none⟩)), (3, .slice (some ⟨So, 0, none⟩) bs.length bs.length)] a ∧ Fr (fun _ => False) w W ∧ Bx W w.heap.size #[.string nm, .bool vd, .int .i64 pr, .int .i64 R, .slice oa on oc, .slice ba bs.length bc] 25 ∧ Bx W wa1.heap.size #[.slice (some ⟨Si, 0, none⟩) bs.length bs.length] 42 ∧ w.heap.size < wa1.heap.size ∧ Tbl Si 4 30 bC W Si bs.length vi (List.replicate bs.length (List.replicate R.toNat false)) ∧ Tbl So 4 30 bC W So bs.length vo (List.replicate bs.length (List.replicate R.toNat false)) ∧ Si ≠ So ∧ w.heap.size ≤ Si ∧ w.heap.size ≤ So ∧ (∀ k, k < bs.length → ∃ g c, vi.getD k nilS = .slice (some ⟨g, 0, none⟩) R.toNat c) ∧ (∀ k, k < bs.length → ∃ g c, vo.getD k nilS = .slice (some ⟨g, 0, none⟩) R.toNat c) ∧ ∀ j k, j < bs.length → k < bs.length → ∀ q, (vi.getD j nilS).ownBlock = some q → (vo.getD k nilS).ownBlock ≠ some q) ?_ ?_
    · skip
      have b1 := bx1
      have lt1 := bx1.lt
      have lt2 := bx2.lt
      refine TW.regH (fun W => Fr (fun q => q = wa1.heap.size) wn W) (by kernel_rfl) ?_
      have fd : Fr (fun _ => False) wn wn.drew := (Fr.refl _ _).drewN 1
      have HW : Fr (fun q => q = wa1.heap.size) wn wn.drew := (Fr.refl _ _).drewN 1
      replace bx1 := bx1.fr fd id
      replace bx2 := bx2.fr fd id
      replace ff := ff.trans fd
      generalize hV : wn.drew = V1 at *
      clear hV
      refine WH.take 0 rfl (by kernel_rfl) (by kernel_rfl) (by kernel_rfl) (fun _ _ _ _ _ h => h) rfl rfl rfl HW (RH.load rfl rfl (fun W hW => qlB_api_Proc _ _ _ _ _ _ _ _ _ _ _ _ _ (b1.fr hW (fun e => by omega)))) ?_
      refine WH.take 2 rfl (by kernel_rfl) (by kernel_rfl) (by kernel_rfl) (fun _ _ _ _ _ h => h) rfl rfl rfl HW (RH.load rfl rfl (fun W hW => qlB_api_Proc _ _ _ _ _ _ _ _ _ _ _ _ _ (b1.fr hW (fun e => by omega)))) ?_
      refine WH.one 1 (by kernel_rfl) rfl ?_ 
      try have zO := hO.lts
      have hzi := ff.size
      refine WL.call (hr := t_table nm vd pr R oa on oc ba bs bc (by omega) (by omega) _) rfl rfl rfl rfl rfl (fun W => qk_flow_table W _) ?_
      rintro e wI ⟨Si, vi, rfl, hI, hvi, hSi, fI⟩
      refine ⟨_, rfl, ?_⟩
      replace bx1 := bx1.fr fI id
      replace bx2 := bx2.fr fI id
      replace HW := HW.trans' fI (fun q hq e => e.elim)
      replace ff := ff.trans fI
      have hSi0 := hSi
      replace hSi := Nat.le_trans hzi hSi
      refine WL.fin HW ?_
      refine WH.one 3 (by kernel_rfl) rfl ?_ 
      try have zI := hI.lts
      have hzo := ff.size
      refine WL.call (hr := t_table nm vd pr R oa on oc ba bs bc (by omega) (by omega) _) rfl rfl rfl rfl rfl (fun W => qk_flow_table W _) ?_
      rintro e wO ⟨So, vo, rfl, hO, hvo, hSo, fO⟩
      refine ⟨_, rfl, ?_⟩
      replace bx1 := bx1.fr fO id
      replace bx2 := bx2.fr fO id
      replace HW := HW.trans' fO (fun q hq e => e.elim)
      replace hI := hI.fr0 fO
      replace ff := ff.trans fO
      have hSo0 := hSo
      replace hSo := Nat.le_trans hzo hSo
      refine WL.fin HW ?_
      refine WH.one 4 (by kernel_rfl) rfl ?_ 
      refine O.storeR rfl rfl rfl rfl rfl (qsA_s_s_bool wO _ _ _ _ _ bx2) ?_
      rintro wa3 ⟨fa3, bx2x⟩
      replace bx1 := bx1.fr fa3 (fun e => by omega)
      replace HW := HW.trans' fa3 (fun q hq e => by first | exact e | exact Or.inl e | exact Or.inr e | omega)
      replace hI := hI.frB fa3 bx2 (by decide) (by decide)
      replace hO := hO.frB fa3 bx2 (by decide) (by decide)
      replace ff := ff.trans' fa3 (fun q hq e => by omega)
      clear bx2
      have bx2 := bx2x
      clear bx2x
      refine WL.fin HW ?_
      refine WH.take 5 rfl (by kernel_rfl) (by kernel_rfl) (by kernel_rfl) (fun _ _ _ _ _ h => h) rfl rfl rfl HW (RH.assign rfl rfl) ?_
      refine WH.end (by kernel_rfl) ?_
      refine Xw.any (fun a k => ?_)
      have hap : ∀ j k, j < bs.length → k < bs.length → ∀ q, (vi.getD j nilS).ownBlock = some q → (vo.getD k nilS).ownBlock ≠ some q := fun j k hj hk q e e2 => by
        first
          | (have h1 := zI.2 j hj q e; have h2 := (Row.lt (hO.hr k hk) q e2).1; omega)
          | (have h1 := zO.2 k hk q e2; have h2 := (Row.lt (hI.hr j hj) q e).1; omega)
      have hne : Si ≠ So := by first | (have := zI.1; omega) | (have := zO.1; omega)
      exact ⟨Si, So, vi, vo, (by (repeat (refine Kn.cons k rfl ?_)); exact k.base), ff, bx1, bx2, by omega, hI, hO, hne, hSi, hSo, hvi, hvo, hap⟩
    · rintro a wm ⟨Si, So, vi, vo, k, ff, bx1, bx2, hl2, hI, hO, hne, hSi, hSo, hvi, hvo, hap⟩
      refine TW.app (s := [(1, .pointer (some ⟨w.heap.size, 0, none⟩)), (2, .pointer (some ⟨wa1.heap.size, 0, none⟩)), (3, .slice (some ⟨So, 0, none⟩) bs.length bs.length)]) ?_ k
      refine TW.sreg ?_
      refine WL.op rfl rfl rfl (Go.Proofs.Ytobibplilbchfaa.M.W.quiet_field rfl rfl (fun W => (qa_api_Proc_5 W _ _))) ?_
      refine WL.ld rfl rfl rfl rfl rfl (ql_s_api_Block _ _ _ _ _ (bx1.cell (j := 5) rfl)) ?_
      refine O.len rfl rfl rfl rfl rfl (qn_s_api_Block _ _ _ _) ?_
      have lt3_bx1 := bx1.lt
      have lt3_bx2 := bx2.lt
      have lw3 := ff.size
      refine O.mkR rfl rfl rfl rfl rfl rfl (mk_si bs.length (by omega) _) ?_
      rintro wa4 ⟨fa4, bx3⟩
      replace bx1 := bx1.fr fa4 id
      replace bx2 := bx2.fr fa4 id
      replace hI := hI.fr0 fa4
      replace hO := hO.fr0 fa4
      replace ff := ff.trans fa4
      have hS : Tbl wm.heap.size 3 34 iC wa4 wm.heap.size bs.length (List.replicate bs.length nilS) (List.replicate bs.length ([] : List Int)) := tbl_made bx3 (Nat.le_refl _) (by omega)
      have hl5 : wa1.heap.size < wm.heap.size := by have := bx2.lt; omega
      have lt4_bx1 := bx1.lt
      have lt4_bx2 := bx2.lt
      have lw4 := ff.size
      refine O.allocR rfl rfl rfl rfl (qzR_s_s_int wa4) ?_
      rintro wa5 ⟨fa5, bx4⟩
      replace bx1 := bx1.fr fa5 id
      replace bx2 := bx2.fr fa5 id
      replace hI := hI.fr0 fa5
      replace hO := hO.fr0 fa5
      replace hS := hS.fr0 fa5
      replace ff := ff.trans fa5
      refine O.storeR rfl rfl rfl rfl rfl (qsA_s_s_int wa5 _ _ _ _ _ bx4) ?_
      rintro wa6 ⟨fa6, bx4x⟩
      replace bx1 := bx1.fr fa6 (fun e => by omega)
      replace bx2 := bx2.fr fa6 (fun e => by omega)
      replace hI := hI.frB fa6 bx4 (by decide) (by decide)
      replace hO := hO.frB fa6 bx4 (by decide) (by decide)
      replace hS := hS.frB fa6 bx4 (by decide) (by decide)
      replace ff := ff.trans' fa6 (fun q hq e => by omega)
      clear bx4
      have bx4 := bx4x
      clear bx4x
      refine WL.nil ?_
      refine TW.seq ?_
      refine TW.sreg ?_
      refine WL.op rfl rfl rfl (Go.Proofs.Ytobibplilbchfaa.M.W.quiet_field rfl rfl (fun W => (qa_api_Proc_5 W _ _))) ?_
      refine WL.ld rfl rfl rfl rfl rfl (ql_s_api_Block _ _ _ _ _ (bx1.cell (j := 5) rfl)) ?_
      refine O.len rfl rfl rfl rfl rfl (qn_s_api_Block _ _ _ _) ?_
      refine WL.op rfl rfl rfl (Go.Proofs.Ytobibplilbchfaa.M.W.quiet_move rfl rfl) ?_
      refine WL.nil ?_
      refine TW.block ?_
      refine O.loopG (n := bs.length) (fun a _ => (intOf (a.tmps.getD 35 undef)).toNat) (fun j a W => ∃ (ds : List Nat) (vss : List Value), Kn ⟨Try.f18.ntmps, ds, none, 1000⟩ [(1, .pointer (some ⟨w.heap.size, 0, none⟩)), (2, .pointer (some ⟨wa1.heap.size, 0, none⟩)), (3, .slice (some ⟨So, 0, none⟩) bs.length bs.length), (5, .pointer (some ⟨wa4.heap.size, 0, none⟩)), (33, .slice ba bs.length bc), (34, .int .i64 (bs.length : Int)), (35, .int .i64 (j : Int))] a ∧ Fr (fun _ => False) w W ∧ Bx W w.heap.size #[.string nm, .bool vd, .int .i64 pr, .int .i64 R, .slice oa on oc, .slice ba bs.length bc] 25 ∧ Bx W wa1.heap.size #[.slice (some ⟨Si, 0, none⟩) bs.length bs.length] 42 ∧ Bx W wa4.heap.size #[.slice (some ⟨wm.heap.size, 0, none⟩) bs.length bs.length] 28 ∧ Tbl Si 4 30 bC W Si bs.length vi (tabG (fun k => genRow (bs.getD k bk0) R.toNat) (List.replicate R.toNat false) bs.length j) ∧ Tbl So 4 30 bC W So bs.length vo (tabG (fun k => endRow (bs.getD k bk0) R.toNat) (List.replicate R.toNat false) bs.length j) ∧ Tbl wm.heap.size 3 34 iC W wm.heap.size bs.length vss (tabG (fun k => setRow (bs.getD k bk0)) [] bs.length j) ∧ Mks ds W ∧ (∀ d ∈ ds, w.heap.size ≤ d) ∧ ∀ k, j ≤ k → k < bs.length → vss.getD k nilS = .slice none 0 0) (fun j a W h => by obtain ⟨_, _, h⟩ := h; exact O.slotv h.1 rfl) 0 (Nat.zero_le _) (fun a k => ⟨[], _, (by (repeat (refine Kn.cons k rfl ?_)); exact k.base), ff, bx1, bx2, bx4, (by rw [tabG_zero]; exact hI), (by rw [tabG_zero]; exact hO), (by rw [tabG_zero]; exact hS), Mks.nil _, (fun d hd => by cases hd), fun k _ hk => getD_rep _ _ _⟩) ?_
      rintro j a wl hj ⟨ds, vss, k, ff, bx1, bx2, bx4, hI, hO, hS, hM, hds, hnl⟩
      refine TW.app (s := [(1, .pointer (some ⟨w.heap.size, 0, none⟩)), (2, .pointer (some ⟨wa1.heap.size, 0, none⟩)), (3, .slice (some ⟨So, 0, none⟩) bs.length bs.length), (5, .pointer (some ⟨wa4.heap.size, 0, none⟩)), (33, .slice ba bs.length bc), (34, .int .i64 (bs.length : Int)), (35, .int .i64 (j : Int))]) ?_ k
      refine TW.sreg ?_
      refine WL.op rfl rfl rfl (Go.Proofs.Ytobibplilbchfaa.M.W.quiet_bin rfl rfl rfl (fun W => qb_lss_int W _ _ _ _)) ?_
      refine O.split (fun hbj => ?_) (fun hbj => ?_)
      · skip
        have hj2 : j < bs.length := by have := of_decide_eq_true hbj; omega
        have zI := hI.lts
        have zO := hO.lts
        have zS := hS.lts
        have hml := hM.lt
        obtain ⟨gb, ob, hba, ⟨ia, ic, hc0, hia⟩, hc1, hc2, hc3, hc4⟩ := hbl j hj2
        have hvn0 := hnl j (Nat.le_refl _) hj2
        have hwz := ff.size
        obtain ⟨L, hL⟩ : ∃ L, L = (bs.getD j bk0).ins := ⟨_, rfl⟩
        obtain ⟨AC, hx, hAA⟩ := hia.x
        have hbm := hins _ (getD_memB hj2)
        rw [← hL] at hx hAA hbm
        have hll := hbm.1
        have hargs : ∀ x : {k : Nat // k < L.length}, (L.getD x.1 inn0).args.length ≤ 1000 := fun x => hbm.2 _ (getD_memI x.2)
        refine WL.nil ?_
        refine TW.seq ?_
        refine TW.cond rfl (fun _ => ?_) (fun hb => by cases hb)
        refine TW.skip ?_
        refine TW.seq ?_
        refine TW.block ?_
        refine TW.sreg ?_
        refine WL.op rfl rfl rfl (Go.Proofs.Ytobibplilbchfaa.M.W.quiet_move rfl rfl) ?_
        refine O.ixa rfl rfl rfl rfl rfl rfl (by rw [hba]; exact qi_s_api_Block _ _ _ _ _ _ (by omega)) ?_
        refine WL.ld rfl rfl rfl rfl rfl (ql_api_Block _ _ _ _ _ _ _ _ (ff.cell hc0 id) (ff.cell hc1 id) (ff.cell hc2 id) (ff.cell hc3 id) (ff.cell hc4 id)) ?_
        have lt5_bx1 := bx1.lt
        have lt5_bx2 := bx2.lt
        have lt5_bx4 := bx4.lt
        have lw5 := ff.size
        refine O.allocR rfl rfl rfl rfl (qzR_int wl) ?_
        rintro wa7 ⟨fa7, bx5⟩
        replace bx1 := bx1.fr fa7 id
        replace bx2 := bx2.fr fa7 id
        replace bx4 := bx4.fr fa7 id
        replace hI := hI.fr0 fa7
        replace hO := hO.fr0 fa7
        replace hS := hS.fr0 fa7
        replace hM := hM.fr0 fa7
        replace ff := ff.trans fa7
        have lt6_bx1 := bx1.lt
        have lt6_bx2 := bx2.lt
        have lt6_bx4 := bx4.lt
        have lt6_bx5 := bx5.lt
        have lw6 := ff.size
        refine O.allocR rfl rfl rfl rfl (qzR_api_Block wa7) ?_
        rintro wa8 ⟨fa8, bx6⟩
        replace bx1 := bx1.fr fa8 id
        replace bx2 := bx2.fr fa8 id
        replace bx4 := bx4.fr fa8 id
        replace bx5 := bx5.fr fa8 id
        replace hI := hI.fr0 fa8
        replace hO := hO.fr0 fa8
        replace hS := hS.fr0 fa8
        replace hM := hM.fr0 fa8
        replace ff := ff.trans fa8
        refine O.storeR rfl rfl rfl rfl rfl (qsA_int wa8 _ _ _ bx5) ?_
        rintro wa9 ⟨fa9, bx5x⟩
        replace bx1 := bx1.fr fa9 (fun e => by omega)
        replace bx2 := bx2.fr fa9 (fun e => by omega)
        replace bx4 := bx4.fr fa9 (fun e => by omega)
        replace bx6 := bx6.fr fa9 (fun e => by omega)
        replace hI := hI.below fa9 zI (fun q e => by omega)
        replace hO := hO.below fa9 zO (fun q e => by omega)
        replace hS := hS.below fa9 zS (fun q e => by omega)
        replace hM := hM.fr fa9 (fun d hd e => by have := hml d hd; omega)
        replace ff := ff.trans' fa9 (fun q hq e => by omega)
        clear bx5
        have bx5 := bx5x
        clear bx5x
        refine O.storeR rfl rfl rfl rfl rfl (qsA_api_Block wa9 _ _ _ _ _ _ _ _ _ _ _ _ _ bx6) ?_
        rintro wa10 ⟨fa10, bx6x⟩
        replace bx1 := bx1.fr fa10 (fun e => by omega)
        replace bx2 := bx2.fr fa10 (fun e => by omega)
        replace bx4 := bx4.fr fa10 (fun e => by omega)
        replace bx5 := bx5.fr fa10 (fun e => by omega)
        replace hI := hI.below fa10 zI (fun q e => by omega)
        replace hO := hO.below fa10 zO (fun q e => by omega)
        replace hS := hS.below fa10 zS (fun q e => by omega)
        replace hM := hM.fr fa10 (fun d hd e => by have := hml d hd; omega)
        replace ff := ff.trans' fa10 (fun q hq e => by omega)
        clear bx6
        have bx6 := bx6x
        clear bx6x
        refine WL.nil ?_
        obtain ⟨go, co, hgo⟩ := hvo j hj2
        obtain ⟨gi, ci, hgi⟩ := hvi j hj2
        have b6 := bx5
        have b7 := bx6
        have hO0 := hO
        have hgoS := (Row.lt (hO.hr j hj2) go (by rw [hgo]; rfl)).1
        have hgiS := (Row.lt (hI.hr j hj2) gi (by rw [hgi]; rfl)).1
        obtain ⟨z9, HZ⟩ := (hO.hr j hj2).typ go (by rw [hgo]; rfl)
        have hSo1 : go ≠ So := fun e => by obtain ⟨cS, hcS⟩ := hO.hs.typ So rfl; exact typ_ne HZ hcS (by decide) e
        refine TW.sregH (fun W => Fr (fun q => q = go) wa10 W) (by kernel_rfl) ?_
        have fd : Fr (fun _ => False) wa10 wa10.drew := (Fr.refl _ _).drewN 1
        have HW : Fr (fun q => q = go) wa10 wa10.drew := (Fr.refl _ _).drewN 1
        replace bx1 := bx1.fr fd id
        replace bx2 := bx2.fr fd id
        replace bx4 := bx4.fr fd id
        replace bx5 := bx5.fr fd id
        replace bx6 := bx6.fr fd id
        replace hI := hI.fr0 fd
        replace hO := hO.fr0 fd
        replace hS := hS.fr0 fd
        replace hM := hM.fr0 fd
        replace ff := ff.trans fd
        generalize hV : wa10.drew = V2 at *
        clear hV
        refine WH.take 0 rfl (by kernel_rfl) (by kernel_rfl) (by kernel_rfl) (fun _ _ _ _ _ h => h) rfl rfl rfl HW (RH.move rfl rfl) ?_
        refine WH.take 1 rfl (by kernel_rfl) (by kernel_rfl) (by kernel_rfl) (fun _ _ _ _ _ h => h) rfl rfl rfl HW (RH.load rfl rfl (fun W hW => (ql_int _ _ _ ((b6.fr hW (fun e => typ_ne b6 HZ (by decide) e)).cell (j := 0) rfl)))) ?_
        refine WH.take 2 rfl (by kernel_rfl) (by kernel_rfl) (by kernel_rfl) (fun _ _ _ _ _ h => h) rfl rfl rfl HW (RH.index rfl rfl rfl (fun W => (qi_s_s_bool _ _ _ _ _ _ (by omega)))) ?_
        refine WH.take 3 rfl (by kernel_rfl) (by kernel_rfl) (by kernel_rfl) (fun _ _ _ _ _ h => h) rfl rfl rfl HW (RH.load rfl rfl (fun W hW => (ld_sb _ _ _ (cell_hs (hO0.hs.fr hW (fun q e e2 => by cases e; exact hSo1 e2.symm)) hO0.hl hj2) ⟨_, _, _, hgo⟩))) ?_
        refine WH.take 4 rfl (by kernel_rfl) (by kernel_rfl) (by kernel_rfl) (fun _ _ _ _ _ h => h) rfl rfl rfl HW (RH.load rfl rfl (fun W hW => (qlB_api_Block _ _ _ _ _ _ _ _ _ _ (b7.fr hW (fun e => typ_ne b7 HZ (by decide) e))))) ?_
        refine WH.one 5 (by kernel_rfl) rfl ?_ 
        refine WL.call (hr := (t_endr (bs.getD j bk0) ia ic _)) rfl rfl rfl rfl rfl (fun W => qk_flow_endReads W _) ?_
        rintro e wE ⟨ve, rfl, hE, fE⟩
        refine ⟨_, rfl, ?_⟩
        replace bx1 := bx1.fr fE id
        replace bx2 := bx2.fr fE id
        replace bx4 := bx4.fr fE id
        replace bx5 := bx5.fr fE id
        replace bx6 := bx6.fr fE id
        replace hI := hI.fr0 fE
        replace hO := hO.fr0 fE
        replace hS := hS.fr0 fE
        replace hM := hM.fr0 fE
        replace HW := HW.trans' fE (fun q hq e => e.elim)
        replace ff := ff.trans fE
        refine WL.fin HW ?_
        refine WH.one 6 (by kernel_rfl) rfl ?_ 
        have hrO := hO.hr j hj2
        rw [hgo, tabG_get _ hj2, if_neg (by omega)] at hrO
        rw [hgo]
        refine WL.call (hr := (t_readM So _ go co (List.replicate R.toNat false) R.toNat (by simp) ve (endR (bs.getD j bk0)) (endR_len _) _ hrO hE)) rfl rfl rfl rfl rfl (fun W => qk_flow_Row_read W _) ?_
        rintro e wR ⟨rfl, hB, fB⟩
        refine ⟨_, rfl, ?_⟩
        obtain ⟨zz, hzz⟩ := (hO.hr j hj2).typ go (by rw [hgo]; rfl)
        replace hI := hI.frR fB hzz (by decide) (fun k hk e => hap k j hk hj2 go e (by rw [hgo]; rfl))
        replace hS := hS.frB fB hzz (by decide) (by decide)
        replace hM := hM.fr fB (fun d hd e => hM.ne hzz d hd e)
        replace bx1 := bx1.frT fB hzz (by decide)
        replace bx2 := bx2.frT fB hzz (by decide)
        replace bx4 := bx4.frT fB hzz (by decide)
        replace bx5 := bx5.frT fB hzz (by decide)
        replace bx6 := bx6.frT fB hzz (by decide)
        replace ff := ff.trans' fB (fun q hq e => by omega)
        replace HW := HW.trans' fB (fun q hq e => e)
        replace hO : Tbl So 4 30 bC wR So bs.length vo (tabG (fun k => endRow (bs.getD k bk0) R.toNat) (List.replicate R.toNat false) bs.length (j + 1)) := by have e := tabG_succ (f := fun k => endRow (bs.getD k bk0) R.toNat) (d := List.replicate R.toNat false) (n := bs.length) hj2; rw [← e]; exact hO.inrow hj2 hgo hB fB
        refine WL.fin HW ?_
        refine WH.done (by kernel_rfl) ?_
        have b2 := bx2
        have b6b := bx5
        have hI0 := hI
        have hO1 := hO
        obtain ⟨z10, HZ2⟩ := (hI.hr j hj2).typ gi (by rw [hgi]; rfl)
        have hSi1 : gi ≠ Si := fun e => by obtain ⟨cS, hcS⟩ := hI.hs.typ Si rfl; exact typ_ne HZ2 hcS (by decide) e
        have hSo2 : gi ≠ So := fun e => by obtain ⟨cS, hcS⟩ := hO.hs.typ So rfl; exact typ_ne HZ2 hcS (by decide) e
        refine TW.sregH (fun W => Fr (fun q => q = gi) wR W) (by kernel_rfl) ?_
        have fd : Fr (fun _ => False) wR wR.drew := (Fr.refl _ _).drewN 1
        have HW : Fr (fun q => q = gi) wR wR.drew := (Fr.refl _ _).drewN 1
        replace bx1 := bx1.fr fd id
        replace bx2 := bx2.fr fd id
        replace bx4 := bx4.fr fd id
        replace bx5 := bx5.fr fd id
        replace bx6 := bx6.fr fd id
        replace hI := hI.fr0 fd
        replace hO := hO.fr0 fd
        replace hS := hS.fr0 fd
        replace hM := hM.fr0 fd
        replace ff := ff.trans fd
        generalize hV : wR.drew = V3 at *
        clear hV
        refine WH.take 0 rfl (by kernel_rfl) (by kernel_rfl) (by kernel_rfl) (fun _ _ _ _ _ h => h) rfl rfl rfl HW (RH.load rfl rfl (fun W hW => (ql_s_s_bool _ _ _ _ _ ((b2.fr hW (fun e => typ_ne b2 HZ2 (by decide) e)).cell (j := 0) rfl)))) ?_
        refine WH.take 1 rfl (by kernel_rfl) (by kernel_rfl) (by kernel_rfl) (fun _ _ _ _ _ h => h) rfl rfl rfl HW (RH.load rfl rfl (fun W hW => (ql_int _ _ _ ((b6b.fr hW (fun e => typ_ne b6b HZ2 (by decide) e)).cell (j := 0) rfl)))) ?_
        refine WH.take 2 rfl (by kernel_rfl) (by kernel_rfl) (by kernel_rfl) (fun _ _ _ _ _ h => h) rfl rfl rfl HW (RH.index rfl rfl rfl (fun W => (qi_s_s_bool _ _ _ _ _ _ (by omega)))) ?_
        refine WH.take 3 rfl (by kernel_rfl) (by kernel_rfl) (by kernel_rfl) (fun _ _ _ _ _ h => h) rfl rfl rfl HW (RH.load rfl rfl (fun W hW => (ld_sb _ _ _ (cell_hs (hI0.hs.fr hW (fun q e e2 => by cases e; exact hSi1 e2.symm)) hI0.hl hj2) ⟨_, _, _, hgi⟩))) ?_
        refine WH.take 4 rfl (by kernel_rfl) (by kernel_rfl) (by kernel_rfl) (fun _ _ _ _ _ h => h) rfl rfl rfl HW (RH.move rfl rfl) ?_
        refine WH.take 5 rfl (by kernel_rfl) (by kernel_rfl) (by kernel_rfl) (fun _ _ _ _ _ h => h) rfl rfl rfl HW (RH.load rfl rfl (fun W hW => (ql_int _ _ _ ((b6b.fr hW (fun e => typ_ne b6b HZ2 (by decide) e)).cell (j := 0) rfl)))) ?_
        refine WH.take 6 rfl (by kernel_rfl) (by kernel_rfl) (by kernel_rfl) (fun _ _ _ _ _ h => h) rfl rfl rfl HW (RH.index rfl rfl rfl (fun W => (qi_s_s_bool _ _ _ _ _ _ (by omega)))) ?_
        refine WH.take 7 rfl (by kernel_rfl) (by kernel_rfl) (by kernel_rfl) (fun _ _ _ _ _ h => h) rfl rfl rfl HW (RH.load rfl rfl (fun W hW => (ld_sb _ _ _ (cell_hs (hO1.hs.fr hW (fun q e e2 => by cases e; exact hSo2 e2.symm)) hO1.hl hj2) ⟨_, _, _, hgo⟩))) ?_
        refine WH.one 8 (by kernel_rfl) rfl ?_ 
        have hrI := hI.hr j hj2
        rw [hgi, tabG_get _ hj2, if_neg (by omega)] at hrI
        have hrO := hO.hr j hj2
        rw [hgo, tabG_get _ hj2, if_pos (by omega)] at hrO
        rw [hgi, hgo]
        refine O.copy rfl rfl rfl rfl rfl rfl (copyM _ (by simp) (endRow_len _ _) hrI hrO) ?_
        rintro vc9 w10 ⟨hB, fB⟩
        obtain ⟨zz, hzz⟩ := (hI.hr j hj2).typ gi (by rw [hgi]; rfl)
        replace hO := hO.frR fB hzz (by decide) (fun k hk e => hap j k hj2 hk gi (by rw [hgi]; rfl) e)
        replace hS := hS.frB fB hzz (by decide) (by decide)
        replace hM := hM.fr fB (fun d hd e => hM.ne hzz d hd e)
        replace bx1 := bx1.frT fB hzz (by decide)
        replace bx2 := bx2.frT fB hzz (by decide)
        replace bx4 := bx4.frT fB hzz (by decide)
        replace bx5 := bx5.frT fB hzz (by decide)
        replace bx6 := bx6.frT fB hzz (by decide)
        replace ff := ff.trans' fB (fun q hq e => by omega)
        replace HW := HW.trans' fB (fun q hq e => e)
        replace hI := hI.inrow hj2 hgi hB fB
        -- world w10
        refine WL.fin HW ?_
        refine WH.done (by kernel_rfl) ?_
        refine TW.seq ?_
        refine TW.sreg ?_
        refine WL.op rfl rfl rfl (Go.Proofs.Ytobibplilbchfaa.M.W.quiet_field rfl rfl (fun W => (qa_api_Block_0 W _ _))) ?_
        refine WL.ld rfl rfl rfl rfl rfl (ql_s_api_Ins _ _ _ _ _ (bx6.cell (j := 0) rfl)) ?_
        refine WL.call (hr := (t_backw ia _ ic _)) rfl rfl rfl rfl rfl (fun W => qk_slices_Backward_api_Ins_api_Ins W _) ?_
        rintro e wK ⟨gk, rfl, hbk, hgk, fK⟩
        refine ⟨_, rfl, ?_⟩
        replace bx1 := bx1.fr fK id
        replace bx2 := bx2.fr fK id
        replace bx4 := bx4.fr fK id
        replace bx5 := bx5.fr fK id
        replace bx6 := bx6.fr fK id
        replace hI := hI.fr0 fK
        replace hO := hO.fr0 fK
        replace hS := hS.fr0 fK
        replace hM := hM.fr0 fK
        replace ff := ff.trans fK
        rw [← hL] at hbk
        refine WL.nil ?_
        refine TW.block ?_
        have hkz := ff.size
        have hmk := hM.lt
        have hgW : wl.heap.size < wK.heap.size := bx5.lt
        have hssz : w.heap.size ≤ wm.heap.size := by omega
        have hS0 := tabG_self (f := fun k => setRow (bs.getD k bk0)) (d := []) (n := bs.length) hj2
        have hvn : (vss.getD j nilS).ownBlock = none ∨ True := .inr trivial
        have hnil : vss.getD j nilS = .slice none 0 0 := hvn0
        refine TW.rangeN (α := {k : Nat // k < L.length}) (Hd := fun W => (Bx W gk #[.slice ia L.length ic] 46 ∧ Fr (fun _ => False) w W)) rfl (Nat.le_of_ble_eq_true rfl) rfl (fun _ _ => qk_slices_Backward_api_Ins_api_Ins_1 _ _) (bk_stops gk ia ic L AC (by omega) wK _ (fun W h => ⟨h.1, hx.fr h.2⟩) (fun W hb => ⟨hbk.fr (below_fr hb) id, ff.trans (below_fr hb)⟩) 999) (fun W W' F0 h hf nc => ⟨h.1.fr hf (nc.bx h.1), nc.ff h.2 hkz hf⟩) (Below.refl _ _) (fun _ => rfl) (fun (pre : List {k : Nat // k < L.length}) W => ∃ vss : List Value, (Bx W gk #[.slice ia L.length ic] 46 ∧ Fr (fun _ => False) w W) ∧ Bx W w.heap.size #[.string nm, .bool vd, .int .i64 pr, .int .i64 R, .slice oa on oc, .slice ba bs.length bc] 25 ∧ Bx W wa1.heap.size #[.slice (some ⟨Si, 0, none⟩) bs.length bs.length] 42 ∧ Bx W wa4.heap.size #[.slice (some ⟨wm.heap.size, 0, none⟩) bs.length bs.length] 28 ∧ Bx W wl.heap.size #[.int .i64 (j : Int)] 3 ∧ Tbl Si 4 30 bC W Si bs.length vi ((tabG (fun k => genRow (bs.getD k bk0) R.toNat) (List.replicate R.toNat false) bs.length j).set j (pre.foldl (fun l x => passI l (L.getD x.1 inn0)) (endRow (bs.getD j bk0) R.toNat))) ∧ Tbl So 4 30 bC W So bs.length vo (tabG (fun k => endRow (bs.getD k bk0) R.toNat) (List.replicate R.toNat false) bs.length (j + 1)) ∧ Tbl wm.heap.size 3 34 iC W wm.heap.size bs.length vss ((tabG (fun k => setRow (bs.getD k bk0)) [] bs.length j).set j (pre.map (fun x => defF (L.getD x.1 inn0)))) ∧ Mks ds W ∧ wK.heap.size ≤ W.heap.size ∧ (∀ q, (vss.getD j nilS).ownBlock = some q → wK.heap.size ≤ q) ∧ pre.length ≤ L.length ∧ (∀ k, j + 1 ≤ k → k < bs.length → vss.getD k nilS = .slice none 0 0)) (by rintro s W W' F0 ⟨vss, ⟨h0, h1⟩, b1, b2, b4, b5, i1, i2, i3, m1, z, hvs, hpl, hnl⟩ hf nc; exact ⟨vss, ⟨h0.fr hf (nc.bx h0), nc.ff h1 hkz hf⟩, b1.fr hf (nc.bx b1), b2.fr hf (nc.bx b2), b4.fr hf (nc.bx b4), b5.fr hf (nc.bx b5), Tbl_nc i1 hf nc, Tbl_nc i2 hf nc, Tbl_nc i3 hf nc, m1.nc hmk nc hf, Nat.le_trans z hf.size, hvs, hpl, hnl⟩) ⟨vss, ⟨hbk, ff⟩, bx1, bx2, bx4, bx5, hI, hO, (by rw [List.map_nil, hS0]; exact hS), hM, Nat.le_refl _, (fun q e => by rw [hnil] at e; cases e), Nat.zero_le _, (fun k hk1 hk2 => hnl k (by omega) hk2)⟩ (_) (fun x a k => put2 k rfl rfl) (fun x a W => ∃ g9, Kn ⟨Try.f18.ntmps, [], none, 0⟩ [(1, .pointer (some ⟨w.heap.size, 0, none⟩)), (2, .pointer (some ⟨wa1.heap.size, 0, none⟩)), (3, .slice (some ⟨So, 0, none⟩) bs.length bs.length), (5, .pointer (some ⟨wa4.heap.size, 0, none⟩)), (6, .pointer (some ⟨wl.heap.size, 0, none⟩)), (9, .pointer (some ⟨g9, 0, none⟩))] a ∧ Bx W g9 (insC (L.getD x.1 inn0) (AC x.1)) 69) (by rintro x a' W W' F0 ⟨g9, k9, h9⟩ hf nc; exact ⟨g9, k9, h9.fr hf (nc.bx h9)⟩) ?_ ?_ ?_
        · rintro l pre x Wa ⟨vss, ⟨hbk, ff⟩, bx1, bx2, bx4, bx5, hI, hO, hS, hM, hz, hvs, hpl, hnl⟩
          have hK := KeepsOthers.refl Wa
          have hza := hz
          refine TW.reg ?_
          have lt7_bx1 := bx1.lt
          have lt7_bx2 := bx2.lt
          have lt7_bx4 := bx4.lt
          have lt7_bx5 := bx5.lt
          have lt7_hbk := hbk.lt
          have lw7 := ff.size
          refine O.allocR rfl rfl rfl rfl (qzR_api_Ins Wa) ?_
          rintro wa11 ⟨fa11, bx7⟩
          replace bx1 := bx1.fr fa11 id
          replace bx2 := bx2.fr fa11 id
          replace bx4 := bx4.fr fa11 id
          replace bx5 := bx5.fr fa11 id
          replace hbk := hbk.fr fa11 id
          replace hI := hI.fr0 fa11
          replace hO := hO.fr0 fa11
          replace hS := hS.fr0 fa11
          replace hM := hM.fr0 fa11
          replace hK := hK.trans (keeps0 fa11)
          replace hz := Nat.le_trans hz fa11.size
          replace ff := ff.trans fa11
          refine O.storeR rfl rfl rfl rfl rfl (qsA_api_Ins wa11 _ _ _ _ _ _ _ _ _ _ _ _ _ _ _ _ _ _ _ _ _ _ _ _ _ bx7) ?_
          rintro wa12 ⟨fa12, bx7x⟩
          replace bx1 := bx1.fr fa12 (fun e => by omega)
          replace bx2 := bx2.fr fa12 (fun e => by omega)
          replace bx4 := bx4.fr fa12 (fun e => by omega)
          replace bx5 := bx5.fr fa12 (fun e => by omega)
          replace hbk := hbk.fr fa12 (fun e => by omega)
          replace hI := hI.frB fa12 bx7 (by decide) (by decide)
          replace hO := hO.frB fa12 bx7 (by decide) (by decide)
          replace hS := hS.frB fa12 bx7 (by decide) (by decide)
          replace hM := hM.fr fa12 (fun d hd e => hM.ne bx7 d hd e)
          replace hK := hK.trans (keepsB fa12 bx7)
          replace hz := Nat.le_trans hz fa12.size
          replace ff := ff.trans' fa12 (fun q hq e => by omega)
          clear bx7
          have bx7 := bx7x
          clear bx7x
          refine WL.end ?_
          refine Xw.any (fun a k => ?_)
          have k9 := k.to (N' := ⟨Try.f18.ntmps, [], none, 0⟩)
          exact ⟨hK.from _, fun _ => ⟨hbk, ff⟩, ⟨vss, ⟨hbk, ff⟩, bx1, bx2, bx4, bx5, hI, hO, hS, hM, hz, hvs, hpl, hnl⟩, ⟨_, (by (repeat (refine Kn.cons k9 rfl ?_)); exact k9.base), bx7⟩⟩
        · rintro l pre x a Wb ⟨vss, ⟨hbk, ff⟩, bx1, bx2, bx4, bx5, hI, hO, hS, hM, hz, hvs, hpl, hnl⟩ ⟨g9, k, bx9⟩ hlt
          have hK := KeepsOthers.refl Wb
          refine TW.app (N' := ⟨Try.f18.ntmps, [], some l, 998⟩) (s := [(1, .pointer (some ⟨w.heap.size, 0, none⟩)), (2, .pointer (some ⟨wa1.heap.size, 0, none⟩)), (3, .slice (some ⟨So, 0, none⟩) bs.length bs.length), (5, .pointer (some ⟨wa4.heap.size, 0, none⟩)), (6, .pointer (some ⟨wl.heap.size, 0, none⟩)), (9, .pointer (some ⟨g9, 0, none⟩))]) ?_ k.to
          refine TW.block ?_
          refine TW.sreg ?_
          refine WL.ld rfl rfl rfl rfl rfl (qlB_api_Ins _ _ _ _ _ _ _ _ _ _ _ _ _ _ _ _ bx9) ?_
          refine WL.call (hr := (t_effect (L.getD x.1 inn0) (AC x.1) (hargs x) _ ((hAA x.1 x.2).fr ff))) rfl rfl rfl rfl rfl (fun W => qk_flow_effectOf W _) ?_
          rintro e wE ⟨ve, rfl, hVe, fE⟩
          refine ⟨_, rfl, ?_⟩
          replace bx1 := bx1.fr fE id
          replace bx2 := bx2.fr fE id
          replace bx4 := bx4.fr fE id
          replace bx5 := bx5.fr fE id
          replace hbk := hbk.fr fE id
          replace bx9 := bx9.fr fE id
          replace hI := hI.fr0 fE
          replace hO := hO.fr0 fE
          replace hS := hS.fr0 fE
          replace hM := hM.fr0 fE
          replace hK := hK.trans (keeps0 fE)
          replace hz := Nat.le_trans hz fE.size
          replace ff := ff.trans fE
          obtain ⟨va, vcap, rfl⟩ := Row.form hVe
          have lt8_bx1 := bx1.lt
          have lt8_bx2 := bx2.lt
          have lt8_bx4 := bx4.lt
          have lt8_bx5 := bx5.lt
          have lt8_hbk := hbk.lt
          have lt8_bx9 := bx9.lt
          have lw8 := ff.size
          refine O.allocR rfl rfl rfl rfl (qzR_flow_effect wE) ?_
          rintro wa13 ⟨fa13, bx8⟩
          replace bx1 := bx1.fr fa13 id
          replace bx2 := bx2.fr fa13 id
          replace bx4 := bx4.fr fa13 id
          replace bx5 := bx5.fr fa13 id
          replace hbk := hbk.fr fa13 id
          replace bx9 := bx9.fr fa13 id
          replace hI := hI.fr0 fa13
          replace hO := hO.fr0 fa13
          replace hS := hS.fr0 fa13
          replace hM := hM.fr0 fa13
          replace hK := hK.trans (keeps0 fa13)
          replace hz := Nat.le_trans hz fa13.size
          replace hVe := Row.fr hVe fa13 (fun _ _ => id)
          replace ff := ff.trans fa13
          refine O.storeR rfl rfl rfl rfl rfl (qsA_flow_effect wa13 _ _ _ _ _ _ _ bx8) ?_
          rintro wa14 ⟨fa14, bx8x⟩
          replace bx1 := bx1.fr fa14 (fun e => by omega)
          replace bx2 := bx2.fr fa14 (fun e => by omega)
          replace bx4 := bx4.fr fa14 (fun e => by omega)
          replace bx5 := bx5.fr fa14 (fun e => by omega)
          replace hbk := hbk.fr fa14 (fun e => by omega)
          replace bx9 := bx9.fr fa14 (fun e => by omega)
          replace hI := hI.frB fa14 bx8 (by decide) (by decide)
          replace hO := hO.frB fa14 bx8 (by decide) (by decide)
          replace hS := hS.frB fa14 bx8 (by decide) (by decide)
          replace hM := hM.fr fa14 (fun d hd e => hM.ne bx8 d hd e)
          replace hK := hK.trans (keepsB fa14 bx8)
          replace hz := Nat.le_trans hz fa14.size
          replace hVe := Row.fr hVe fa14 (fun q e e2 => Row.apart_typ hVe bx8 (by decide) (e.trans (congrArg some e2)))
          replace ff := ff.trans' fa14 (fun q hq e => by omega)
          clear bx8
          have bx8 := bx8x
          clear bx8x
          have bxE := bx8
          refine WL.nil ?_
          have b2 := bx2
          have b6b := bx5
          have b10 := bxE
          have hI0 := hI
          obtain ⟨z10, HZ2⟩ := (hI.hr j hj2).typ gi (by rw [hgi]; rfl)
          have hSi1 : gi ≠ Si := fun e => by obtain ⟨cS, hcS⟩ := hI.hs.typ Si rfl; exact typ_ne HZ2 hcS (by decide) e
          refine TW.sregH (fun W => Fr (fun q => q = gi) wa14 W) (by kernel_rfl) ?_
          have fd : Fr (fun _ => False) wa14 wa14.drew := (Fr.refl _ _).drewN 1
          have HW : Fr (fun q => q = gi) wa14 wa14.drew := (Fr.refl _ _).drewN 1
          replace bx1 := bx1.fr fd id
          replace bx2 := bx2.fr fd id
          replace bx4 := bx4.fr fd id
          replace bx5 := bx5.fr fd id
          replace hbk := hbk.fr fd id
          replace bx9 := bx9.fr fd id
          replace hI := hI.fr0 fd
          replace hO := hO.fr0 fd
          replace hS := hS.fr0 fd
          replace hM := hM.fr0 fd
          replace hK := hK.trans (keeps0 fd)
          replace hz := Nat.le_trans hz fd.size
          replace hVe := Row.fr hVe fd (fun _ _ => id)
          replace bxE := bxE.fr fd id
          replace ff := ff.trans fd
          generalize hV : wa14.drew = V4 at *
          clear hV
          refine WH.take 0 rfl (by kernel_rfl) (by kernel_rfl) (by kernel_rfl) (fun _ _ _ _ _ h => h) rfl rfl rfl HW (RH.load rfl rfl (fun W hW => (ql_s_s_bool _ _ _ _ _ ((b2.fr hW (fun e => typ_ne b2 HZ2 (by decide) e)).cell (j := 0) rfl)))) ?_
          refine WH.take 1 rfl (by kernel_rfl) (by kernel_rfl) (by kernel_rfl) (fun _ _ _ _ _ h => h) rfl rfl rfl HW (RH.load rfl rfl (fun W hW => (ql_int _ _ _ ((b6b.fr hW (fun e => typ_ne b6b HZ2 (by decide) e)).cell (j := 0) rfl)))) ?_
          refine WH.take 2 rfl (by kernel_rfl) (by kernel_rfl) (by kernel_rfl) (fun _ _ _ _ _ h => h) rfl rfl rfl HW (RH.index rfl rfl rfl (fun W => (qi_s_s_bool _ _ _ _ _ _ (by omega)))) ?_
          refine WH.take 3 rfl (by kernel_rfl) (by kernel_rfl) (by kernel_rfl) (fun _ _ _ _ _ h => h) rfl rfl rfl HW (RH.load rfl rfl (fun W hW => (ld_sb _ _ _ (cell_hs (hI0.hs.fr hW (fun q e e2 => by cases e; exact hSi1 e2.symm)) hI0.hl hj2) ⟨_, _, _, hgi⟩))) ?_
          refine WH.take 4 rfl (by kernel_rfl) (by kernel_rfl) (by kernel_rfl) (fun _ _ _ _ _ h => h) rfl rfl rfl HW (RH.load rfl rfl (fun W hW => (qlB_flow_effect _ _ _ _ _ _ _ (b10.fr hW (fun e => typ_ne b10 HZ2 (by decide) e))))) ?_
          refine WH.one 5 (by kernel_rfl) rfl ?_ 
          have hfl := foldx_len L (bs.getD j bk0) R.toNat pre
          have hrI := hI.hr j hj2
          rw [hgi, tabG_set hj2] at hrI
          rw [hgi]
          refine WL.call (hr := (t_passM Si _ gi ci _ R.toNat hfl (defF (L.getD x.1 inn0)) _ (usesF (L.getD x.1 inn0)) (by have := usesF_len (L.getD x.1 inn0); have := hargs x; omega) _ hrI hVe)) rfl rfl rfl rfl rfl (fun W => qk_flow_Row_pass W _) ?_
          rintro e wP ⟨rfl, hB, fB⟩
          refine ⟨_, rfl, ?_⟩
          obtain ⟨zz, hzz⟩ := (hI.hr j hj2).typ gi (by rw [hgi]; rfl)
          replace hO := hO.frR fB hzz (by decide) (fun k hk e => hap j k hj2 hk gi (by rw [hgi]; rfl) e)
          replace hS := hS.frB fB hzz (by decide) (by decide)
          replace hM := hM.fr fB (fun d hd e => hM.ne hzz d hd e)
          replace bx1 := bx1.frT fB hzz (by decide)
          replace bx2 := bx2.frT fB hzz (by decide)
          replace bx4 := bx4.frT fB hzz (by decide)
          replace bx5 := bx5.frT fB hzz (by decide)
          replace bx9 := bx9.frT fB hzz (by decide)
          replace bxE := bxE.frT fB hzz (by decide)
          replace hbk := hbk.frT fB hzz (by decide)
          replace hVe := Row.fr hVe fB (fun q e e2 => Row.apart_typ hVe hzz (by decide) (e.trans (congrArg some e2)))
          replace hK := hK.trans (keepsB fB hzz)
          replace hz := Nat.le_trans hz fB.size
          replace ff := ff.trans' fB (fun q hq e => by omega)
          replace HW := HW.trans' fB (fun q hq e => e)
          replace hI := hI.inrow hj2 hgi hB fB
          rw [List.set_set] at hI
          refine WL.fin HW ?_
          refine WH.done (by kernel_rfl) ?_
          have b4 := bx4
          have b6b := bx5
          have b10 := bxE
          have hrS := hS.hr j hj2
          rw [tabG_set hj2] at hrS
          obtain ⟨cS, HZ3⟩ := hS.hs.typ _ rfl
          have hvsl := (Row.lt hrS)
          obtain ⟨sa, sc, hsv⟩ := Row.form hrS
          refine TW.regH (fun W => Fr (fun q => (vss.getD j nilS).ownBlock = some q ∨ q = wm.heap.size) wP W) (by kernel_rfl) ?_
          have fd : Fr (fun _ => False) wP wP.drew := (Fr.refl _ _).drewN 1
          have HW : Fr (fun q => (vss.getD j nilS).ownBlock = some q ∨ q = wm.heap.size) wP wP.drew := (Fr.refl _ _).drewN 1
          replace bx1 := bx1.fr fd id
          replace bx2 := bx2.fr fd id
          replace bx4 := bx4.fr fd id
          replace bx5 := bx5.fr fd id
          replace hbk := hbk.fr fd id
          replace bx9 := bx9.fr fd id
          replace hI := hI.fr0 fd
          replace hO := hO.fr0 fd
          replace hS := hS.fr0 fd
          replace hM := hM.fr0 fd
          replace hK := hK.trans (keeps0 fd)
          replace hz := Nat.le_trans hz fd.size
          replace hVe := Row.fr hVe fd (fun _ _ => id)
          replace bxE := bxE.fr fd id
          replace ff := ff.trans fd
          generalize hV : wP.drew = V5 at *
          clear hV
          refine WH.take 0 rfl (by kernel_rfl) (by kernel_rfl) (by kernel_rfl) (fun _ _ _ _ _ h => h) rfl rfl rfl HW (RH.load rfl rfl (fun W hW => (ql_s_s_int _ _ _ _ _ ((b4.fr hW (fun e => e.elim (fun q => Row.apart_typ hrS b4 (by decide) q) (fun q => typ_ne b4 HZ3 (by decide) q))).cell (j := 0) rfl)))) ?_
          refine WH.take 1 rfl (by kernel_rfl) (by kernel_rfl) (by kernel_rfl) (fun _ _ _ _ _ h => h) rfl rfl rfl HW (RH.load rfl rfl (fun W hW => (ql_int _ _ _ ((b6b.fr hW (fun e => e.elim (fun q => by have := hvs _ q; omega) (fun q => typ_ne b6b HZ3 (by decide) q))).cell (j := 0) rfl)))) ?_
          refine WH.take 2 rfl (by kernel_rfl) (by kernel_rfl) (by kernel_rfl) (fun _ _ _ _ _ h => h) rfl rfl rfl HW (RH.load rfl rfl (fun W hW => (ql_s_s_int _ _ _ _ _ ((b4.fr hW (fun e => e.elim (fun q => Row.apart_typ hrS b4 (by decide) q) (fun q => typ_ne b4 HZ3 (by decide) q))).cell (j := 0) rfl)))) ?_
          refine WH.take 3 rfl (by kernel_rfl) (by kernel_rfl) (by kernel_rfl) (fun _ _ _ _ _ h => h) rfl rfl rfl HW (RH.load rfl rfl (fun W hW => (ql_int _ _ _ ((b6b.fr hW (fun e => e.elim (fun q => by have := hvs _ q; omega) (fun q => typ_ne b6b HZ3 (by decide) q))).cell (j := 0) rfl)))) ?_
          refine WH.take 4 rfl (by kernel_rfl) (by kernel_rfl) (by kernel_rfl) (fun _ _ _ _ _ h => h) rfl rfl rfl HW (RH.index rfl rfl rfl (fun W => (qi_s_s_int _ _ _ _ _ _ (by omega)))) ?_
          refine WH.take 6 rfl (by kernel_rfl) (by kernel_rfl) (by kernel_rfl) (fun _ _ _ _ _ h => h) rfl rfl rfl HW (RH.field rfl rfl (fun W => qa_flow_effect_0 W _ _)) ?_
          refine WH.take 7 rfl (by kernel_rfl) (by kernel_rfl) (by kernel_rfl) (fun _ _ _ _ _ h => h) rfl rfl rfl HW (RH.load rfl rfl (fun W hW => (ql_int _ _ _ ((b10.fr hW (fun e => e.elim (fun q => Row.apart_typ hrS b10 (by decide) q) (fun q => typ_ne b10 HZ3 (by decide) q))).cell (j := 0) rfl)))) ?_
          refine WH.two 5 8 (by kernel_rfl) rfl rfl ?_ ?_ 
          · skip
            refine WL.ld rfl rfl rfl rfl rfl (ld_si _ _ _ (by first | exact hS.cell hj2 | exact (hS.fr0 (fr_al (Fr.refl (fun _ => False) _) _)).cell hj2) ⟨_, _, _, hsv⟩) ?_
            refine WL.fin HW ?_
            refine WH.one 8 (by kernel_rfl) rfl ?_ 
            refine O.bsl rfl rfl rfl rfl rfl (qv_s_int_1 _ _) ?_
            refine WL.fin (fr_al HW _) ?_
            refine WH.one 9 (by kernel_rfl) rfl ?_ 
            have hrS2 := hS.hr j hj2
            rw [tabG_set hj2] at hrS2
            refine WL.append rfl rfl rfl rfl rfl rfl (Ints.app (defF (L.getD x.1 inn0)) _ hrS2 (by omega) (by rw [List.length_map]; omega)) ?_
            rintro v7 w7 ⟨hV7, hF7, ho7⟩
            replace HW := HW.trans' hF7 (fun q hq e => .inl e)
            have hI7 := hI.frO hF7 hrS2 (by decide) (by decide)
            have hO7 := hO.frO hF7 hrS2 (by decide) (by decide)
            -- world w7
            refine WL.fin HW ?_
            refine WH.take 10 rfl (by kernel_rfl) (by kernel_rfl) (by kernel_rfl) (fun _ _ _ _ _ h => h) rfl rfl rfl HW (RH.index rfl rfl rfl (fun W => (qi_s_s_int _ _ _ _ _ _ (by omega)))) ?_
            refine WH.one 11 (by kernel_rfl) rfl ?_ 
            refine O.storeR rfl rfl rfl rfl rfl (hS.put (by decide) st_si hj2 hV7 hF7 ho7) ?_
            rintro w8 ⟨hS8, hF8⟩
            replace HW := HW.trans' hF8 (fun q hq e => .inr e)
            refine WL.fin HW ?_
            obtain ⟨cS7, hcS7⟩ : ∃ z, w7.heap[wm.heap.size]? = some (.cells z 34 (0, 0)) := by obtain ⟨c9, h9⟩ := hS.hs.typ _ rfl; exact ⟨c9, (hF7.block _ (Array.getElem?_eq_some_iff.1 h9).1 (fun q => Row.apart_typ hrS2 h9 (by decide) q)).trans h9⟩
            have hI8 := hI7.frB hF8 hcS7 (by decide) (by decide)
            have hO8 := hO7.frB hF8 hcS7 (by decide) (by decide)
            have c1 := (bx1.frO hF7 hrS2 (by decide)).frT hF8 hcS7 (by decide)
            have c2 := (bx2.frO hF7 hrS2 (by decide)).frT hF8 hcS7 (by decide)
            have c4 := (bx4.frO hF7 hrS2 (by decide)).frT hF8 hcS7 (by decide)
            have c5 := (bx5.fr hF7 (fun q => by have := hvs _ q; omega)).frT hF8 hcS7 (by decide)
            have ck := (hbk.frO hF7 hrS2 (by decide)).frT hF8 hcS7 (by decide)
            have m7 := (hM.fr hF7 (fun d hd q => hM.own hrS2 d hd q)).fr hF8 (fun d hd e => ((hM.fr hF7 (fun d hd q => hM.own hrS2 d hd q)).ne hcS7 d hd) e)
            have f8 := (ff.trans' hF7 (fun q hq e => by have := hvs _ e; omega)).trans' hF8 (fun q hq e => by omega)
            have k8 := (hK.trans (keepsR hF7 hrS2)).trans (keepsF hF8 (fun k e => by subst e; exact ⟨_, _, _, hcS7⟩))
            rw [List.set_set] at hS8
            refine WH.end (by kernel_rfl) ?_
            refine Xw.nblk ?_
            refine fun a k => (?_ : _ ∧ _ ∧ _)
            refine ⟨k8.from _, fun _ => ⟨ck, f8⟩, vss.set j v7, ⟨ck, f8⟩, c1, c2, c4, c5, ?_, hO8, ?_, m7, Nat.le_trans hz (Nat.le_trans hF7.size hF8.size), fun q hq => ?_, by rw [List.length_append, List.length_singleton]; omega, fun k h1 h2 => ?_⟩
            · rw [List.foldl_append]; exact hI8
            · rw [List.map_append]; exact hS8
            · rw [getD_setV _ _ _ _ _ (by rw [hS.hl]; exact hj2), if_pos rfl] at hq
              rcases ho7 q hq with h4 | h4
              · exact hvs q h4
              · have := hz; omega
            · rw [getD_setV _ _ _ _ _ (by rw [hS.hl]; exact hj2), if_neg (by omega)]; exact hnl k h1 h2
          · skip
            refine O.bsl rfl rfl rfl rfl rfl (qv_s_int_1 _ _) ?_
            refine WL.fin (fr_al HW _) ?_
            refine WH.one 5 (by kernel_rfl) rfl ?_ 
            refine WL.ld rfl rfl rfl rfl rfl (ld_si _ _ _ (by first | exact hS.cell hj2 | exact (hS.fr0 (fr_al (Fr.refl (fun _ => False) _) _)).cell hj2) ⟨_, _, _, hsv⟩) ?_
            refine WL.fin (fr_al HW _) ?_
            refine WH.one 9 (by kernel_rfl) rfl ?_ 
            have hrS2 := hS.hr j hj2
            rw [tabG_set hj2] at hrS2
            refine WL.append rfl rfl rfl rfl rfl rfl (Ints.app (defF (L.getD x.1 inn0)) _ hrS2 (by omega) (by rw [List.length_map]; omega)) ?_
            rintro v7 w7 ⟨hV7, hF7, ho7⟩
            replace HW := HW.trans' hF7 (fun q hq e => .inl e)
            have hI7 := hI.frO hF7 hrS2 (by decide) (by decide)
            have hO7 := hO.frO hF7 hrS2 (by decide) (by decide)
            -- world w7
            refine WL.fin HW ?_
            refine WH.take 10 rfl (by kernel_rfl) (by kernel_rfl) (by kernel_rfl) (fun _ _ _ _ _ h => h) rfl rfl rfl HW (RH.index rfl rfl rfl (fun W => (qi_s_s_int _ _ _ _ _ _ (by omega)))) ?_
            refine WH.one 11 (by kernel_rfl) rfl ?_ 
            refine O.storeR rfl rfl rfl rfl rfl (hS.put (by decide) st_si hj2 hV7 hF7 ho7) ?_
            rintro w8 ⟨hS8, hF8⟩
            replace HW := HW.trans' hF8 (fun q hq e => .inr e)
            refine WL.fin HW ?_
            obtain ⟨cS7, hcS7⟩ : ∃ z, w7.heap[wm.heap.size]? = some (.cells z 34 (0, 0)) := by obtain ⟨c9, h9⟩ := hS.hs.typ _ rfl; exact ⟨c9, (hF7.block _ (Array.getElem?_eq_some_iff.1 h9).1 (fun q => Row.apart_typ hrS2 h9 (by decide) q)).trans h9⟩
            have hI8 := hI7.frB hF8 hcS7 (by decide) (by decide)
            have hO8 := hO7.frB hF8 hcS7 (by decide) (by decide)
            have c1 := (bx1.frO hF7 hrS2 (by decide)).frT hF8 hcS7 (by decide)
            have c2 := (bx2.frO hF7 hrS2 (by decide)).frT hF8 hcS7 (by decide)
            have c4 := (bx4.frO hF7 hrS2 (by decide)).frT hF8 hcS7 (by decide)
            have c5 := (bx5.fr hF7 (fun q => by have := hvs _ q; omega)).frT hF8 hcS7 (by decide)
            have ck := (hbk.frO hF7 hrS2 (by decide)).frT hF8 hcS7 (by decide)
            have m7 := (hM.fr hF7 (fun d hd q => hM.own hrS2 d hd q)).fr hF8 (fun d hd e => ((hM.fr hF7 (fun d hd q => hM.own hrS2 d hd q)).ne hcS7 d hd) e)
            have f8 := (ff.trans' hF7 (fun q hq e => by have := hvs _ e; omega)).trans' hF8 (fun q hq e => by omega)
            have k8 := (hK.trans (keepsR hF7 hrS2)).trans (keepsF hF8 (fun k e => by subst e; exact ⟨_, _, _, hcS7⟩))
            rw [List.set_set] at hS8
            refine WH.end (by kernel_rfl) ?_
            refine Xw.nblk ?_
            refine fun a k => (?_ : _ ∧ _ ∧ _)
            refine ⟨k8.from _, fun _ => ⟨ck, f8⟩, vss.set j v7, ⟨ck, f8⟩, c1, c2, c4, c5, ?_, hO8, ?_, m7, Nat.le_trans hz (Nat.le_trans hF7.size hF8.size), fun q hq => ?_, by rw [List.length_append, List.length_singleton]; omega, fun k h1 h2 => ?_⟩
            · rw [List.foldl_append]; exact hI8
            · rw [List.map_append]; exact hS8
            · rw [getD_setV _ _ _ _ _ (by rw [hS.hl]; exact hj2), if_pos rfl] at hq
              rcases ho7 q hq with h4 | h4
              · exact hvs q h4
              · have := hz; omega
            · rw [getD_setV _ _ _ _ _ (by rw [hS.hl]; exact hj2), if_neg (by omega)]; exact hnl k h1 h2
        · rintro D xs Wd hD hXs ⟨vss, ⟨hbk, ff⟩, bx1, bx2, bx4, bx5, hI, hO, hS, hM, hz, hvs, _, hnl⟩ hDd
          rw [fold_rev L rfl xs hXs] at hI
          rw [map_rev L rfl xs hXs] at hS
          have hDz := hD
          have hM2 := hM.cons (D := D) (fun d hd => by have := hmk d hd; omega) hDd
          refine Xw.nblk ?_
          refine Xw.nrm ?_
          have hrS := hS.hr j hj2
          rw [tabG_set hj2] at hrS
          obtain ⟨sa9, sc9, hsv9⟩ := Row.form hrS
          refine TW.reg ?_
          refine WL.ld rfl rfl rfl rfl rfl (ql_s_s_int _ _ _ _ _ (bx4.cell (j := 0) rfl)) ?_
          refine WL.ld rfl rfl rfl rfl rfl (ql_int _ _ _ (bx5.cell (j := 0) rfl)) ?_
          refine O.ixa rfl rfl rfl rfl rfl rfl (qi_s_s_int _ _ _ _ _ _ (by omega)) ?_
          refine WL.ld rfl rfl rfl rfl rfl (ld_si _ _ _ (hS.cell hj2) ⟨_, _, _, hsv9⟩) ?_
          refine WL.call (hr := (t_sort hrS (by simp; omega))) rfl rfl rfl rfl rfl (fun W => qk_slices_Sort_int_int W _) ?_
          rintro e wS ⟨rfl, hSo9, fB⟩
          refine ⟨_, rfl, ?_⟩
          have hI9 := hI.frO fB hrS (by decide) (by decide)
          have hO9 := hO.frO fB hrS (by decide) (by decide)
          have c1 := bx1.frO fB hrS (by decide)
          have c2 := bx2.frO fB hrS (by decide)
          have c4 := bx4.frO fB hrS (by decide)
          have m9 := hM2.fr fB (fun d hd q => hM2.own hrS d hd q)
          have f9 := ff.trans' fB (fun q hq e => by have := hvs _ e; omega)
          have hS9 := hS.inplace (by decide) hj2 hSo9 fB
          rw [List.set_set] at hS9
          have hI10 : Tbl Si 4 30 bC wS Si bs.length vi (tabG (fun k => genRow (bs.getD k bk0) R.toNat) (List.replicate R.toNat false) bs.length (j + 1)) := by rw [← tabG_succ hj2]; rw [hL] at hI9; exact hI9
          have hS10 : Tbl wm.heap.size 3 34 iC wS wm.heap.size bs.length vss (tabG (fun k => setRow (bs.getD k bk0)) [] bs.length (j + 1)) := by rw [← tabG_succ hj2]; rw [hL] at hS9; exact hS9
          refine WL.end ?_
          refine Xw.nblk ?_
          refine Xw.nrm ?_
          refine TW.reg ?_
          refine WL.op rfl rfl rfl (Go.Proofs.Ytobibplilbchfaa.M.W.quiet_bin rfl rfl rfl (fun W => qb_add_int W _ _ _ _ (by omega) (by omega))) ?_
          refine WL.op rfl rfl rfl (Go.Proofs.Ytobibplilbchfaa.M.W.quiet_move rfl rfl) ?_
          refine WL.end ?_
          refine Xw.any (fun a k => ?_)
          exact ⟨j + 1, by omega, by omega, D :: ds, vss, (by (repeat (refine Kn.cons k rfl ?_)); exact k.base), f9, c1, c2, c4, hI10, hO9, hS10, m9, (fun d hd => (List.mem_cons.1 hd).elim (fun e => by omega) (hds d)), hnl⟩
      · skip
        have hje : bs.length = j := by have := of_decide_eq_false hbj; omega
        subst hje
        refine WL.nil ?_
        refine TW.seq ?_
        refine TW.cond rfl (fun hb => by cases hb) (fun _ => ?_)
        refine TW.exit ?_
        refine Xw.thn (by simp) ?_
        refine Xw.thn (by simp) ?_
        refine Xw.hit ?_
        refine Xw.nrm ?_
        have b1 := bx1
        have b2 := bx2
        have b4 := bx4
        have hnf : ∀ (g : Nat) (z : Array Value) (t : TypeId), Bx wl g z t → 4 ≠ t → ¬∃ k, k < bs.length ∧ ((vi.getD k nilS).ownBlock = some g ∨ (vo.getD k nilS).ownBlock = some g) := fun g z t hb hne ⟨k, hk, e⟩ => e.elim (fun q => (hI.hr k hk).apart_typ hb hne q) (fun q => (hO.hr k hk).apart_typ hb hne q)
        refine TW.sregH (fun W => Fr (fun q => ∃ k, k < bs.length ∧ ((vi.getD k nilS).ownBlock = some q ∨ (vo.getD k nilS).ownBlock = some q)) wl W) (by kernel_rfl) ?_
        have fd : Fr (fun _ => False) wl wl.drew := (Fr.refl _ _).drewN 1
        have HW : Fr (fun q => ∃ k, k < bs.length ∧ ((vi.getD k nilS).ownBlock = some q ∨ (vo.getD k nilS).ownBlock = some q)) wl wl.drew := (Fr.refl _ _).drewN 1
        replace bx1 := bx1.fr fd id
        replace bx2 := bx2.fr fd id
        replace bx4 := bx4.fr fd id
        replace hI := hI.fr0 fd
        replace hO := hO.fr0 fd
        replace hS := hS.fr0 fd
        replace hM := hM.fr0 fd
        replace ff := ff.trans fd
        generalize hV : wl.drew = V6 at *
        clear hV
        refine WH.take 0 rfl (by kernel_rfl) (by kernel_rfl) (by kernel_rfl) (fun _ _ _ _ _ h => h) rfl rfl rfl HW (RH.load rfl rfl (fun W hW => qlB_api_Proc _ _ _ _ _ _ _ _ _ _ _ _ _ (b1.fr hW (hnf _ _ _ b1 (by decide))))) ?_
        refine WH.take 2 rfl (by kernel_rfl) (by kernel_rfl) (by kernel_rfl) (fun _ _ _ _ _ h => h) rfl rfl rfl HW (RH.load rfl rfl (fun W hW => (ql_s_s_int _ _ _ _ _ ((b4.fr hW (hnf _ _ _ b4 (by decide))).cell (j := 0) rfl)))) ?_
        refine WH.take 3 rfl (by kernel_rfl) (by kernel_rfl) (by kernel_rfl) (fun _ _ _ _ _ h => h) rfl rfl rfl HW (RH.load rfl rfl (fun W hW => (ql_s_s_bool _ _ _ _ _ ((b2.fr hW (hnf _ _ _ b2 (by decide))).cell (j := 0) rfl)))) ?_
        refine WH.take 4 rfl (by kernel_rfl) (by kernel_rfl) (by kernel_rfl) (fun _ _ _ _ _ h => h) rfl rfl rfl HW (RH.move rfl rfl) ?_
        refine WH.one 1 (by kernel_rfl) rfl ?_ 
        refine WL.call (hr := (t_preds nm vd pr R oa on oc ba bs bc (by omega) _ (hbl.fr ff))) rfl rfl rfl rfl rfl (fun W => qk_flow_Preds W _) ?_
        rintro e wP8 ⟨Sp, vp, rfl, hP, fP⟩
        refine ⟨_, rfl, ?_⟩
        replace bx1 := bx1.fr fP id
        replace bx2 := bx2.fr fP id
        replace bx4 := bx4.fr fP id
        replace hI := hI.fr0 fP
        replace hO := hO.fr0 fP
        replace hS := hS.fr0 fP
        replace hM := hM.fr0 fP
        replace HW := HW.trans' fP (fun q hq e => e.elim)
        replace ff := ff.trans fP
        refine WL.fin HW ?_
        refine WH.one 5 (by kernel_rfl) rfl ?_ 
        have hli : ∀ b, b < bs.length → ((tabG (fun k => genRow (bs.getD k bk0) R.toNat) (List.replicate R.toNat false) bs.length bs.length).getD b []).length = R.toNat := fun b hb => by rw [tabG_get b hb, if_pos hb]; exact genRow_len _ _
        have hlo : ∀ b, b < bs.length → ((tabG (fun k => endRow (bs.getD k bk0) R.toNat) (List.replicate R.toNat false) bs.length bs.length).getD b []).length = R.toNat := fun b hb => by rw [tabG_get b hb, if_pos hb]; exact endRow_len _ _
        have hsl : ∀ k, k < bs.length → ((tabG (fun k => setRow (bs.getD k bk0)) [] bs.length bs.length).getD k []).length ≤ 1000 ∧ ((tabG (fun k => setRow (bs.getD k bk0)) [] bs.length bs.length).getD k []).Pairwise (· ≤ ·) := fun k hk => by rw [tabG_get k hk, if_pos hk]; exact ⟨by rw [setRow_len]; exact (hins _ (getD_memB hk)).1, setRow_pair _⟩
        have hco : ∀ b r, b < bs.length → r < R.toNat → bit (tabG (fun k => endRow (bs.getD k bk0) R.toNat) (List.replicate R.toNat false) bs.length bs.length) b r = true → (r : Int) ∈ (tabG (fun k => setRow (bs.getD k bk0)) [] bs.length bs.length).getD b [] ∨ bit (tabG (fun k => genRow (bs.getD k bk0) R.toNat) (List.replicate R.toNat false) bs.length bs.length) b r = true := fun b r hb hr h => by unfold bit at h ⊢; simp only [tabG_get b hb, if_pos hb] at h ⊢; exact gen_keep _ _ _ hr h
        refine WL.call (hr := (t_spread Sp wm.heap.size Si So Sp wm.heap.size Si So bs.length R.toNat vp vss vi vo (predsJ bs bs.length 0) _ _ _ hnb (by omega) _ hP hS hI hO hvi hvo hli hlo hap (predsJ_in bs hnb) hsl hco)) rfl rfl rfl rfl rfl (fun W => qk_flow_spread W _) ?_
        rintro e wX ⟨rfl, il, ol, hI2, hO2, hli2, hlo2, hdI, hdO, fX⟩
        refine ⟨_, rfl, ?_⟩
        have hnf2 : ∀ (g : Nat) (z : Array Value) (t : TypeId), Bx wP8 g z t → 4 ≠ t → ¬∃ k, k < bs.length ∧ ((vi.getD k nilS).ownBlock = some g ∨ (vo.getD k nilS).ownBlock = some g) := fun g z t hb hne ⟨k, hk, e⟩ => e.elim (fun q => (hI.hr k hk).apart_typ hb hne q) (fun q => (hO.hr k hk).apart_typ hb hne q)
        have fX2 := fX.mono (fun q hq (e : ∃ k, k < bs.length ∧ ((vi.getD k nilS).ownBlock = some q ∨ (vo.getD k nilS).ownBlock = some q)) => e)
        replace bx2 := bx2.fr fX (hnf2 _ _ _ bx2 (by decide))
        replace hM := hM.fr fX (fun d hd ⟨k, hk, e⟩ => e.elim (fun q => hM.own (hI.hr k hk) d hd q) (fun q => hM.own (hO.hr k hk) d hd q))
        replace ff := ff.trans' fX (fun q hq ⟨k, hk, e⟩ => e.elim (fun q2 => by have := (Row.lt (hI.hr k hk) q q2).1; omega) (fun q2 => by have := (Row.lt (hO.hr k hk) q q2).1; omega))
        replace HW := HW.trans' fX (fun q hq e => e)
        replace hI := hI2
        replace hO := hO2
        refine WL.fin HW ?_
        refine WH.done (by kernel_rfl) ?_
        refine TW.sreg ?_
        refine WL.ld rfl rfl rfl rfl rfl (ql_s_s_bool _ _ _ _ _ (bx2.cell (j := 0) rfl)) ?_
        refine WL.op rfl rfl rfl (Go.Proofs.Ytobibplilbchfaa.M.W.quiet_move rfl rfl) ?_
        refine O.storeR rfl rfl rfl rfl rfl (qsA_s_s_bool wX _ _ _ _ _ bx2) ?_
        rintro wa15 ⟨fa15, bx2x⟩
        replace hI := hI.frB fa15 bx2 (by decide) (by decide)
        replace hO := hO.frB fa15 bx2 (by decide) (by decide)
        replace hM := hM.fr fa15 (fun d hd e => hM.ne bx2 d hd e)
        replace ff := ff.trans' fa15 (fun q hq e => by omega)
        clear bx2
        have bx2 := bx2x
        clear bx2x
        refine WL.op rfl rfl rfl (Go.Proofs.Ytobibplilbchfaa.M.W.quiet_assign rfl rfl) ?_
        refine WL.nil ?_
        refine TW.rt ?_
        refine O.retc2 rfl rfl rfl hM (fun wz fz => by have c0 := (bx2.fr fz.1 (fun e => (hM.ne bx2 _ e) rfl)).cell (j := 0) rfl; first | (simp [go_sem, c0]; done) | (simp [go_sem, c0]; rfl)) ?_
        rintro wz ⟨fz, ez⟩
        exact ⟨Si, So, vi, vo, il, ol, rfl, Tbl_mks hI hM fz, Tbl_mks hO hM fz, hli2, hlo2, hvi, hvo, hdI, hdO, ff.trans' fz (fun q hq e => by have := hds q e; omega)⟩
end Go.Proofs.Ytobibplilbchfaa.M
