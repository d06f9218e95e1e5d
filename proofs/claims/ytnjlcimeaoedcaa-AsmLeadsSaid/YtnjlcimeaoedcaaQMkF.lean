/-
  Items (layer 5): closed facts for the walks of the document's own assembler. Items (layer 5): the document's own stands, Number and size.
-/
import Derived.Test.YtnjlcimeaoedcaaQFr
import Derived.Test.YtnjlcimeaoedcaaQAsmB
import Derived.Test.YtnjlcimeaoedcaaQAsmM
import Derived.Test.YtnjlcimeaoedcaaQShift
namespace Go.Proofs.Ytnjlcimeaoedcaa
open Go.RowKit
set_option linter.unusedVariables false
set_option linter.unusedSimpArgs false
set_option maxRecDepth 100000
section
variable (w : World) (b o n c j : Nat)
theorem ft0 : (Instr.fieldAt 70 (.pointer (some ⟨b, o, none⟩)) 0).run Try.prog w = .ok (.pointer (some ⟨b, o, none⟩)) w := by simp [go_sem]
theorem ft1 : (Instr.fieldAt 70 (.pointer (some ⟨b, o, none⟩)) 1).run Try.prog w = .ok (.pointer (some ⟨b, o + 1, none⟩)) w := by simp [go_sem]
theorem ft2 : (Instr.fieldAt 70 (.pointer (some ⟨b, o, none⟩)) 2).run Try.prog w = .ok (.pointer (some ⟨b, o + 6, none⟩)) w := by simp [go_sem]
theorem fn0 : (Instr.fieldAt 68 (.pointer (some ⟨b, o, none⟩)) 0).run Try.prog w = .ok (.pointer (some ⟨b, o, none⟩)) w := by simp [go_sem]
theorem fn1 : (Instr.fieldAt 68 (.pointer (some ⟨b, o, none⟩)) 1).run Try.prog w = .ok (.pointer (some ⟨b, o + 1, none⟩)) w := by simp [go_sem]
theorem fn4 : (Instr.fieldAt 68 (.pointer (some ⟨b, o, none⟩)) 4).run Try.prog w = .ok (.pointer (some ⟨b, o + 4, none⟩)) w := by simp [go_sem]
theorem ixt (hj : j < n) : (Instr.indexAt 33 (.slice (some ⟨b, o, none⟩) n c) (.int .i64 (j : Int))).run Try.prog w = .ok (.pointer (some ⟨b, o + j * 7, none⟩)) w := by
  have h : (j : Int) < (n : Int) := by omega
  simp [go_sem, h, hj]
theorem ixn (hj : j < n) : (Instr.indexAt 45 (.slice (some ⟨b, o, none⟩) n c) (.int .i64 (j : Int))).run Try.prog w = .ok (.pointer (some ⟨b, o + j * 5, none⟩)) w := by
  have h : (j : Int) < (n : Int) := by omega
  simp [go_sem, h, hj]
theorem ixi (hj : j < n) : (Instr.indexAt 26 (.slice (some ⟨b, o, none⟩) n c) (.int .i64 (j : Int))).run Try.prog w = .ok (.pointer (some ⟨b, o + j, none⟩)) w := by
  have h : (j : Int) < (n : Int) := by omega
  simp [go_sem, h, hj]
theorem ixb (hj : j < n) : (Instr.indexAt 64 (.slice (some ⟨b, o, none⟩) n c) (.int .i64 (j : Int))).run Try.prog w = .ok (.pointer (some ⟨b, o + j, none⟩)) w := by
  have h : (j : Int) < (n : Int) := by omega
  simp [go_sem, h, hj]
theorem ln_t (a : Option Addr) (k l : Nat) : (Builtin.len_ #[33] 3 #[.slice a k l]).run Try.prog w = .ok (.int .i64 k) w := by simp [go_sem]
theorem ln_n (a : Option Addr) (k l : Nat) : (Builtin.len_ #[45] 3 #[.slice a k l]).run Try.prog w = .ok (.int .i64 k) w := by simp [go_sem]
theorem ln_i (a : Option Addr) (k l : Nat) : (Builtin.len_ #[26] 3 #[.slice a k l]).run Try.prog w = .ok (.int .i64 k) w := by simp [go_sem]
theorem ld_bool (p : Bool) (d : Addr) (h : w.cell? d = some (.bool p)) : (Instr.loadAt 4 (.pointer (some d))).run Try.prog w = .ok (.bool p) w := by simp [go_sem, h]
theorem ld_item (u0 u1 u2 u3 u4 u5 u6 : Value) (h0 : w.cell? ⟨b, o, none⟩ = some u0) (h1 : w.cell? ⟨b, o + 1, none⟩ = some u1) (h2 : w.cell? ⟨b, o + 2, none⟩ = some u2) (h3 : w.cell? ⟨b, o + 3, none⟩ = some u3) (h4 : w.cell? ⟨b, o + 4, none⟩ = some u4) (h5 : w.cell? ⟨b, o + 5, none⟩ = some u5) (h6 : w.cell? ⟨b, o + 6, none⟩ = some u6) : (Instr.loadAt 70 (.pointer (some ⟨b, o, none⟩))).run Try.prog w = .ok (.agg #[u0, u1, u2, u3, u4, u5, u6]) w := by simp [go_sem, h0, h1, h2, h3, h4, h5, h6]
theorem ld_inst (u1 u2 u3 u4 u5 : Value) (h1 : w.cell? ⟨b, o, none⟩ = some u1) (h2 : w.cell? ⟨b, o + 1, none⟩ = some u2) (h3 : w.cell? ⟨b, o + 2, none⟩ = some u3) (h4 : w.cell? ⟨b, o + 3, none⟩ = some u4) (h5 : w.cell? ⟨b, o + 4, none⟩ = some u5) : (Instr.loadAt 68 (.pointer (some ⟨b, o, none⟩))).run Try.prog w = .ok (.agg #[u1, u2, u3, u4, u5]) w := by simp [go_sem, h1, h2, h3, h4, h5]
end
section
variable (w : World) (x y : Operand) (m n : Int)
theorem ld_int (d : Addr) (h : w.cell? d = some (.int .i64 m)) : (Instr.loadAt 3 (.pointer (some d))).run Try.prog w = .ok (.int .i64 m) w := by simp [go_sem, h]
theorem bn_ne : (do eqGuard .neq 3 x y (.int .i64 m) (.int .i64 n); binOp .neq 3 (.int .i64 m) (.int .i64 n) : Sem Value).run Try.prog w = .ok (.bool (m != n)) w := by simp [go_sem]
theorem bn_eq : (do eqGuard .eql 3 x y (.int .i64 m) (.int .i64 n); binOp .eql 3 (.int .i64 m) (.int .i64 n) : Sem Value).run Try.prog w = .ok (.bool (m == n)) w := by simp [go_sem]
theorem bn_lt : (do eqGuard .lss 3 x y (.int .i64 m) (.int .i64 n); binOp .lss 3 (.int .i64 m) (.int .i64 n) : Sem Value).run Try.prog w = .ok (.bool (decide (m < n))) w := by simp [go_sem]
theorem bn_le : (do eqGuard .leq 3 x y (.int .i64 m) (.int .i64 n); binOp .leq 3 (.int .i64 m) (.int .i64 n) : Sem Value).run Try.prog w = .ok (.bool (decide (m ≤ n))) w := by simp [go_sem]
theorem bn_gt : (do eqGuard .gtr 3 x y (.int .i64 m) (.int .i64 n); binOp .gtr 3 (.int .i64 m) (.int .i64 n) : Sem Value).run Try.prog w = .ok (.bool (decide (n < m))) w := by simp [go_sem]
theorem bn_ge : (do eqGuard .geq 3 x y (.int .i64 m) (.int .i64 n); binOp .geq 3 (.int .i64 m) (.int .i64 n) : Sem Value).run Try.prog w = .ok (.bool (decide (n ≤ m))) w := by simp [go_sem]
theorem bn_add (h0 : -9223372036854775808 ≤ m + n) (h1 : m + n ≤ 9223372036854775807) : (do eqGuard .add 3 x y (.int .i64 m) (.int .i64 n); binOp .add 3 (.int .i64 m) (.int .i64 n) : Sem Value).run Try.prog w = .ok (.int .i64 (m + n)) w := by
  have h : IntKind.i64.wrap (m + n) = m + n := IntWalk.i64_in _ (by omega)
  simp [go_sem, h]
theorem bn_sub (h0 : -9223372036854775808 ≤ m - n) (h1 : m - n ≤ 9223372036854775807) : (do eqGuard .sub 3 x y (.int .i64 m) (.int .i64 n); binOp .sub 3 (.int .i64 m) (.int .i64 n) : Sem Value).run Try.prog w = .ok (.int .i64 (m - n)) w := by
  have h : IntKind.i64.wrap (m - n) = m - n := IntWalk.i64_in _ (by omega)
  simp [go_sem, h]
theorem bn_mul4 (h0 : -9223372036854775808 ≤ 4 * n) (h1 : 4 * n ≤ 9223372036854775807) : (do eqGuard .mul 3 x y (.int .i64 4) (.int .i64 n); binOp .mul 3 (.int .i64 4) (.int .i64 n) : Sem Value).run Try.prog w = .ok (.int .i64 (4 * n)) w := by
  have h : IntKind.i64.wrap (4 * n) = 4 * n := IntWalk.i64_in _ (by omega)
  simp [go_sem, h]
theorem bd_inst (d : Int) : (Instr.build 68 #[(0, .int .i64 m), (1, .int .i64 d), (4, .int .i64 n)]).run Try.prog w = .ok (.agg #[.int .i64 m, .int .i64 d, .int .i64 0, .int .i64 0, .int .i64 n]) w := by simp [go_sem]
theorem bd_inst4 (d r1 : Int) : (Instr.build 68 #[(0, .int .i64 m), (1, .int .i64 d), (2, .int .i64 r1), (4, .int .i64 n)]).run Try.prog w = .ok (.agg #[.int .i64 m, .int .i64 d, .int .i64 r1, .int .i64 0, .int .i64 n]) w := by simp [go_sem]
theorem bd_inst2 : (Instr.build 68 #[(0, .int .i64 m), (4, .int .i64 n)]).run Try.prog w = .ok (.agg #[.int .i64 m, .int .i64 0, .int .i64 0, .int .i64 0, .int .i64 n]) w := by simp [go_sem]
theorem bs_1 (u0 u1 u2 u3 u4 : Int) : (Instr.buildSlice 45 1 #[(0, .agg #[.int .i64 u0, .int .i64 u1, .int .i64 u2, .int .i64 u3, .int .i64 u4])]).run Try.prog w = .ok (.slice (some ⟨w.heap.size, 0, none⟩) 1 1) (w.alloc (.cells #[.int .i64 u0, .int .i64 u1, .int .i64 u2, .int .i64 u3, .int .i64 u4] 68)) := by simp [go_sem]
theorem bs_2 (u0 u1 u2 u3 u4 v0 v1 v2 v3 v4 : Int) : (Instr.buildSlice 45 2 #[(0, .agg #[.int .i64 u0, .int .i64 u1, .int .i64 u2, .int .i64 u3, .int .i64 u4]), (1, .agg #[.int .i64 v0, .int .i64 v1, .int .i64 v2, .int .i64 v3, .int .i64 v4])]).run Try.prog w = .ok (.slice (some ⟨w.heap.size, 0, none⟩) 2 2) (w.alloc (.cells #[.int .i64 u0, .int .i64 u1, .int .i64 u2, .int .i64 u3, .int .i64 u4, .int .i64 v0, .int .i64 v1, .int .i64 v2, .int .i64 v3, .int .i64 v4] 68)) := by simp [go_sem]
theorem bs_i : (Instr.buildSlice 26 1 #[(0, .int .i64 m)]).run Try.prog w = .ok (.slice (some ⟨w.heap.size, 0, none⟩) 1 1) (w.alloc (.cells #[.int .i64 m] 3)) := by simp [go_sem]
theorem bx_it (vs : Array Value) (h : vs.size = 7) : (Instr.box 70 (.agg vs)).run Try.prog w = .ok (.pointer (some ⟨w.heap.size, 0, none⟩)) (w.alloc (.cells vs 70)) := by
  simp [go_sem, h]
theorem al_it : (Instr.alloc 70 true (.tuple #[])).run Try.prog w = .ok (.pointer (some ⟨w.heap.size, 0, none⟩)) (w.alloc (.cells #[.int .i64 0, .int .i64 0, .int .i64 0, .int .i64 0, .int .i64 0, .int .i64 0, .int .i64 0] 70)) := by simp [go_sem]
theorem st_it (u0 u1 u2 u3 u4 u5 u6 : Int) : (Instr.storeAt 70 (.pointer (some ⟨w.heap.size, 0, none⟩)) (.agg #[.int .i64 u0, .int .i64 u1, .int .i64 u2, .int .i64 u3, .int .i64 u4, .int .i64 u5, .int .i64 u6])).run Try.prog (w.alloc (.cells #[.int .i64 0, .int .i64 0, .int .i64 0, .int .i64 0, .int .i64 0, .int .i64 0, .int .i64 0] 70)) = .ok () (w.alloc (.cells #[.int .i64 u0, .int .i64 u1, .int .i64 u2, .int .i64 u3, .int .i64 u4, .int .i64 u5, .int .i64 u6] 70)) := by simp [go_sem]
theorem al_in : (Instr.alloc 68 true (.tuple #[])).run Try.prog w = .ok (.pointer (some ⟨w.heap.size, 0, none⟩)) (w.alloc (.cells #[.int .i64 0, .int .i64 0, .int .i64 0, .int .i64 0, .int .i64 0] 68)) := by simp [go_sem]
theorem st_in (u0 u1 u2 u3 u4 : Int) : (Instr.storeAt 68 (.pointer (some ⟨w.heap.size, 0, none⟩)) (.agg #[.int .i64 u0, .int .i64 u1, .int .i64 u2, .int .i64 u3, .int .i64 u4])).run Try.prog (w.alloc (.cells #[.int .i64 0, .int .i64 0, .int .i64 0, .int .i64 0, .int .i64 0] 68)) = .ok () (w.alloc (.cells #[.int .i64 u0, .int .i64 u1, .int .i64 u2, .int .i64 u3, .int .i64 u4] 68)) := by simp [go_sem]
theorem st_f (z : Array Value) (t : TypeId) (k : Nat) (u : Int) (hk : k < z.size) : (Instr.storeAt 3 (.pointer (some ⟨w.heap.size, k, none⟩)) (.int .i64 u)).run Try.prog (w.alloc (.cells z t)) = .ok () (w.alloc (.cells (z.setIfInBounds k (.int .i64 u)) t)) := by
  have h : (w.alloc (.cells z t)).cell? ⟨w.heap.size, k, none⟩ = some z[k] := by
    have := fcell w z t k z[k] (by simp [hk])
    exact this
  simp [go_sem, h]
end
section
variable (w : World) (vs : Array Value)
theorem cf_num : (callFunc 13 vs).run Try.prog w = .ok (.enter 13 vs) w := by simp [go_sem]
theorem cf_cut : (callFunc 35 vs).run Try.prog w = .ok (.enter 35 vs) w := by simp [go_sem]
theorem cf_sgd : (callFunc 34 vs).run Try.prog w = .ok (.enter 34 vs) w := by simp [go_sem]
theorem cf_sgn : (callFunc 36 vs).run Try.prog w = .ok (.enter 36 vs) w := by simp [go_sem]
theorem cf_siz : (callFunc 48 vs).run Try.prog w = .ok (.enter 48 vs) w := by simp [go_sem]
theorem cf_sta : (callFunc 47 vs).run Try.prog w = .ok (.enter 47 vs) w := by simp [go_sem]
theorem cf_plc : (callFunc 26 vs).run Try.prog w = .ok (.enter 26 vs) w := by simp [go_sem]
theorem cf_may : (callFunc 24 vs).run Try.prog w = .ok (.enter 24 vs) w := by simp [go_sem]
theorem cf_far : (callFunc 25 vs).run Try.prog w = .ok (.enter 25 vs) w := by simp [go_sem]
theorem cf_ins : (callFunc 27 vs).run Try.prog w = .ok (.enter 27 vs) w := by simp [go_sem]
theorem cf_con : (callFunc 49 vs).run Try.prog w = .ok (.enter 49 vs) w := by simp [go_sem]
theorem cf_rgt : (callFunc 46 vs).run Try.prog w = .ok (.enter 46 vs) w := by simp [go_sem]
theorem cf_wrd : (callFunc 28 vs).run Try.prog w = .ok (.enter 28 vs) w := by simp [go_sem]
end
/-- The first of the first k items that defines a label; below 0: none. -/
def staN (l : List It) (n : Int) : Nat → Int
  | 0 => -1
  | k + 1 => if 0 ≤ staN l n k then staN l n k else if (l.getD k it0).k = 2 ∧ (l.getD k it0).lab = n then (k : Int) else -1
def staL (l : List It) (n : Int) : Int := staN l n l.length
theorem staN_ge (l : List It) (n : Int) : ∀ {k j : Nat}, k ≤ j → 0 ≤ staN l n k → staN l n j = staN l n k
  | k, 0, h, q => by have : k = 0 := by omega
                     rw [this]
  | k, j + 1, h, q => by
    by_cases e : k = j + 1
    · rw [e]
    · have ih := staN_ge l n (k := k) (j := j) (by omega) q
      show (if 0 ≤ staN l n j then staN l n j else _) = _
      rw [if_pos (by rw [ih]; exact q)]
      exact ih
theorem staN_in (l : List It) (n : Int) : ∀ k, -1 ≤ staN l n k ∧ staN l n k < (k : Int) ∨ k = 0 ∧ staN l n k = -1
  | 0 => .inr ⟨rfl, rfl⟩
  | k + 1 => by
    have ih := staN_in l n k
    unfold staN
    left
    split
    · omega
    · split <;> omega
set_option maxRecDepth 100000 in
theorem r_stands (l : List It) (a : Option Addr) (n c : Nat) (b : Int) (hn : n = l.length) (hfew : n ≤ 100000) (B : Nat) (w : World) (hat : ItAt B w a l) : Calls Try.prog 47 #[.slice a n c, .int .i64 b] w fun e w' => e = .returned (.int .i64 (staL l b)) ∧ w = w' := by
  refine calls_tw Try.func47 rfl rfl (Nat.le_of_ble_eq_true rfl) ?_
  refine TW.to (fun W => W = w) rfl ?_
  refine T.sub (s' := [(0, .slice a n c), (1, .int .i64 b)]) ?_ (fun a h => by (repeat (refine Kn.cons h rfl ?_)); exact h.base)
  refine T.sreg [(0, .slice a n c), (1, .int .i64 b)] ?_ ?_
  · refine W.op rfl rfl rfl (W.quiet_assign rfl rfl) ?_
    exact W.nil (fun a h => by (repeat (refine Kn.cons h rfl ?_)); exact h.base)
  refine T.seq ?_
  refine T.sreg ((5, .int .i64 ((0 : Nat) : Int)) :: [(0, .slice a n c), (1, .int .i64 b)]) ?_ ?_
  · refine W.op rfl rfl rfl (W.quiet_assign rfl rfl) ?_
    exact W.nil (fun a h => by (repeat (refine Kn.cons h rfl ?_)); exact h.base)
  refine T.block ?_
  refine T.loop (t := 5) (n := n) (fun j => (5, .int .i64 (j : Int)) :: [(0, .slice a n c), (1, .int .i64 b)]) (fun j => staN l b j = -1) (fun j => rfl) (fun a h => h) rfl ?_
  intro j hj hJ
  have Blt := fun x y W => bn_lt W x y (j : Int) (n : Int)
  refine T.seq ?_
  refine T.sreg ((9, .bool (decide ((j : Int) < (n : Int)))) :: (5, .int .i64 (j : Int)) :: [(0, .slice a n c), (1, .int .i64 b)]) ?_ ?_
  ·
    refine W.op rfl rfl rfl (W.quiet_move rfl rfl) ?_
    refine W.op rfl rfl rfl (W.quiet_move rfl rfl) ?_
    refine W.op rfl rfl rfl (W.quiet_len rfl rfl (fun W => ln_t W _ _ _)) ?_
    refine W.op rfl rfl rfl (W.quiet_bin rfl rfl rfl (by first | exact Blt _ _)) ?_
    exact W.nil (fun a h => by (repeat (refine Kn.cons h rfl ?_)); exact h.base)
  refine T.cond rfl (fun hlt => ?_) (fun hge => ?_)
  rotate_left
  · have hjn : j = n := by have := of_decide_eq_false hge; omega
    refine T.exit ?_
    repeat (with_reducible refine Xt.thn ?_)
    refine Xt.hit ?_
    refine Xt.nrm ?_
    refine T.sreg [(4, .int .i64 (-1))] ?_ (T.ret ?_)
    · refine W.op rfl rfl rfl (W.quiet_assign rfl rfl) ?_
      exact W.nil (fun a h => by (repeat (refine Kn.cons h rfl ?_)); exact h.base)
    · repeat (with_reducible first | refine Rt.thn ?_ | refine Rt.blk ?_)
      refine body_ret rfl rfl ?_
      exact fun W hW => ⟨by unfold staL; rw [← hn, ← hjn, hJ], hW.symm⟩
  have hlt' : j < n := by have := of_decide_eq_true hlt; omega
  have hs : staN l b (j + 1) = if 0 ≤ staN l b j then staN l b j else if (l.getD j it0).k = 2 ∧ (l.getD j it0).lab = b then (j : Int) else -1 := rfl
  rw [hJ] at hs
  refine T.skip ?_
  refine T.seq ?_
  refine T.block ?_
  obtain ⟨x, hx⟩ : ∃ x, l.getD j it0 = x := ⟨_, rfl⟩
  obtain ⟨g, ofs, rfl, _, c0, _, _, _, _, _, c6⟩ := hat.get (Fr.refl (fun _ => False) w) (fun _ h => h.elim) j (by omega) x hx
  rw [hx] at hs
  have IX := fun W => ixt W g ofs n c j hlt'
  have L0 : ∀ W, W = w → (Instr.loadAt 3 (.pointer (some ⟨g, ofs + j * 7, none⟩))).run Try.prog W = .ok (.int .i64 x.k) W := fun W hW => by rw [hW]; exact ld_int _ _ _ c0
  have L6 : ∀ W, W = w → (Instr.loadAt 3 (.pointer (some ⟨g, ofs + j * 7 + 6, none⟩))).run Try.prog W = .ok (.int .i64 x.lab) W := fun W hW => by rw [hW]; exact ld_int _ _ _ c6
  obtain ⟨k2, hk2⟩ : ∃ qq, (x.k == 2) = qq := ⟨_, rfl⟩
  have Bk2 : ∀ (xo yo : Operand) (W : World), (do eqGuard .eql 3 xo yo (.int .i64 x.k) (.int .i64 2); binOp .eql 3 (.int .i64 x.k) (.int .i64 2) : Sem Value).run Try.prog W = .ok (.bool k2) W := fun xo yo W => by rw [← hk2]; exact bn_eq W xo yo x.k 2
  obtain ⟨eb, heb⟩ : ∃ qq, (x.lab == b) = qq := ⟨_, rfl⟩
  have Beb : ∀ (xo yo : Operand) (W : World), (do eqGuard .eql 3 xo yo (.int .i64 x.lab) (.int .i64 b); binOp .eql 3 (.int .i64 x.lab) (.int .i64 b) : Sem Value).run Try.prog W = .ok (.bool eb) W := fun xo yo W => by rw [← heb]; exact bn_eq W xo yo x.lab b
  refine T.sreg ((26, .bool (k2 && eb)) :: (5, .int .i64 (j : Int)) :: [(0, .slice (some ⟨g, ofs, none⟩) n c), (1, .int .i64 b)]) ?_ ?_
  · cases k2 <;> cases eb
    all_goals
      refine W.op rfl rfl rfl (W.quiet_move rfl rfl) ?_
      refine W.op rfl rfl rfl (W.quiet_move rfl rfl) ?_
      refine W.op rfl rfl rfl (W.quiet_index rfl rfl rfl (by first | exact IX)) ?_
      refine W.op rfl rfl rfl (W.quiet_field rfl rfl (fun W => ft0 W _ _)) ?_
      refine W.op rfl rfl rfl (W.quiet_load rfl rfl (by first | exact L0 | exact L6)) ?_
      refine W.op rfl rfl rfl (W.quiet_bin rfl rfl rfl (by first | exact Bk2 _ _ | exact Beb _ _)) ?_
      refine W.op rfl rfl rfl (W.quiet_move rfl rfl) ?_
      first
      | refine W.skip rfl rfl rfl ?_
      | refine W.op rfl rfl rfl (W.quiet_move rfl rfl) ?_
      first
      | refine W.skip rfl rfl rfl ?_
      | refine W.op rfl rfl rfl (W.quiet_move rfl rfl) ?_
      first
      | refine W.skip rfl rfl rfl ?_
      | refine W.op rfl rfl rfl (W.quiet_index rfl rfl rfl (by first | exact IX)) ?_
      first
      | refine W.skip rfl rfl rfl ?_
      | refine W.op rfl rfl rfl (W.quiet_field rfl rfl (fun W => ft2 W _ _)) ?_
      first
      | refine W.skip rfl rfl rfl ?_
      | refine W.op rfl rfl rfl (W.quiet_load rfl rfl (by first | exact L0 | exact L6)) ?_
      first
      | refine W.skip rfl rfl rfl ?_
      | refine W.op rfl rfl rfl (W.quiet_move rfl rfl) ?_
      first
      | refine W.skip rfl rfl rfl ?_
      | refine W.op rfl rfl rfl (W.quiet_bin rfl rfl rfl (by first | exact Bk2 _ _ | exact Beb _ _)) ?_
      refine W.op rfl rfl rfl (W.quiet_pick rfl rfl rfl) ?_
      exact W.nil (fun a h => by (repeat (refine Kn.cons h rfl ?_)); exact h.base)
  refine T.cond rfl (fun hb => ?_) (fun hb => ?_)
  · refine T.sreg [(4, .int .i64 (j : Int))] ?_ (T.ret ?_)
    · refine W.op rfl rfl rfl (W.quiet_move rfl rfl) ?_
      refine W.op rfl rfl rfl (W.quiet_assign rfl rfl) ?_
      exact W.nil (fun a h => by (repeat (refine Kn.cons h rfl ?_)); exact h.base)
    · repeat (with_reducible first | refine Rt.thn ?_ | refine Rt.blk ?_)
      refine body_ret rfl rfl ?_
      have hy : x.k = 2 ∧ x.lab = b := by
        rw [← hk2, ← heb] at hb
        simpa using hb
      rw [if_neg (by omega), if_pos hy] at hs
      have hge := staN_ge l b (k := j + 1) (j := l.length) (by omega) (by rw [hs]; omega)
      exact fun W hW => ⟨by unfold staL; rw [hge, hs], hW.symm⟩
  refine T.skipx ?_
  repeat (with_reducible refine Xt.nblk ?_)
  refine Xt.nrm ?_
  have BJ := fun x y W => bn_add W x y (j : Int) 1 (by omega) (by omega)
  refine T.reg ?_
  refine W.op rfl rfl rfl (W.quiet_move rfl rfl) ?_
  refine W.op rfl rfl rfl (W.quiet_bin rfl rfl rfl (by first | exact BJ _ _)) ?_
  refine W.op rfl rfl rfl (W.quiet_assign rfl rfl) ?_
  refine W.nil (fun a h w hw => ⟨j + 1, by omega, by omega, ?_, ?_, hw⟩)
  · rw [hs, if_neg (by omega), if_neg]
    intro hy
    rw [← hk2, ← heb, hy.1, hy.2] at hb
    simp at hb
  · (repeat (refine Kn.cons h rfl ?_)); exact h.base
theorem num_pure (n : Int) : (hiW n = 0 ↔ -2048 ≤ sg (n % 4294967296) ∧ sg (n % 4294967296) ≤ 2047) ∧ (hiW n = 0 → sg (loW n) = sg (n % 4294967296)) ∧ (loW n = 0 ↔ sg (loW n) = 0) ∧ (sg (n % 4294967296) - sg (loW n)) % 4294967296 = hiW n ∧ 0 ≤ loW n ∧ loW n ≤ 4294967295 := by
  unfold hiW loW signF signN sg
  simp
  omega
def GeA (a : Option Addr) (w : World) : Prop := ∀ g o, a = some ⟨g, o, none⟩ → w.heap.size ≤ g ∧ o = 0
theorem GeA.some {b : Nat} {w : World} (h : w.heap.size ≤ b) : GeA (some ⟨b, 0, none⟩) w := fun g o e => by cases e; exact ⟨h, rfl⟩
theorem GeA.none {w : World} : GeA none w := fun g o e => by cases e
def NumE (rd n : Int) (w : World) (e : Ending) (w' : World) : Prop := ∃ a c, e = .returned (.slice a (numI rd n).length c) ∧ InAt w' a (numI rd n) ∧ Fr (fun _ => False) w w' ∧ GeA a w
theorem inAt_one (w w' : World) (t : TypeId) (i : In) (h : Fr (fun _ => False) (w.alloc (.cells #[.int .i64 i.op, .int .i64 i.rd, .int .i64 i.r1, .int .i64 i.r2, .int .i64 i.imm] t)) w') : InAt w' (some ⟨w.heap.size, 0, none⟩) [i] := fun k hk => by
  obtain rfl : k = 0 := by simpa using hk
  refine ⟨_, 0, rfl, fun j hj => ?_⟩
  rcases (show j = 0 ∨ j = 1 ∨ j = 2 ∨ j = 3 ∨ j = 4 by omega) with rfl | rfl | rfl | rfl | rfl
  all_goals exact h.cell (fcell w _ t _ _ rfl) id
theorem inAt_two (w w' : World) (t : TypeId) (i q : In) (h : Fr (fun _ => False) (w.alloc (.cells #[.int .i64 i.op, .int .i64 i.rd, .int .i64 i.r1, .int .i64 i.r2, .int .i64 i.imm, .int .i64 q.op, .int .i64 q.rd, .int .i64 q.r1, .int .i64 q.r2, .int .i64 q.imm] t)) w') : InAt w' (some ⟨w.heap.size, 0, none⟩) [i, q] := fun k hk => by
  rcases (show k = 0 ∨ k = 1 by simp at hk; omega) with rfl | rfl
  all_goals
    refine ⟨_, 0, rfl, fun j hj => ?_⟩
    rcases (show j = 0 ∨ j = 1 ∨ j = 2 ∨ j = 3 ∨ j = 4 by omega) with rfl | rfl | rfl | rfl | rfl
    all_goals exact h.cell (fcell w _ t _ _ rfl) id
set_option maxRecDepth 100000 in
theorem r_number (rd n : Int) (h0 : -2147483648 ≤ n) (h1 : n ≤ 4294967295) (w : World) : Calls Try.prog 13 #[.int .i64 rd, .int .i64 n] w (NumE rd n w) := by
  obtain ⟨p1, p2, p3, p4, p5, p6⟩ := num_pure n
  have hc : 0 ≤ n % 4294967296 ∧ n % 4294967296 ≤ 4294967295 := by omega
  have hh : 0 ≤ hiW n ∧ hiW n ≤ 4294967295 := by unfold hiW; omega
  have K1 : ∀ W, W = w → Calls Try.prog 35 #[.int .i64 n] W fun e w' => e = .returned (.int .u32 (n % 4294967296)) ∧ w' = w := fun W hW => (c35 n (by omega) (by omega) W).mono fun e w' q => ⟨q.1, by rw [← q.2, hW]⟩
  have K2 : ∀ W, W = w → Calls Try.prog 34 #[.int .u32 (n % 4294967296)] W fun e w' => e = .returned (.int .i64 (sg (n % 4294967296))) ∧ w' = w := fun W hW => (c34 _ hc.1 hc.2 W).mono fun e w' q => ⟨q.1, by rw [← q.2, hW]⟩
  have K3 : ∀ W, W = w → Calls Try.prog 36 #[.int .u32 (n % 4294967296), .int .i64 12] W fun e w' => e = .returned (.int .u32 (loW n)) ∧ w' = w := fun W hW => (c36 _ 12 hc.1 hc.2 W).mono fun e w' q => ⟨q.1, by rw [← q.2, hW]⟩
  have K4 : ∀ W, W = w → Calls Try.prog 34 #[.int .u32 (loW n)] W fun e w' => e = .returned (.int .i64 (sg (loW n))) ∧ w' = w := fun W hW => (c34 _ p5 p6 W).mono fun e w' q => ⟨q.1, by rw [← q.2, hW]⟩
  have s1 : -2147483648 ≤ sg (n % 4294967296) ∧ sg (n % 4294967296) ≤ 2147483647 := by unfold sg; split <;> omega
  have s2 : -2147483648 ≤ sg (loW n) ∧ sg (loW n) ≤ 2147483647 := by unfold sg; split <;> omega
  have K5 : ∀ W, W = w → Calls Try.prog 35 #[.int .i64 (sg (n % 4294967296) - sg (loW n))] W fun e w' => e = .returned (.int .u32 (hiW n)) ∧ w' = w := fun W hW => (c35 _ (by omega) (by omega) W).mono fun e w' q => ⟨by rw [q.1, p4], by rw [← q.2, hW]⟩
  have K6 : ∀ W, W = w → Calls Try.prog 34 #[.int .u32 (hiW n)] W fun e w' => e = .returned (.int .i64 (sg (hiW n))) ∧ w' = w := fun W hW => (c34 _ hh.1 hh.2 W).mono fun e w' q => ⟨q.1, by rw [← q.2, hW]⟩
  have BS := fun x y W => bn_sub W x y (sg (n % 4294967296)) (sg (loW n)) (by omega) (by omega)
  have HN : numI rd n = if hiW n = 0 then [⟨19, rd, 0, 0, sg (loW n)⟩] else if loW n = 0 then [⟨1, rd, 0, 0, sg (hiW n)⟩] else [⟨1, rd, 0, 0, sg (hiW n)⟩, ⟨19, rd, rd, 0, sg (loW n)⟩] := rfl
  generalize n % 4294967296 = N at *
  generalize sg N = S at *
  generalize hLE : sg (loW n) = L at *
  generalize hHE : sg (hiW n) = H at *
  obtain ⟨ge, hge⟩ : ∃ qq, (decide (-2048 ≤ S)) = qq := ⟨_, rfl⟩
  have Bge : ∀ (xo yo : Operand) (W : World), (do eqGuard .geq 3 xo yo (.int .i64 S) (.int .i64 (-2048)); binOp .geq 3 (.int .i64 S) (.int .i64 (-2048)) : Sem Value).run Try.prog W = .ok (.bool ge) W := fun xo yo W => by rw [← hge]; exact bn_ge W xo yo S (-2048)
  obtain ⟨le, hle⟩ : ∃ qq, (decide (S ≤ 2047)) = qq := ⟨_, rfl⟩
  have Ble : ∀ (xo yo : Operand) (W : World), (do eqGuard .leq 3 xo yo (.int .i64 S) (.int .i64 2047); binOp .leq 3 (.int .i64 S) (.int .i64 2047) : Sem Value).run Try.prog W = .ok (.bool le) W := fun xo yo W => by rw [← hle]; exact bn_le W xo yo S 2047
  obtain ⟨z, hz_⟩ : ∃ qq, (L == 0) = qq := ⟨_, rfl⟩
  have Bz : ∀ (xo yo : Operand) (W : World), (do eqGuard .eql 3 xo yo (.int .i64 L) (.int .i64 0); binOp .eql 3 (.int .i64 L) (.int .i64 0) : Sem Value).run Try.prog W = .ok (.bool z) W := fun xo yo W => by rw [← hz_]; exact bn_eq W xo yo L 0
  refine calls_tw Try.func13 rfl rfl (Nat.le_of_ble_eq_true rfl) ?_
  refine TW.to (fun W => W = w) rfl ?_
  refine T.sub (s' := [(0, .int .i64 rd), (1, .int .i64 n)]) ?_ (fun a h => by (repeat (refine Kn.cons h rfl ?_)); exact h.base)
  refine T.sreg [(0, .int .i64 rd), (1, .int .i64 n)] ?_ ?_
  · refine W.op rfl rfl rfl (W.quiet_assign rfl rfl) ?_
    exact W.nil (fun a h => by (repeat (refine Kn.cons h rfl ?_)); exact h.base)
  refine T.sreg [(0, .int .i64 rd), (1, .int .i64 n), (5, .int .i64 S)] ?_ ?_
  ·
    refine W.op rfl rfl rfl (W.quiet_move rfl rfl) ?_
    first
    | refine W.op rfl rfl rfl (W.quiet_call (hr := K1) rfl rfl (fun W => cf_cut W _)) ?_
    | refine W.op rfl rfl rfl (W.quiet_call (hr := K5) rfl rfl (fun W => cf_cut W _)) ?_
    first
    | refine W.op rfl rfl rfl (W.quiet_call (hr := K2) rfl rfl (fun W => cf_sgd W _)) ?_
    | refine W.op rfl rfl rfl (W.quiet_call (hr := K4) rfl rfl (fun W => cf_sgd W _)) ?_
    | refine W.op rfl rfl rfl (W.quiet_call (hr := K6) rfl rfl (fun W => cf_sgd W _)) ?_
    refine W.op rfl rfl rfl (W.quiet_assign rfl rfl) ?_
    exact W.nil (fun a h => by (repeat (refine Kn.cons h rfl ?_)); exact h.base)
  refine T.seq ?_
  refine T.sreg ((16, .bool (ge && le)) :: [(0, .int .i64 rd), (1, .int .i64 n), (5, .int .i64 S)]) ?_ ?_
  · cases ge <;> cases le
    all_goals
      refine W.op rfl rfl rfl (W.quiet_move rfl rfl) ?_
      refine W.op rfl rfl rfl (W.quiet_bin rfl rfl rfl (by first | exact Bge _ _ | exact Ble _ _ | exact Bz _ _ | exact BS _ _)) ?_
      refine W.op rfl rfl rfl (W.quiet_move rfl rfl) ?_
      first
      | refine W.skip rfl rfl rfl ?_
      | refine W.op rfl rfl rfl (W.quiet_move rfl rfl) ?_
      first
      | refine W.skip rfl rfl rfl ?_
      | refine W.op rfl rfl rfl (W.quiet_bin rfl rfl rfl (by first | exact Bge _ _ | exact Ble _ _ | exact Bz _ _ | exact BS _ _)) ?_
      refine W.op rfl rfl rfl (W.quiet_pick rfl rfl rfl) ?_
      exact W.nil (fun a h => by (repeat (refine Kn.cons h rfl ?_)); exact h.base)
  refine T.cond rfl (fun hb => ?_) (fun hb => ?_)
  · have hz : hiW n = 0 := p1.2 (by rw [← hge, ← hle] at hb; simpa using hb)
    rw [if_pos hz] at HN
    refine T.tw fun w2 hw2 => ?_
    subst hw2
    refine TW.sreg ?_
    refine WL.op rfl rfl rfl (W.quiet_move rfl rfl) ?_
    refine WL.op rfl rfl rfl (W.quiet_move rfl rfl) ?_
    refine WL.gen rfl rfl rfl (fun e h _ => by simp only [execOp, List.map_toArray, List.map_cons, List.map_nil, h (.const (.int .i64 19)) _ rfl, h (.tmp 17) _ rfl, h (.tmp 18) _ rfl, Sem.run_bind, bd_inst, Result.andThen_ok, Sem.run_pure]; rfl) ?_
    refine WL.bslice rfl rfl rfl rfl rfl (bs_1 _ _ _ _ _ _) ?_
    refine WL.op rfl rfl rfl (W.quiet_assign rfl rfl) ?_
    refine WL.nil ?_
    refine TW.rt ?_
    repeat (with_reducible refine Xw.thn (by simp) ?_)
    refine bodyw_ret rfl rfl ?_
    refine ⟨some ⟨w2.heap.size, 0, none⟩, 1, ?_, ?_, fr_al (Fr.refl _ _) _, GeA.some (Nat.le_refl _)⟩
    · rw [HN]; rfl
    · rw [HN, p2 hz]; exact inAt_one _ _ _ ⟨19, rd, 0, 0, S⟩ (Fr.refl _ _)
  have hz : ¬hiW n = 0 := fun q => by have := p1.1 q; rw [← hge, ← hle] at hb; simp at hb; omega
  rw [if_neg hz] at HN
  refine T.skip ?_
  refine T.sreg [(0, .int .i64 rd), (5, .int .i64 S), (6, .int .i64 L)] ?_ ?_
  ·
    refine W.op rfl rfl rfl (W.quiet_move rfl rfl) ?_
    first
    | refine W.op rfl rfl rfl (W.quiet_call (hr := K1) rfl rfl (fun W => cf_cut W _)) ?_
    | refine W.op rfl rfl rfl (W.quiet_call (hr := K5) rfl rfl (fun W => cf_cut W _)) ?_
    refine W.op rfl rfl rfl (W.quiet_call (hr := K3) rfl rfl (fun W => cf_sgn W _)) ?_
    first
    | refine W.op rfl rfl rfl (W.quiet_call (hr := K2) rfl rfl (fun W => cf_sgd W _)) ?_
    | refine W.op rfl rfl rfl (W.quiet_call (hr := K4) rfl rfl (fun W => cf_sgd W _)) ?_
    | refine W.op rfl rfl rfl (W.quiet_call (hr := K6) rfl rfl (fun W => cf_sgd W _)) ?_
    refine W.op rfl rfl rfl (W.quiet_assign rfl rfl) ?_
    exact W.nil (fun a h => by (repeat (refine Kn.cons h rfl ?_)); exact h.base)
  refine T.sreg [(0, .int .i64 rd), (6, .int .i64 L), (7, .int .i64 H)] ?_ ?_
  ·
    refine W.op rfl rfl rfl (W.quiet_move rfl rfl) ?_
    refine W.op rfl rfl rfl (W.quiet_move rfl rfl) ?_
    refine W.op rfl rfl rfl (W.quiet_bin rfl rfl rfl (by first | exact Bge _ _ | exact Ble _ _ | exact Bz _ _ | exact BS _ _)) ?_
    first
    | refine W.op rfl rfl rfl (W.quiet_call (hr := K1) rfl rfl (fun W => cf_cut W _)) ?_
    | refine W.op rfl rfl rfl (W.quiet_call (hr := K5) rfl rfl (fun W => cf_cut W _)) ?_
    first
    | refine W.op rfl rfl rfl (W.quiet_call (hr := K2) rfl rfl (fun W => cf_sgd W _)) ?_
    | refine W.op rfl rfl rfl (W.quiet_call (hr := K4) rfl rfl (fun W => cf_sgd W _)) ?_
    | refine W.op rfl rfl rfl (W.quiet_call (hr := K6) rfl rfl (fun W => cf_sgd W _)) ?_
    refine W.op rfl rfl rfl (W.quiet_assign rfl rfl) ?_
    exact W.nil (fun a h => by (repeat (refine Kn.cons h rfl ?_)); exact h.base)
  refine T.seq ?_
  refine T.sreg ((31, .bool z) :: [(0, .int .i64 rd), (6, .int .i64 L), (7, .int .i64 H)]) ?_ ?_
  ·
    refine W.op rfl rfl rfl (W.quiet_move rfl rfl) ?_
    refine W.op rfl rfl rfl (W.quiet_bin rfl rfl rfl (by first | exact Bge _ _ | exact Ble _ _ | exact Bz _ _ | exact BS _ _)) ?_
    exact W.nil (fun a h => by (repeat (refine Kn.cons h rfl ?_)); exact h.base)
  refine T.cond rfl (fun hb => ?_) (fun hb => ?_)
  · have hy : loW n = 0 := p3.2 (by rw [← hz_] at hb; simpa using hb)
    rw [if_pos hy] at HN
    refine T.tw fun w2 hw2 => ?_
    subst hw2
    refine TW.sreg ?_
    refine WL.op rfl rfl rfl (W.quiet_move rfl rfl) ?_
    refine WL.op rfl rfl rfl (W.quiet_move rfl rfl) ?_
    refine WL.gen rfl rfl rfl (fun e h _ => by simp only [execOp, List.map_toArray, List.map_cons, List.map_nil, h (.const (.int .i64 1)) _ rfl, h (.tmp 32) _ rfl, h (.tmp 33) _ rfl, Sem.run_bind, bd_inst, Result.andThen_ok, Sem.run_pure]; rfl) ?_
    refine WL.bslice rfl rfl rfl rfl rfl (bs_1 _ _ _ _ _ _) ?_
    refine WL.op rfl rfl rfl (W.quiet_assign rfl rfl) ?_
    refine WL.nil ?_
    refine TW.rt ?_
    repeat (with_reducible refine Xw.thn (by simp) ?_)
    refine bodyw_ret rfl rfl ?_
    refine ⟨some ⟨w2.heap.size, 0, none⟩, 1, ?_, ?_, fr_al (Fr.refl _ _) _, GeA.some (Nat.le_refl _)⟩
    · rw [HN]; rfl
    · rw [HN]; exact inAt_one _ _ _ ⟨1, rd, 0, 0, H⟩ (Fr.refl _ _)
  have hy : ¬loW n = 0 := fun q => by have := p3.1 q; rw [← hz_] at hb; simp [this] at hb
  rw [if_neg hy] at HN
  refine T.skip ?_
  refine T.tw fun w2 hw2 => ?_
  subst hw2
  refine TW.sreg ?_
  refine WL.op rfl rfl rfl (W.quiet_move rfl rfl) ?_
  refine WL.op rfl rfl rfl (W.quiet_move rfl rfl) ?_
  refine WL.gen rfl rfl rfl (fun e h _ => by simp only [execOp, List.map_toArray, List.map_cons, List.map_nil, h (.const (.int .i64 1)) _ rfl, h (.tmp 36) _ rfl, h (.tmp 37) _ rfl, Sem.run_bind, bd_inst, Result.andThen_ok, Sem.run_pure]; rfl) ?_
  refine WL.op rfl rfl rfl (W.quiet_move rfl rfl) ?_
  refine WL.op rfl rfl rfl (W.quiet_move rfl rfl) ?_
  refine WL.op rfl rfl rfl (W.quiet_move rfl rfl) ?_
  refine WL.gen rfl rfl rfl (fun e h _ => by simp only [execOp, List.map_toArray, List.map_cons, List.map_nil, h (.const (.int .i64 19)) _ rfl, h (.tmp 39) _ rfl, h (.tmp 40) _ rfl, h (.tmp 41) _ rfl, Sem.run_bind, bd_inst4, Result.andThen_ok, Sem.run_pure]; rfl) ?_
  refine WL.gen rfl rfl rfl (fun e h _ => by simp only [execOp, List.map_toArray, List.map_cons, List.map_nil, h (.tmp 38) _ rfl, h (.tmp 42) _ rfl, Sem.run_bind, bs_2, Result.andThen_ok, Sem.run_pure]; rfl) ?_
  refine WL.op rfl rfl rfl (W.quiet_assign rfl rfl) ?_
  refine WL.nil ?_
  refine TW.rt ?_
  repeat (with_reducible refine Xw.thn (by simp) ?_)
  refine bodyw_ret rfl rfl ?_
  refine ⟨some ⟨w2.heap.size, 0, none⟩, 2, ?_, ?_, fr_al (Fr.refl _ _) _, GeA.some (Nat.le_refl _)⟩
  · rw [HN]; rfl
  · rw [HN]; exact inAt_two _ _ _ ⟨1, rd, 0, 0, H⟩ ⟨19, rd, rd, 0, L⟩ (Fr.refl _ _)
end Go.Proofs.Ytnjlcimeaoedcaa
