/-
  Items (layer 5): the law's padded list of items.
-/
import Derived.Test.YtnjlcimeaoedcaaQIn6
import Derived.Test.YtnjlcimeaoedcaaQAsmIa
namespace Go.Proofs.Ytnjlcimeaoedcaa
open Go.RowKit
set_option linter.unusedVariables false
set_option linter.unusedSimpArgs false
theorem infoPi : (Try.prog.info? 40).map (fun i => (i.zero, i.size, i.bytes)) = some (some (.agg #[.int .i64 0, .int .i64 0, .int .i64 0, .int .i64 0, .int .i64 0, .int .i64 0, .int .i64 0]), 7, 56) := by kernel_rfl
structure PdR (w wr : World) (v : Value) (l : List It) : Prop where
  row : wr.ownsRow w.heap.size 40 7 v l.length (vals7 l)
  fr : Fr (fun _ => False) w wr
theorem PdR.snoc {w wr w1 w2 : World} {v v' : Value} {l : List It} {x : It} (h : PdR w wr v l) (hf : Fr (fun _ => False) wr w1) (hv : w2.ownsRow w.heap.size 40 7 v' (l.length + 1) (vals7 l ++ x.vals)) (hg : w1.grownBy w2 v.ownBlock) : PdR w w2 v' (l ++ [x]) := by
  refine ⟨by rw [vals7_snoc]; simpa using hv, ?_⟩
  refine (h.fr.trans hf).trans' (Fr.of_by hg) (fun j hj e => ?_)
  have := (World.ownsRow.lt h.row j e).1
  omega
theorem padP_of {l : List It} {w w' : World} {v : Value} (h : PdR w w' v l) : RefP l w (.returned v) w' := by
  have hc := h.row
  rcases h.row.2 with ⟨rfl, hn⟩ | ⟨g, cap, cur, rfl, hb, hg, _⟩
  · exact ⟨none, 0, by rw [hn], fun k hk => by omega, h.fr⟩
  · refine ⟨some ⟨g, 0, none⟩, cap, rfl, fun k hk => ⟨g, 0, rfl, (Array.getElem?_eq_some_iff.1 hg).1, fun j hj => ?_⟩, h.fr⟩
    have h1 := itvals_get l k hk j hj
    have h2 : ∃ x, (l.getD k it0).vals[j]? = some x := ⟨_, List.getElem?_eq_getElem (by simpa [It.vals] using hj)⟩
    obtain ⟨x, h2⟩ := h2
    rw [h2] at h1 ⊢
    have := World.ownsRow.cells hc (g := g) rfl (k * 7 + j) x h1
    rw [Addr.add_lit] at this
    exact this
theorem app_item {w wr : World} {v : Value} {l : List It} (x : It) (ty : TypeId) (h : PdR w wr v l) (hl : l.length ≤ 1000000) : ∃ v' w', (Builtin.append_ #[22, 22] ty #[v, .slice (some ⟨wr.heap.size, 0, none⟩) 1 1]).run Try.prog (wr.alloc (.cells #[.int .i64 x.k, .int .i64 x.op, .int .i64 x.rd, .int .i64 x.r1, .int .i64 x.r2, .int .i64 x.imm, .int .i64 x.lab] 40)) = .ok v' w' ∧ PdR w w' v' (l ++ [x]) := by
  obtain ⟨i0, hi, hz0, hz1, hz2⟩ := info_parts infoPi
  have hsz := h.fr.size
  obtain ⟨v', w', hr, h2, h3, h4⟩ := run_append_own (P := Try.prog) (wr.alloc (.cells #[.int .i64 x.k, .int .i64 x.op, .int .i64 x.rd, .int .i64 x.r1, .int .i64 x.r2, .int .i64 x.imm, .int .i64 x.lab] 40)) w.heap.size 22 ty 40 i0 (.agg #[.int .i64 0, .int .i64 0, .int .i64 0, .int .i64 0, .int .i64 0, .int .i64 0, .int .i64 0]) 7 56 Try.underlying22 hi hz0 hz1 hz2 rfl (by decide) v l.length (vals7 l) (h.row.alloc _) ⟨wr.heap.size, 0, none⟩ 1 1 x.vals rfl (seven_cell wr _ x) (by simp [It.vals, Value.oneCell']) (by unfold maxLen; omega) (by omega) (by simp; omega)
  exact ⟨v', w', hr, PdR.snoc h (fr_al (Fr.refl _ _) _) h2 h3⟩
section
variable (w : World) (a : Option Addr) (k l : Nat)
theorem pln (w : World) (a : Option Addr) (k l : Nat) : (Builtin.len_ #[22] 3 #[.slice a k l]).run Try.prog w = .ok (.int .i64 k) w := by simp [go_sem]
theorem pbs_it (u0 u1 u2 u3 u4 u5 u6 : Int) : (Instr.buildSlice 22 1 #[(0, .agg #[.int .i64 u0, .int .i64 u1, .int .i64 u2, .int .i64 u3, .int .i64 u4, .int .i64 u5, .int .i64 u6])]).run Try.prog w = .ok (.slice (some ⟨w.heap.size, 0, none⟩) 1 1) (w.alloc (.cells #[.int .i64 u0, .int .i64 u1, .int .i64 u2, .int .i64 u3, .int .i64 u4, .int .i64 u5, .int .i64 u6] 40)) := by simp [go_sem]
theorem bd_19 : (Instr.build 38 #[(0, .int .i64 19)]).run Try.prog w = .ok (.agg #[.int .i64 19, .int .i64 0, .int .i64 0, .int .i64 0, .int .i64 0]) w := by simp [go_sem]
theorem bd_nop : (Instr.build 40 #[(0, .int .i64 1), (1, .agg #[.int .i64 19, .int .i64 0, .int .i64 0, .int .i64 0, .int .i64 0])]).run Try.prog w = .ok (.agg #[.int .i64 1, .int .i64 19, .int .i64 0, .int .i64 0, .int .i64 0, .int .i64 0, .int .i64 0]) w := by simp [go_sem]
end
def nopI : It := ⟨1, 19, 0, 0, 0, 0, 0⟩
def padC (p q : Int) (i : Nat) : Nat := if (i : Int) = p then min q.toNat 1100 else 0
def padL (l : List It) (p q : Int) : Nat → List It
  | 0 => []
  | i + 1 => padL l p q i ++ [l.getD i it0] ++ List.replicate (padC p q i) nopI
theorem padL_len (l : List It) (p q : Int) : ∀ i : Nat, (padL l p q i).length ≤ i + (if p < (i : Int) then 1100 else 0)
  | 0 => by simp [padL]
  | i + 1 => by
    have ih := padL_len l p q i
    have f : padL l p q (i + 1) = padL l p q i ++ [l.getD i it0] ++ List.replicate (padC p q i) nopI := rfl
    rw [f, List.length_append, List.length_append, List.length_replicate]
    unfold padC
    simp only [List.length_cons, List.length_nil]
    by_cases h : (i : Int) = p
    · rw [if_pos h]
      rw [if_neg (by omega)] at ih
      rw [if_pos (by omega)]
      omega
    · rw [if_neg h]
      by_cases h2 : p < (i : Int)
      · rw [if_pos h2] at ih
        rw [if_pos (by omega)]
        omega
      · rw [if_neg h2] at ih
        rw [if_neg (by omega)]
        omega
set_option maxRecDepth 100000 in
set_option maxHeartbeats 1600000 in
theorem r_padded (l : List It) (a : Option Addr) (n c : Nat) (p q : Int) (hn : n = l.length) (hfew : n ≤ 60) (w : World) (hat : ItAt w.heap.size w a l) : Calls Try.prog 6 #[.slice a n c, .int .i64 p, .int .i64 q] w (RefP (padL l p q n) w) := by
  refine calls_tw Try.func6 rfl rfl (Nat.le_of_ble_eq_true rfl) ?_
  refine TW.sreg ?_
  refine WL.op rfl rfl rfl (Go.Proofs.Ytnjlcimeaoedcaa.W.quiet_assign rfl rfl) ?_
  refine WL.nil ?_
  refine TW.sreg ?_
  refine WL.op rfl rfl rfl (Go.Proofs.Ytnjlcimeaoedcaa.W.quiet_assign rfl rfl) ?_
  refine WL.nil ?_
  refine TW.seq ?_
  refine TW.sreg ?_
  refine WL.op rfl rfl rfl (Go.Proofs.Ytnjlcimeaoedcaa.W.quiet_assign rfl rfl) ?_
  refine WL.nil ?_
  refine TW.block ?_
  refine TW.loop (t := 8) (n := n) (fun j b wr => ∃ v, Kn Try.f6.ntmps [(7, v), (8, .int .i64 ((j : Nat) : Int)), (0, .slice a n c), (1, .int .i64 p), (2, .int .i64 q)] b ∧ PdR w wr v (padL l p q j)) (fun j b wr h => by obtain ⟨_, h, _⟩ := h; exact h.has 8 _ rfl) (fun b h => ⟨_, (by (repeat (refine Kn.cons h rfl ?_)); exact h.base), ⟨World.ownsRow_nil _ _ _ _, Fr.refl _ _⟩⟩) ?_
  rintro j b wr hj ⟨v, hkn, hR⟩
  refine TW.app ?_ hkn
  clear hkn b
  have Blt := fun xo yo W => bn_lt W xo yo (j : Int) (n : Int)
  have hlen := padL_len l p q j
  have hlen2 : (padL l p q j).length ≤ 1160 := by split at hlen <;> omega
  refine TW.seq ?_
  refine TW.sreg ?_
  refine WL.op rfl rfl rfl (Go.Proofs.Ytnjlcimeaoedcaa.W.quiet_move rfl rfl) ?_
  refine WL.op rfl rfl rfl (Go.Proofs.Ytnjlcimeaoedcaa.W.quiet_move rfl rfl) ?_
  refine WL.op rfl rfl rfl (Go.Proofs.Ytnjlcimeaoedcaa.W.quiet_len rfl rfl (fun W => pln W _ _ _)) ?_
  refine WL.op rfl rfl rfl (Go.Proofs.Ytnjlcimeaoedcaa.W.quiet_bin rfl rfl rfl (Blt _ _)) ?_
  refine WL.nil ?_
  refine TW.cond rfl (fun hlt => ?_) (fun hge => ?_)
  rotate_left
  · have hjn : j = n := by have := of_decide_eq_false hge; omega
    refine TW.exit ?_
    repeat (with_reducible refine Xw.thn (by simp) ?_)
    refine Xw.hit ?_
    refine Xw.nrm ?_
    refine TW.sreg ?_
    refine WL.op rfl rfl rfl (Go.Proofs.Ytnjlcimeaoedcaa.W.quiet_move rfl rfl) ?_
    refine WL.op rfl rfl rfl (Go.Proofs.Ytnjlcimeaoedcaa.W.quiet_assign rfl rfl) ?_
    refine WL.nil ?_
    refine TW.rt ?_
    repeat (with_reducible first | refine Xw.thn (by simp) ?_ | refine Xw.rblk ?_)
    refine bodyw_ret rfl rfl ?_
    rw [← hjn]
    exact padP_of hR
  have hlt' : j < n := by have := of_decide_eq_true hlt; omega
  refine TW.skip ?_
  refine TW.seq ?_
  refine TW.block ?_
  obtain ⟨x, hx⟩ : ∃ x, l.getD j it0 = x := ⟨_, rfl⟩
  have hps : padL l p q (j + 1) = padL l p q j ++ [x] ++ List.replicate (padC p q j) nopI := by rw [← hx]; rfl
  obtain ⟨gx, ox, rfl, _, x0, x1, x2, x3, x4, x5, x6⟩ := hat.get hR.fr (fun _ h => h.elim) j (by omega) x hx
  have IXX := fun W => pix W gx ox n c j hlt'
  refine TW.sreg ?_
  refine WL.op rfl rfl rfl (Go.Proofs.Ytnjlcimeaoedcaa.W.quiet_move rfl rfl) ?_
  refine WL.op rfl rfl rfl (Go.Proofs.Ytnjlcimeaoedcaa.W.quiet_move rfl rfl) ?_
  refine WL.op rfl rfl rfl (Go.Proofs.Ytnjlcimeaoedcaa.W.quiet_move rfl rfl) ?_
  refine WL.op rfl rfl rfl (Go.Proofs.Ytnjlcimeaoedcaa.W.quiet_index rfl rfl rfl IXX) ?_
  refine WL.ld rfl rfl rfl rfl rfl (pld_item _ _ _ _ _ _ _ _ _ _ x0 x1 x2 x3 x4 x5 x6) ?_
  refine WL.bslice rfl rfl rfl rfl rfl (pbs_it _ _ _ _ _ _ _ _) ?_
  refine WL.append rfl rfl rfl rfl rfl rfl (app_item x _ hR (by omega)) (fun v1 w1 hR1 => ?_)
  refine WL.op rfl rfl rfl (Go.Proofs.Ytnjlcimeaoedcaa.W.quiet_assign rfl rfl) ?_
  refine WL.nil ?_
  clear hR x0 x1 x2 x3 x4 x5 x6 IXX hlen
  refine TW.sreg ?_
  refine WL.op rfl rfl rfl (Go.Proofs.Ytnjlcimeaoedcaa.W.quiet_assign rfl rfl) ?_
  refine WL.nil ?_
  refine TW.block ?_
  refine TW.loop (t := 9) (n := 1100) (fun k b W => ∃ v, Kn Try.f6.ntmps [(7, v), (9, .int .i64 ((k : Nat) : Int)), (8, .int .i64 ((j : Nat) : Int)), (0, .slice (some ⟨gx, ox, none⟩) n c), (1, .int .i64 p), (2, .int .i64 q)] b ∧ PdR w W v (padL l p q j ++ [x] ++ List.replicate k nopI) ∧ (k = 0 ∨ ((j : Int) = p ∧ (k : Int) ≤ q))) (fun k b wr h => by obtain ⟨_, h, _⟩ := h; exact h.has 9 _ rfl) (fun b h => ⟨_, (by (repeat (refine Kn.cons h rfl ?_)); exact h.base), by rw [List.replicate_zero, List.append_nil]; exact hR1, Or.inl rfl⟩) ?_
  clear hR1
  rintro k b W hk ⟨v, hkn, hR, hinv⟩
  refine TW.app ?_ hkn
  clear hkn b
  obtain ⟨b1, hb1⟩ : ∃ z, ((j : Int) == p) = z := ⟨_, rfl⟩
  obtain ⟨b2, hb2⟩ : ∃ z, decide ((k : Int) < q) = z := ⟨_, rfl⟩
  obtain ⟨b3, hb3⟩ : ∃ z, decide ((k : Int) < 1100) = z := ⟨_, rfl⟩
  have B1 : ∀ (xo yo : Operand) (W : World), (do eqGuard .eql 3 xo yo (.int .i64 (j : Int)) (.int .i64 p); binOp .eql 3 (.int .i64 (j : Int)) (.int .i64 p) : Sem Value).run Try.prog W = .ok (.bool b1) W := fun xo yo W => by rw [← hb1]; exact bn_eq W xo yo _ _
  have B2 : ∀ (xo yo : Operand) (W : World), (do eqGuard .lss 3 xo yo (.int .i64 (k : Int)) (.int .i64 q); binOp .lss 3 (.int .i64 (k : Int)) (.int .i64 q) : Sem Value).run Try.prog W = .ok (.bool b2) W := fun xo yo W => by rw [← hb2]; exact bn_lt W xo yo _ _
  have B3 : ∀ (xo yo : Operand) (W : World), (do eqGuard .lss 3 xo yo (.int .i64 (k : Int)) (.int .i64 1100); binOp .lss 3 (.int .i64 (k : Int)) (.int .i64 1100) : Sem Value).run Try.prog W = .ok (.bool b3) W := fun xo yo W => by rw [← hb3]; exact bn_lt W xo yo _ _
  refine TW.seq ?_
  refine TW.to (fun W' => W' = W) rfl ?_
  refine T.sreg [(34, .bool (b1 && b2 && b3)), (7, v), (9, .int .i64 ((k : Nat) : Int)), (8, .int .i64 ((j : Nat) : Int)), (0, .slice (some ⟨gx, ox, none⟩) n c), (1, .int .i64 p), (2, .int .i64 q)] ?_ ?_
  · cases b1 <;> cases b2
    all_goals
      refine Go.Proofs.Ytnjlcimeaoedcaa.W.op rfl rfl rfl (Go.Proofs.Ytnjlcimeaoedcaa.W.quiet_move rfl rfl) ?_
      refine Go.Proofs.Ytnjlcimeaoedcaa.W.op rfl rfl rfl (Go.Proofs.Ytnjlcimeaoedcaa.W.quiet_move rfl rfl) ?_
      refine Go.Proofs.Ytnjlcimeaoedcaa.W.op rfl rfl rfl (Go.Proofs.Ytnjlcimeaoedcaa.W.quiet_bin rfl rfl rfl (by first | exact B1 _ _ | exact B2 _ _ | exact B3 _ _)) ?_
      refine Go.Proofs.Ytnjlcimeaoedcaa.W.op rfl rfl rfl (Go.Proofs.Ytnjlcimeaoedcaa.W.quiet_move rfl rfl) ?_
      first | refine Go.Proofs.Ytnjlcimeaoedcaa.W.skip rfl rfl rfl ?_ | refine Go.Proofs.Ytnjlcimeaoedcaa.W.op rfl rfl rfl (Go.Proofs.Ytnjlcimeaoedcaa.W.quiet_move rfl rfl) ?_
      first | refine Go.Proofs.Ytnjlcimeaoedcaa.W.skip rfl rfl rfl ?_ | refine Go.Proofs.Ytnjlcimeaoedcaa.W.op rfl rfl rfl (Go.Proofs.Ytnjlcimeaoedcaa.W.quiet_move rfl rfl) ?_
      first | refine Go.Proofs.Ytnjlcimeaoedcaa.W.skip rfl rfl rfl ?_ | refine Go.Proofs.Ytnjlcimeaoedcaa.W.op rfl rfl rfl (Go.Proofs.Ytnjlcimeaoedcaa.W.quiet_bin rfl rfl rfl (by first | exact B1 _ _ | exact B2 _ _ | exact B3 _ _)) ?_
      refine Go.Proofs.Ytnjlcimeaoedcaa.W.op rfl rfl rfl (Go.Proofs.Ytnjlcimeaoedcaa.W.quiet_pick rfl rfl rfl) ?_
      refine Go.Proofs.Ytnjlcimeaoedcaa.W.op rfl rfl rfl (Go.Proofs.Ytnjlcimeaoedcaa.W.quiet_move rfl rfl) ?_
      first | refine Go.Proofs.Ytnjlcimeaoedcaa.W.skip rfl rfl rfl ?_ | refine Go.Proofs.Ytnjlcimeaoedcaa.W.op rfl rfl rfl (Go.Proofs.Ytnjlcimeaoedcaa.W.quiet_move rfl rfl) ?_
      first | refine Go.Proofs.Ytnjlcimeaoedcaa.W.skip rfl rfl rfl ?_ | refine Go.Proofs.Ytnjlcimeaoedcaa.W.op rfl rfl rfl (Go.Proofs.Ytnjlcimeaoedcaa.W.quiet_bin rfl rfl rfl (by first | exact B1 _ _ | exact B2 _ _ | exact B3 _ _)) ?_
      refine Go.Proofs.Ytnjlcimeaoedcaa.W.op rfl rfl rfl (Go.Proofs.Ytnjlcimeaoedcaa.W.quiet_pick rfl rfl rfl) ?_
      exact Go.Proofs.Ytnjlcimeaoedcaa.W.nil (fun a h => by (repeat (refine Kn.cons h rfl ?_)); exact h.base)
  refine T.cond rfl (fun hb => ?_) (fun hb => ?_)
  rotate_left
  · have hkc : k = padC p q j := by
      unfold padC
      rw [← hb1, ← hb2, ← hb3] at hb
      by_cases hp : (j : Int) = p
      · rw [if_pos hp]
        simp [hp] at hb
        by_cases hq : (k : Int) < q
        · have := hb hq; omega
        · omega
      · rw [if_neg hp]
        rcases hinv with h | h
        · exact h
        · exact absurd h.1 hp
    refine T.tw fun W' e => ?_
    rw [e]
    clear e W'
    refine TW.exit ?_
    repeat (with_reducible refine Xw.thn (by simp) ?_)
    refine Xw.hit ?_
    repeat (with_reducible refine Xw.nblk ?_)
    refine Xw.nrm ?_
    refine TW.reg ?_
    refine WL.op rfl rfl rfl (Go.Proofs.Ytnjlcimeaoedcaa.W.quiet_move rfl rfl) ?_
    refine WL.op rfl rfl rfl (Go.Proofs.Ytnjlcimeaoedcaa.W.quiet_bin rfl rfl rfl (fun W => bn_add W _ _ (j : Int) 1 (by omega) (by omega))) ?_
    refine WL.op rfl rfl rfl (Go.Proofs.Ytnjlcimeaoedcaa.W.quiet_assign rfl rfl) ?_
    refine WL.end ?_
    refine Xw.any fun b h => ⟨j + 1, by omega, by omega, v, (by (repeat (refine Kn.cons h rfl ?_)); exact h.base), by rw [hps, ← hkc]; exact hR⟩
  have hbb : (j : Int) = p ∧ (k : Int) < q ∧ (k : Int) < 1100 := by
    rw [← hb1, ← hb2, ← hb3] at hb
    simpa [and_assoc] using hb
  refine T.skip ?_
  refine T.tw fun W' e => ?_
  rw [e]
  clear e W'
  refine TW.seq ?_
  refine TW.block ?_
  refine TW.reg ?_
  refine WL.op rfl rfl rfl (Go.Proofs.Ytnjlcimeaoedcaa.W.quiet_move rfl rfl) ?_
  refine WL.gen rfl rfl rfl (fun e h _ => by simp only [execOp, List.map_toArray, List.map_cons, List.map_nil, h (.const (.int .i64 19)) _ rfl, Sem.run_bind, bd_19, Result.andThen_ok, Sem.run_pure]; rfl) ?_
  refine WL.gen rfl rfl rfl (fun e h _ => by simp only [execOp, List.map_toArray, List.map_cons, List.map_nil, h (.const (.int .i64 1)) _ rfl, h (.tmp 38) _ rfl, Sem.run_bind, bd_nop, Result.andThen_ok, Sem.run_pure]; rfl) ?_
  refine WL.bslice rfl rfl rfl rfl rfl (pbs_it _ _ _ _ _ _ _ _) ?_
  refine WL.append rfl rfl rfl rfl rfl rfl (app_item nopI _ hR (by simp; omega)) (fun v1 w1 hR1 => ?_)
  refine WL.op rfl rfl rfl (Go.Proofs.Ytnjlcimeaoedcaa.W.quiet_assign rfl rfl) ?_
  refine WL.end ?_
  repeat (with_reducible refine Xw.nblk ?_)
  refine Xw.nrm ?_
  refine TW.reg ?_
  refine WL.op rfl rfl rfl (Go.Proofs.Ytnjlcimeaoedcaa.W.quiet_move rfl rfl) ?_
  refine WL.op rfl rfl rfl (Go.Proofs.Ytnjlcimeaoedcaa.W.quiet_bin rfl rfl rfl (fun W => bn_add W _ _ (k : Int) 1 (by omega) (by omega))) ?_
  refine WL.op rfl rfl rfl (Go.Proofs.Ytnjlcimeaoedcaa.W.quiet_assign rfl rfl) ?_
  refine WL.end ?_
  refine Xw.any fun b h => ⟨k + 1, by omega, by omega, v1, (by (repeat (refine Kn.cons h rfl ?_)); exact h.base), by rw [List.replicate_succ', ← List.append_assoc]; exact hR1, Or.inr ⟨hbb.1, by omega⟩⟩
end Go.Proofs.Ytnjlcimeaoedcaa
