/-
  Items (layer 5): the document's own size and places.
-/
import Derived.Test.YtnjlcimeaoedcaaQMkF
import Derived.Test.YtnjlcimeaoedcaaQAsmH
namespace Go.Proofs.Ytnjlcimeaoedcaa
open Go.RowKit
set_option linter.unusedVariables false
set_option linter.unusedSimpArgs false
theorem app_int {w wr : World} {v : Value} {xs : List Int} (x : Int) (ty : TypeId) (h : Gro w wr v xs) (hl : xs.length ≤ 1000000) : ∃ v' w', (Builtin.append_ #[26, 26] ty #[v, .slice (some ⟨wr.heap.size, 0, none⟩) 1 1]).run Try.prog (wr.alloc (.cells #[.int .i64 x] 3)) = .ok v' w' ∧ Gro w w' v' (xs ++ [x]) := by
  obtain ⟨i0, hi, hz0, hz1, hz2⟩ := info_parts infoI
  have hsz := h.fr.size
  obtain ⟨v', w', hr, h2, h3, h4⟩ := run_append_own (P := Try.prog) (wr.alloc (.cells #[.int .i64 x] 3)) w.heap.size 26 ty 3 i0 (.int .i64 0) 1 8 Try.underlying26 hi hz0 hz1 hz2 rfl (by decide) v xs.length (ints xs) (h.num.alloc _) ⟨wr.heap.size, 0, none⟩ 1 1 [.int .i64 x] rfl (one_cell wr 3 (.int .i64 x)) (by simp [Value.oneCell']) (by unfold maxLen; omega) (by omega) (by simp; omega)
  exact ⟨v', w', hr, Gro.snoc h (fr_al (Fr.refl _ _) _) h2 h3⟩
def szI (x : It) (f : Bool) : Int := if x.k = 2 then 0 else if x.k = 5 then 4 * ((numI x.rd x.imm).length : Int) else if f = true then 8 else 4
set_option maxRecDepth 100000 in
theorem r_size (x : It) (f : Bool) (h0 : x.k = 5 → -2147483648 ≤ x.imm ∧ x.imm ≤ 4294967295) (w : World) : Calls Try.prog 48 #[.agg #[.int .i64 x.k, .int .i64 x.op, .int .i64 x.rd, .int .i64 x.r1, .int .i64 x.r2, .int .i64 x.imm, .int .i64 x.lab], .bool f] w fun e w' => e = .returned (.int .i64 (szI x f)) ∧ Fr (fun _ => False) w w' := by
  refine calls_tw Try.func48 rfl rfl (Nat.le_of_ble_eq_true rfl) ?_
  refine TW.sreg ?_
  refine WL.box rfl rfl rfl rfl rfl (bx_it _ _ rfl) ?_
  refine WL.op rfl rfl rfl (W.quiet_assign rfl rfl) ?_
  refine WL.nil ?_
  have F0 := fr_al (Fr.refl (fun _ => False) w) (.cells #[.int .i64 x.k, .int .i64 x.op, .int .i64 x.rd, .int .i64 x.r1, .int .i64 x.r2, .int .i64 x.imm, .int .i64 x.lab] 70)
  have CX := fun (j : Nat) (y : Value) (h : (#[.int .i64 x.k, .int .i64 x.op, .int .i64 x.rd, .int .i64 x.r1, .int .i64 x.r2, .int .i64 x.imm, .int .i64 x.lab] : Array Value)[j]? = some y) => fcell w #[.int .i64 x.k, .int .i64 x.op, .int .i64 x.rd, .int .i64 x.r1, .int .i64 x.r2, .int .i64 x.imm, .int .i64 x.lab] 70 j y h
  generalize (w.alloc (.cells #[.int .i64 x.k, .int .i64 x.op, .int .i64 x.rd, .int .i64 x.r1, .int .i64 x.r2, .int .i64 x.imm, .int .i64 x.lab] 70)) = V at *
  generalize w.heap.size = xb at *
  refine TW.to (fun W => Fr (fun _ => False) V W) (Fr.refl _ _) ?_
  refine T.sub (s' := [(1, .bool f), (2, .pointer (some ⟨xb, 0, none⟩))]) ?_ (fun a h => by (repeat (refine Kn.cons h rfl ?_)); exact h.base)
  have L0 : ∀ W, Fr (fun _ => False) V W → (Instr.loadAt 3 (.pointer (some ⟨xb, 0, none⟩))).run Try.prog W = .ok (.int .i64 x.k) W := fun W hW => ld_int _ _ _ (hW.cell (CX 0 _ rfl) id)
  have L2 : ∀ W, Fr (fun _ => False) V W → (Instr.loadAt 3 (.pointer (some ⟨xb, 0 + 1 + 1, none⟩))).run Try.prog W = .ok (.int .i64 x.rd) W := fun W hW => ld_int _ _ _ (hW.cell (CX 2 _ rfl) id)
  have L5 : ∀ W, Fr (fun _ => False) V W → (Instr.loadAt 3 (.pointer (some ⟨xb, 0 + 1 + 4, none⟩))).run Try.prog W = .ok (.int .i64 x.imm) W := fun W hW => ld_int _ _ _ (hW.cell (CX 5 _ rfl) id)
  obtain ⟨k2, hk2⟩ : ∃ qq, (x.k == 2) = qq := ⟨_, rfl⟩
  have Bk2 : ∀ (xo yo : Operand) (W : World), (do eqGuard .eql 3 xo yo (.int .i64 x.k) (.int .i64 2); binOp .eql 3 (.int .i64 x.k) (.int .i64 2) : Sem Value).run Try.prog W = .ok (.bool k2) W := fun xo yo W => by rw [← hk2]; exact bn_eq W xo yo x.k 2
  obtain ⟨k5, hk5⟩ : ∃ qq, (x.k == 5) = qq := ⟨_, rfl⟩
  have Bk5 : ∀ (xo yo : Operand) (W : World), (do eqGuard .eql 3 xo yo (.int .i64 x.k) (.int .i64 5); binOp .eql 3 (.int .i64 x.k) (.int .i64 5) : Sem Value).run Try.prog W = .ok (.bool k5) W := fun xo yo W => by rw [← hk5]; exact bn_eq W xo yo x.k 5
  have hs : szI x f = if x.k = 2 then 0 else if x.k = 5 then 4 * ((numI x.rd x.imm).length : Int) else if f = true then 8 else 4 := rfl
  refine T.seq ?_
  refine T.sreg ((7, .bool k2) :: [(1, .bool f), (2, .pointer (some ⟨xb, 0, none⟩))]) ?_ ?_
  ·
    refine W.op rfl rfl rfl (W.quiet_field rfl rfl (fun W => ft0 W _ _)) ?_
    refine W.op rfl rfl rfl (W.quiet_load rfl rfl (by first | exact L0 | exact L2 | exact L5)) ?_
    refine W.op rfl rfl rfl (W.quiet_bin rfl rfl rfl (by first | exact Bk2 _ _ | exact Bk5 _ _)) ?_
    exact W.nil (fun a h => by (repeat (refine Kn.cons h rfl ?_)); exact h.base)
  refine T.cond rfl (fun hb => ?_) (fun hb => ?_)
  ·
    refine T.sreg [(4, .int .i64 0)] ?_ (T.ret ?_)
    · refine W.op rfl rfl rfl (W.quiet_assign rfl rfl) ?_
      exact W.nil (fun a h => by (repeat (refine Kn.cons h rfl ?_)); exact h.base)
    · repeat (with_reducible first | refine Rt.thn ?_ | refine Rt.blk ?_)
      refine body_ret rfl rfl ?_
      exact fun W hW => ⟨by rw [hs, if_pos (by rw [← hk2] at hb; simpa using hb)], F0.trans hW⟩
  refine T.skip ?_
  rw [if_neg (by rw [← hk2] at hb; simpa using hb)] at hs
  refine T.seq ?_
  refine T.sreg ((10, .bool k5) :: [(1, .bool f), (2, .pointer (some ⟨xb, 0, none⟩))]) ?_ ?_
  ·
    refine W.op rfl rfl rfl (W.quiet_field rfl rfl (fun W => ft0 W _ _)) ?_
    refine W.op rfl rfl rfl (W.quiet_load rfl rfl (by first | exact L0 | exact L2 | exact L5)) ?_
    refine W.op rfl rfl rfl (W.quiet_bin rfl rfl rfl (by first | exact Bk2 _ _ | exact Bk5 _ _)) ?_
    exact W.nil (fun a h => by (repeat (refine Kn.cons h rfl ?_)); exact h.base)
  refine T.cond rfl (fun hb => ?_) (fun hb => ?_)
  · have h5 : x.k = 5 := by rw [← hk5] at hb; simpa using hb
    rw [if_pos h5] at hs
    refine T.tw fun w2 hw2 => ?_
    refine TW.sreg ?_
    refine WL.op rfl rfl rfl (W.quiet_field rfl rfl (fun W => ft1 W _ _)) ?_
    refine WL.op rfl rfl rfl (W.quiet_field rfl rfl (fun W => fn1 W _ _)) ?_
    refine WL.ld rfl rfl rfl rfl rfl (by first | exact L0 w2 hw2 | exact L2 w2 hw2 | exact L5 w2 hw2) ?_
    refine WL.op rfl rfl rfl (W.quiet_field rfl rfl (fun W => ft1 W _ _)) ?_
    refine WL.op rfl rfl rfl (W.quiet_field rfl rfl (fun W => fn4 W _ _)) ?_
    refine WL.ld rfl rfl rfl rfl rfl (by first | exact L0 w2 hw2 | exact L2 w2 hw2 | exact L5 w2 hw2) ?_
    refine WL.call (hr := r_number x.rd x.imm (h0 h5).1 (h0 h5).2 w2) rfl rfl rfl rfl rfl (fun W => cf_num W _) ?_
    rintro e w3 ⟨na, nc, rfl, _, hf3, _⟩
    refine ⟨_, rfl, ?_⟩
    have hl := numI_len x.rd x.imm
    have BM := fun xo yo W => bn_mul4 W xo yo ((numI x.rd x.imm).length : Int) (by omega) (by omega)
    refine WL.op rfl rfl rfl (W.quiet_len rfl rfl (fun W => ln_n W _ _ _)) ?_
    refine WL.op rfl rfl rfl (W.quiet_bin rfl rfl rfl (BM _ _)) ?_
    refine WL.op rfl rfl rfl (W.quiet_assign rfl rfl) ?_
    refine WL.nil ?_
    refine TW.rt ?_
    repeat (with_reducible refine Xw.thn (by simp) ?_)
    refine bodyw_ret rfl rfl ?_
    exact ⟨by rw [hs], F0.trans (hw2.trans hf3)⟩
  refine T.skip ?_
  rw [if_neg (by rw [← hk5] at hb; simpa using hb)] at hs
  refine T.seq ?_
  refine T.sreg ((20, .bool f) :: [(1, .bool f), (2, .pointer (some ⟨xb, 0, none⟩))]) ?_ ?_
  ·
    refine W.op rfl rfl rfl (W.quiet_move rfl rfl) ?_
    exact W.nil (fun a h => by (repeat (refine Kn.cons h rfl ?_)); exact h.base)
  refine T.cond rfl (fun hb => ?_) (fun hb => ?_)
  ·
    refine T.sreg [(4, .int .i64 8)] ?_ (T.ret ?_)
    · refine W.op rfl rfl rfl (W.quiet_assign rfl rfl) ?_
      exact W.nil (fun a h => by (repeat (refine Kn.cons h rfl ?_)); exact h.base)
    · repeat (with_reducible first | refine Rt.thn ?_ | refine Rt.blk ?_)
      refine body_ret rfl rfl ?_
      exact fun W hW => ⟨by rw [hs, if_pos hb], F0.trans hW⟩
  refine T.skip ?_
  refine T.sreg [(4, .int .i64 4)] ?_ (T.ret ?_)
  · refine W.op rfl rfl rfl (W.quiet_assign rfl rfl) ?_
    exact W.nil (fun a h => by (repeat (refine Kn.cons h rfl ?_)); exact h.base)
  · repeat (with_reducible first | refine Rt.thn ?_ | refine Rt.blk ?_)
    refine body_ret rfl rfl ?_
    exact fun W hW => ⟨by rw [hs, if_neg (by rw [hb]; simp)], F0.trans hW⟩
def atP (s : List Int) (k : Nat) : List Int := (List.range k).map (fun j => 4 * sumK s j)
theorem atP_len (s : List Int) (k : Nat) : (atP s k).length = k := by simp [atP]
theorem atP_succ (s : List Int) (k : Nat) : atP s (k + 1) = atP s k ++ [4 * sumK s k] := by simp [atP, List.range_succ]
set_option maxRecDepth 100000 in
set_option maxHeartbeats 1600000 in
theorem r_places (l : List It) (F : Nat → Bool) (s : List Int) (a : Option Addr) (n c gf fc : Nat) (hn : n = l.length) (hfew : n ≤ 32768) (hsl : s.length = n) (hsz : Sizes s) (hF : ∀ k, k < n → szI (l.getD k it0) (F k) = 4 * s.getD k 0) (h5 : ∀ k, k < n → (l.getD k it0).k = 5 → -2147483648 ≤ (l.getD k it0).imm ∧ (l.getD k it0).imm ≤ 4294967295) (B : Nat) (w : World) (hat : ItAt B w a l) (hrow : ∀ k, k < n → w.cell? ⟨gf, k, none⟩ = some (.bool (F k))) : Calls Try.prog 26 #[.slice a n c, .slice (some ⟨gf, 0, none⟩) n fc] w (NumP (atP s (n + 1)) w) := by
  refine calls_tw Try.func26 rfl rfl (Nat.le_of_ble_eq_true rfl) ?_
  refine TW.to (fun W => W = w) rfl ?_
  refine T.sub (s' := [(0, .slice a n c), (1, .slice (some ⟨gf, 0, none⟩) n fc)]) ?_ (fun a h => by (repeat (refine Kn.cons h rfl ?_)); exact h.base)
  refine T.sreg [(0, .slice a n c), (1, .slice (some ⟨gf, 0, none⟩) n fc)] ?_ ?_
  · refine W.op rfl rfl rfl (W.quiet_assign rfl rfl) ?_
    exact W.nil (fun a h => by (repeat (refine Kn.cons h rfl ?_)); exact h.base)
  refine T.sreg ((5, .slice none 0 0) :: [(0, .slice a n c), (1, .slice (some ⟨gf, 0, none⟩) n fc)]) ?_ ?_
  · refine W.op rfl rfl rfl (W.quiet_assign rfl rfl) ?_
    exact W.nil (fun a h => by (repeat (refine Kn.cons h rfl ?_)); exact h.base)
  refine T.sreg ((6, .int .i64 (4 * sumK s 0)) :: (5, .slice none 0 0) :: [(0, .slice a n c), (1, .slice (some ⟨gf, 0, none⟩) n fc)]) ?_ ?_
  · refine W.op rfl rfl rfl (W.quiet_assign rfl rfl) ?_
    exact W.nil (fun a h => by (repeat (refine Kn.cons h rfl ?_)); exact h.base)
  refine T.seq ?_
  refine T.sreg [(5, .slice none 0 0), (6, .int .i64 (4 * sumK s 0)), (7, .int .i64 ((0 : Nat) : Int)), (0, .slice a n c), (1, .slice (some ⟨gf, 0, none⟩) n fc)] ?_ ?_
  · refine W.op rfl rfl rfl (W.quiet_assign rfl rfl) ?_
    exact W.nil (fun a h => by (repeat (refine Kn.cons h rfl ?_)); exact h.base)
  refine T.tw fun w1 hw1 => ?_
  subst hw1
  refine TW.block ?_
  refine TW.loop (t := 7) (n := n) (fun j b wr => ∃ v, Kn Try.f26.ntmps [(5, v), (6, .int .i64 (4 * sumK s j)), (7, .int .i64 ((j : Nat) : Int)), (0, .slice a n c), (1, .slice (some ⟨gf, 0, none⟩) n fc)] b ∧ Gro w1 wr v (atP s j)) (fun j b wr h => by obtain ⟨v, h, _⟩ := h; exact h.has 7 _ rfl) (fun b h => ⟨_, h, World.ownsRow_nil _ _ _ _, Fr.refl _ _⟩) ?_
  rintro j b wr hj ⟨v, hkn, hG⟩
  refine TW.app ?_ hkn
  have hG0 := hG.fr
  have Blt := fun xo yo W => bn_lt W xo yo (j : Int) (n : Int)
  refine TW.to (fun W => W = wr) rfl ?_
  refine T.seq ?_
  refine T.sreg ((11, .bool (decide ((j : Int) < (n : Int)))) :: [(5, v), (6, .int .i64 (4 * sumK s j)), (7, .int .i64 ((j : Nat) : Int)), (0, .slice a n c), (1, .slice (some ⟨gf, 0, none⟩) n fc)]) ?_ ?_
  ·
    refine W.op rfl rfl rfl (W.quiet_move rfl rfl) ?_
    refine W.op rfl rfl rfl (W.quiet_move rfl rfl) ?_
    refine W.op rfl rfl rfl (W.quiet_len rfl rfl (fun W => ln_t W _ _ _)) ?_
    refine W.op rfl rfl rfl (W.quiet_bin rfl rfl rfl (by first | exact Blt _ _)) ?_
    exact W.nil (fun a h => by (repeat (refine Kn.cons h rfl ?_)); exact h.base)
  refine T.cond rfl (fun hlt => ?_) (fun hge => ?_)
  rotate_left
  · have hjn : j = n := by have := of_decide_eq_false hge; omega
    refine T.exit ?_
    repeat (with_reducible refine Xt.thn ?_)
    refine Xt.hit ?_
    refine Xt.nrm ?_
    refine T.tw fun w2 hw2 => ?_
    subst hw2
    refine TW.sreg ?_
    refine WL.op rfl rfl rfl (W.quiet_move rfl rfl) ?_
    refine WL.op rfl rfl rfl (W.quiet_move rfl rfl) ?_
    refine WL.bslice rfl rfl rfl rfl rfl (bs_i _ _) ?_
    refine WL.append rfl rfl rfl rfl rfl rfl (app_int _ _ hG (by rw [atP_len]; omega)) (fun v' w' hG' => ?_)
    refine WL.op rfl rfl rfl (W.quiet_assign rfl rfl) ?_
    refine WL.nil ?_
    refine TW.rt ?_
    repeat (with_reducible refine Xw.thn (by simp) ?_)
    refine bodyw_ret rfl rfl ?_
    rw [← atP_succ, hjn] at hG'
    exact ⟨_, rfl, hG'.num, hG'.fr⟩
  have hlt' : j < n := by have := of_decide_eq_true hlt; omega
  refine T.skip ?_
  refine T.seq ?_
  refine T.block ?_
  refine T.tw fun w2 hw2 => ?_
  subst hw2
  refine TW.sreg ?_
  refine WL.op rfl rfl rfl (W.quiet_move rfl rfl) ?_
  refine WL.op rfl rfl rfl (W.quiet_move rfl rfl) ?_
  refine WL.bslice rfl rfl rfl rfl rfl (bs_i _ _) ?_
  refine WL.append rfl rfl rfl rfl rfl rfl (app_int _ _ hG (by rw [atP_len]; omega)) (fun v' w3 hG' => ?_)
  refine WL.op rfl rfl rfl (W.quiet_assign rfl rfl) ?_
  refine WL.nil ?_
  rw [← atP_succ] at hG'
  obtain ⟨x, hx⟩ : ∃ x, l.getD j it0 = x := ⟨_, rfl⟩
  obtain ⟨g, ofs, rfl, _, c0, c1, c2, c3, c4, c5, c6⟩ := hat.get hG'.fr (fun _ h => h.elim) j (by omega) x hx
  have cf := hG'.fr.cell (hrow j hlt') id
  have hFj := hF j hlt'
  have h5j := h5 j hlt'
  rw [hx] at hFj h5j
  have hsum := sumK_succ (s := s) (k := j) (by omega)
  have hin := sumK_in hsz j (by omega)
  have hin2 := sumK_in hsz (j + 1) (by omega)
  refine TW.to (fun W => Fr (fun _ => False) w3 W) (Fr.refl _ _) ?_
  have IX := fun W => ixt W g ofs n c j hlt'
  have IF := fun W => ixb W gf 0 n fc j hlt'
  have LX : ∀ W, Fr (fun _ => False) w3 W → (Instr.loadAt 70 (.pointer (some ⟨g, ofs + j * 7, none⟩))).run Try.prog W = .ok (.agg #[.int .i64 x.k, .int .i64 x.op, .int .i64 x.rd, .int .i64 x.r1, .int .i64 x.r2, .int .i64 x.imm, .int .i64 x.lab]) W := fun W hW => ld_item _ _ _ _ _ _ _ _ _ _ (hW.cell c0 id) (hW.cell c1 id) (hW.cell c2 id) (hW.cell c3 id) (hW.cell c4 id) (hW.cell c5 id) (hW.cell c6 id)
  have LF : ∀ W, Fr (fun _ => False) w3 W → (Instr.loadAt 4 (.pointer (some ⟨gf, 0 + j, none⟩))).run Try.prog W = .ok (.bool (F j)) W := fun W hW => ld_bool _ _ _ (hW.cell (by rw [Nat.zero_add]; exact cf) id)
  have KS : ∀ W, Fr (fun _ => False) w3 W → Calls Try.prog 48 #[.agg #[.int .i64 x.k, .int .i64 x.op, .int .i64 x.rd, .int .i64 x.r1, .int .i64 x.r2, .int .i64 x.imm, .int .i64 x.lab], .bool (F j)] W fun e w' => e = .returned (.int .i64 (4 * s.getD j 0)) ∧ Fr (fun _ => False) w3 w' := fun W hW => (r_size x (F j) h5j W).mono fun e w' q => ⟨by rw [q.1, hFj], hW.trans q.2⟩
  have BA : ∀ (xo yo : Operand) (W : World), (do eqGuard .add 3 xo yo (.int .i64 (4 * sumK s j)) (.int .i64 (4 * s.getD j 0)); binOp .add 3 (.int .i64 (4 * sumK s j)) (.int .i64 (4 * s.getD j 0)) : Sem Value).run Try.prog W = .ok (.int .i64 (4 * sumK s (j + 1))) W := fun xo yo W => by
    have := bn_add W xo yo (4 * sumK s j) (4 * s.getD j 0) (by omega) (by omega)
    rw [this, hsum]
    congr 2
    omega
  refine T.regD (by kernel_rfl) (by kernel_rfl) (fun W hW => hW.drewN 1) ?_
  refine W.op rfl rfl rfl (W.quiet_move rfl rfl) ?_
  refine W.op rfl rfl rfl (W.quiet_move rfl rfl) ?_
  refine W.op rfl rfl rfl (W.quiet_move rfl rfl) ?_
  refine W.op rfl rfl rfl (W.quiet_index rfl rfl rfl (by first | exact IX)) ?_
  refine W.op rfl rfl rfl (W.quiet_load rfl rfl (by first | exact LX | exact LF)) ?_
  refine W.op rfl rfl rfl (W.quiet_move rfl rfl) ?_
  refine W.op rfl rfl rfl (W.quiet_move rfl rfl) ?_
  refine W.op rfl rfl rfl (W.quiet_index rfl rfl rfl (by first | exact IF)) ?_
  refine W.op rfl rfl rfl (W.quiet_load rfl rfl (by first | exact LX | exact LF)) ?_
  refine W.op rfl rfl rfl (W.quiet_call (hr := KS) rfl rfl (fun W => cf_siz W _)) ?_
  refine W.op rfl rfl rfl (W.quiet_bin rfl rfl rfl (by first | exact BA _ _)) ?_
  refine W.op rfl rfl rfl (W.quiet_assign rfl rfl) ?_
  refine W.nil (fun b h w4 hw4 => ?_)
  have h' : Kn Try.f26.ntmps [(5, v'), (6, .int .i64 (4 * sumK s (j + 1))), (7, .int .i64 ((j : Nat) : Int)), (0, .slice (some ⟨g, ofs, none⟩) n c), (1, .slice (some ⟨gf, 0, none⟩) n fc)] b := by (repeat (refine Kn.cons h rfl ?_)); exact h.base
  clear h
  revert b
  show Xw .normal _ _ [(5, v'), (6, .int .i64 (4 * sumK s (j + 1))), (7, .int .i64 ((j : Nat) : Int)), (0, .slice (some ⟨g, ofs, none⟩) n c), (1, .slice (some ⟨gf, 0, none⟩) n fc)] w4
  repeat (with_reducible refine Xw.nblk ?_)
  refine Xw.nrm ?_
  have BJ := fun xo yo W => bn_add W xo yo (j : Int) 1 (by omega) (by omega)
  refine TW.reg ?_
  refine WL.op rfl rfl rfl (W.quiet_move rfl rfl) ?_
  refine WL.op rfl rfl rfl (W.quiet_bin rfl rfl rfl (by first | exact BJ _ _)) ?_
  refine WL.op rfl rfl rfl (W.quiet_assign rfl rfl) ?_
  refine WL.end ?_
  refine Xw.any fun b h => ⟨j + 1, by omega, by omega, v', by (repeat (refine Kn.cons h rfl ?_)); exact h.base, hG'.keep hw4⟩
end Go.Proofs.Ytnjlcimeaoedcaa
