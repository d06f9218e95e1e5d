/-
  Items (layer 5): the document's own May.
-/
import Derived.Test.YtnjlcimeaoedcaaQMkB
import Derived.Test.YtnjlcimeaoedcaaQAsmIb
namespace Go.Proofs.Ytnjlcimeaoedcaa
open Go.RowKit
set_option linter.unusedVariables false
set_option linter.unusedSimpArgs false
/-- An item that defines the label of an earlier one. -/
def TwP (l : List It) (i k : Nat) : Prop := (l.getD i it0).k = 2 ∧ (l.getD k it0).k = 2 ∧ (l.getD i it0).lab = (l.getD k it0).lab
def LkP (l : List It) (i : Nat) : Prop := isTo (l.getD i it0) = true ∧ staL l (l.getD i it0).lab < 0
open Classical in
noncomputable def mayI (l : List It) : Int := if ∃ k, k < l.length ∧ rightB (l.getD k it0) = false then 1 else if ∃ i, i < l.length ∧ ∃ k, k < i ∧ TwP l i k then 6 else if ∃ i, i < l.length ∧ LkP l i then 4 else 0
theorem mayI_1 {l : List It} {k : Nat} (h : k < l.length) (q : rightB (l.getD k it0) = false) : mayI l = 1 := by unfold mayI; rw [if_pos ⟨k, h, q⟩]
theorem mayI_6 {l : List It} (h1 : ∀ k, k < l.length → rightB (l.getD k it0) = true) {i k : Nat} (h : i < l.length) (hk : k < i) (q : TwP l i k) : mayI l = 6 := by
  unfold mayI
  rw [if_neg (fun z => by obtain ⟨k, hk, e⟩ := z; rw [h1 k hk] at e; cases e), if_pos ⟨i, h, k, hk, q⟩]
theorem mayI_4 {l : List It} (h1 : ∀ k, k < l.length → rightB (l.getD k it0) = true) (h2 : ∀ i, i < l.length → ∀ k, k < i → ¬TwP l i k) {i : Nat} (h : i < l.length) (q : LkP l i) : mayI l = 4 := by
  unfold mayI
  rw [if_neg (fun z => by obtain ⟨k, hk, e⟩ := z; rw [h1 k hk] at e; cases e), if_neg (fun z => by obtain ⟨i, hi, k, hk, e⟩ := z; exact h2 i hi k hk e), if_pos ⟨i, h, q⟩]
theorem mayI_0 {l : List It} (h1 : ∀ k, k < l.length → rightB (l.getD k it0) = true) (h2 : ∀ i, i < l.length → ∀ k, k < i → ¬TwP l i k) (h3 : ∀ i, i < l.length → ¬LkP l i) : mayI l = 0 := by
  unfold mayI
  rw [if_neg (fun z => by obtain ⟨k, hk, e⟩ := z; rw [h1 k hk] at e; cases e), if_neg (fun z => by obtain ⟨i, hi, k, hk, e⟩ := z; exact h2 i hi k hk e), if_neg (fun z => by obtain ⟨i, hi, e⟩ := z; exact h3 i hi e)]
set_option maxRecDepth 100000 in
set_option maxHeartbeats 1600000 in
theorem r_may (l : List It) (a : Option Addr) (n c : Nat) (hn : n = l.length) (hfew : n ≤ 32768) (B : Nat) (w : World) (hat : ItAt B w a l) : Calls Try.prog 24 #[.slice a n c] w fun e w' => e = .returned (.int .i64 (mayI l)) ∧ Fr (fun _ => False) w w' := by
  refine calls_tw Try.func24 rfl rfl (Nat.le_of_ble_eq_true rfl) ?_
  refine TW.to (fun W => Fr (fun _ => False) w W) (Fr.refl _ _) ?_
  refine T.sub (s' := [(0, .slice a n c)]) ?_ (fun a h => by (repeat (refine Kn.cons h rfl ?_)); exact h.base)
  have B0 : ∀ (xo yo : Operand) (W : World), (do eqGuard .gtr 3 xo yo (.int .i64 (n : Int)) (.int .i64 32768); binOp .gtr 3 (.int .i64 (n : Int)) (.int .i64 32768) : Sem Value).run Try.prog W = .ok (.bool false) W := fun xo yo W => by rw [bn_gt, decide_eq_false (by omega)]
  refine T.sreg [(0, .slice a n c)] ?_ ?_
  · refine W.op rfl rfl rfl (W.quiet_assign rfl rfl) ?_
    exact W.nil (fun a h => by (repeat (refine Kn.cons h rfl ?_)); exact h.base)
  refine T.seq ?_
  refine T.sreg ((9, .bool false) :: [(0, .slice a n c)]) ?_ ?_
  ·
    refine W.op rfl rfl rfl (W.quiet_move rfl rfl) ?_
    refine W.op rfl rfl rfl (W.quiet_len rfl rfl (fun W => ln_t W _ _ _)) ?_
    refine W.op rfl rfl rfl (W.quiet_bin rfl rfl rfl (by first | exact B0 _ _)) ?_
    exact W.nil (fun a h => by (repeat (refine Kn.cons h rfl ?_)); exact h.base)
  refine T.cond rfl (fun e => by cases e) (fun _ => ?_)
  refine T.skip ?_
  refine T.seq ?_
  refine T.sreg ((3, .int .i64 ((0 : Nat) : Int)) :: [(0, .slice a n c)]) ?_ ?_
  ·
    refine W.op rfl rfl rfl (W.quiet_assign rfl rfl) ?_
    exact W.nil (fun a h => by (repeat (refine Kn.cons h rfl ?_)); exact h.base)
  refine T.block ?_
  refine T.loop (t := 3) (n := n) (fun j => (3, .int .i64 ((j : Nat) : Int)) :: [(0, .slice a n c)]) (fun j => ∀ k, k < j → rightB (l.getD k it0) = true) (fun j => rfl) (fun a h => h) (fun k hk => absurd hk (by omega)) ?_
  intro j hj hJ
  have Blt := fun xo yo W => bn_lt W xo yo (j : Int) (n : Int)
  refine T.seq ?_
  refine T.sreg ((13, .bool (decide ((j : Int) < (n : Int)))) :: (3, .int .i64 ((j : Nat) : Int)) :: [(0, .slice a n c)]) ?_ ?_
  ·
    refine W.op rfl rfl rfl (W.quiet_move rfl rfl) ?_
    refine W.op rfl rfl rfl (W.quiet_move rfl rfl) ?_
    refine W.op rfl rfl rfl (W.quiet_len rfl rfl (fun W => ln_t W _ _ _)) ?_
    refine W.op rfl rfl rfl (W.quiet_bin rfl rfl rfl (by first | exact Blt _ _)) ?_
    exact W.nil (fun a h => by (repeat (refine Kn.cons h rfl ?_)); exact h.base)
  refine T.cond rfl (fun hlt => ?_) (fun hge => ?_)
  · have hlt' : j < n := by have := of_decide_eq_true hlt; omega
    refine T.skip ?_
    refine T.seq ?_
    refine T.block ?_
    obtain ⟨x, hx⟩ : ∃ q, l.getD j it0 = q := ⟨_, rfl⟩
    obtain ⟨gx, ox, ex, _, x0, x1, x2, x3, x4, x5, x6⟩ := hat.get (Fr.refl (fun _ => False) w) (fun _ h => h.elim) j (by omega) x hx
    subst ex
    have IX := fun W => ixt W gx ox n c j hlt'
    have LX : ∀ W, Fr (fun _ => False) w W → (Instr.loadAt 70 (.pointer (some ⟨gx, ox + j * 7, none⟩))).run Try.prog W = .ok (.agg #[.int .i64 x.k, .int .i64 x.op, .int .i64 x.rd, .int .i64 x.r1, .int .i64 x.r2, .int .i64 x.imm, .int .i64 x.lab]) W := fun W hW => ld_item _ _ _ _ _ _ _ _ _ _ (hW.cell x0 id) (hW.cell x1 id) (hW.cell x2 id) (hW.cell x3 id) (hW.cell x4 id) (hW.cell x5 id) (hW.cell x6 id)
    have KR : ∀ W, Fr (fun _ => False) w W → Calls Try.prog 46 #[.agg #[.int .i64 x.k, .int .i64 x.op, .int .i64 x.rd, .int .i64 x.r1, .int .i64 x.r2, .int .i64 x.imm, .int .i64 x.lab]] W fun e w' => e = .returned (.bool (rightB x)) ∧ Fr (fun _ => False) w w' := fun W hW => (c46 x W).mono fun e w' q => ⟨q.1, hW.trans (Fr.of_grown q.2)⟩
    obtain ⟨rb, hrb⟩ : ∃ q, rightB x = q := ⟨_, rfl⟩
    rw [hrb] at KR
    refine T.sreg ((21, .bool (!rb)) :: (3, .int .i64 ((j : Nat) : Int)) :: [(0, .slice (some ⟨gx, ox, none⟩) n c)]) ?_ ?_
    ·
      refine W.op rfl rfl rfl (W.quiet_move rfl rfl) ?_
      refine W.op rfl rfl rfl (W.quiet_move rfl rfl) ?_
      refine W.op rfl rfl rfl (W.quiet_index rfl rfl rfl (by first | exact IX)) ?_
      refine W.op rfl rfl rfl (W.quiet_load rfl rfl (by first | exact LX)) ?_
      refine W.op rfl rfl rfl (W.quiet_call (hr := KR) rfl rfl (fun W => cf_rgt W _)) ?_
      refine W.op rfl rfl rfl (W.quiet_not rfl rfl) ?_
      exact W.nil (fun a h => by (repeat (refine Kn.cons h rfl ?_)); exact h.base)
    refine T.cond rfl (fun hb => ?_) (fun hb => ?_)
    ·
      refine T.sreg [(2, .int .i64 1)] ?_ (T.ret ?_)
      · refine W.op rfl rfl rfl (W.quiet_assign rfl rfl) ?_
        exact W.nil (fun a h => by (repeat (refine Kn.cons h rfl ?_)); exact h.base)
      · repeat (with_reducible first | refine Rt.thn ?_ | refine Rt.blk ?_)
        refine body_ret rfl rfl ?_
        exact fun W hW => ⟨by rw [mayI_1 (k := j) (by omega) (by rw [hx, hrb]; cases rb <;> simp_all)], hW⟩
    refine T.skipx ?_
    repeat (with_reducible refine Xt.nblk ?_)
    refine Xt.nrm ?_
    have BJ := fun xo yo W => bn_add W xo yo (j : Int) 1 (by omega) (by omega)
    refine T.reg ?_
    refine W.op rfl rfl rfl (W.quiet_move rfl rfl) ?_
    refine W.op rfl rfl rfl (W.quiet_bin rfl rfl rfl (by first | exact BJ _ _)) ?_
    refine W.op rfl rfl rfl (W.quiet_assign rfl rfl) ?_
    refine W.nil (fun a h w hw => ⟨j + 1, by omega, by omega, fun k hk => ?_, ?_, hw⟩)
    · by_cases hki : k < j
      · exact hJ k hki
      · obtain rfl : k = j := by omega
        rw [hx, hrb]
        cases rb <;> simp_all
    · (repeat (refine Kn.cons h rfl ?_)); exact h.base
  have hjn : j = n := by have := of_decide_eq_false hge; omega
  have H1 : ∀ k, k < l.length → rightB (l.getD k it0) = true := fun k hk => hJ k (by omega)
  clear hJ Blt hge
  refine T.exit ?_
  repeat (with_reducible refine Xt.thn ?_)
  refine Xt.hit ?_
  refine Xt.nrm ?_
  refine T.sub (s' := [(0, .slice a n c)]) ?_ (fun a h => by (repeat (refine Kn.cons h rfl ?_)); exact h.base)
  clear hjn hj j
  refine T.seq ?_
  refine T.sreg ((4, .int .i64 ((0 : Nat) : Int)) :: [(0, .slice a n c)]) ?_ ?_
  ·
    refine W.op rfl rfl rfl (W.quiet_assign rfl rfl) ?_
    exact W.nil (fun a h => by (repeat (refine Kn.cons h rfl ?_)); exact h.base)
  refine T.block ?_
  refine T.loop (t := 4) (n := n) (fun j => (4, .int .i64 ((j : Nat) : Int)) :: [(0, .slice a n c)]) (fun j => ∀ i, i < j → ∀ k, k < i → ¬TwP l i k) (fun j => rfl) (fun a h => h) (fun k hk => absurd hk (by omega)) ?_
  intro i hi hJ
  have Blt := fun xo yo W => bn_lt W xo yo (i : Int) (n : Int)
  refine T.seq ?_
  refine T.sreg ((25, .bool (decide ((i : Int) < (n : Int)))) :: (4, .int .i64 ((i : Nat) : Int)) :: [(0, .slice a n c)]) ?_ ?_
  ·
    refine W.op rfl rfl rfl (W.quiet_move rfl rfl) ?_
    refine W.op rfl rfl rfl (W.quiet_move rfl rfl) ?_
    refine W.op rfl rfl rfl (W.quiet_len rfl rfl (fun W => ln_t W _ _ _)) ?_
    refine W.op rfl rfl rfl (W.quiet_bin rfl rfl rfl (by first | exact Blt _ _)) ?_
    exact W.nil (fun a h => by (repeat (refine Kn.cons h rfl ?_)); exact h.base)
  refine T.cond rfl (fun hlt => ?_) (fun hge => ?_)
  · have hlt' : i < n := by have := of_decide_eq_true hlt; omega
    refine T.skip ?_
    refine T.seq ?_
    refine T.block ?_
    refine T.sreg ((5, .int .i64 ((0 : Nat) : Int)) :: (4, .int .i64 ((i : Nat) : Int)) :: [(0, .slice a n c)]) ?_ ?_
    ·
      refine W.op rfl rfl rfl (W.quiet_assign rfl rfl) ?_
      exact W.nil (fun a h => by (repeat (refine Kn.cons h rfl ?_)); exact h.base)
    refine T.block ?_
    refine T.loop (t := 5) (n := i) (fun j => (5, .int .i64 ((j : Nat) : Int)) :: (4, .int .i64 ((i : Nat) : Int)) :: [(0, .slice a n c)]) (fun j => ∀ k, k < j → ¬TwP l i k) (fun j => rfl) (fun a h => h) (fun k hk => absurd hk (by omega)) ?_
    intro j hj hK
    have Blj := fun xo yo W => bn_lt W xo yo (j : Int) (i : Int)
    refine T.seq ?_
    refine T.sreg ((30, .bool (decide ((j : Int) < (i : Int)))) :: (5, .int .i64 ((j : Nat) : Int)) :: (4, .int .i64 ((i : Nat) : Int)) :: [(0, .slice a n c)]) ?_ ?_
    ·
      refine W.op rfl rfl rfl (W.quiet_move rfl rfl) ?_
      refine W.op rfl rfl rfl (W.quiet_move rfl rfl) ?_
      refine W.op rfl rfl rfl (W.quiet_bin rfl rfl rfl (by first | exact Blj _ _)) ?_
      exact W.nil (fun a h => by (repeat (refine Kn.cons h rfl ?_)); exact h.base)
    refine T.cond rfl (fun hltj => ?_) (fun hgej => ?_)
    rotate_left
    · have hjn : j = i := by have := of_decide_eq_false hgej; omega
      refine T.exit ?_
      repeat (with_reducible refine Xt.thn ?_)
      refine Xt.hit ?_
      repeat (with_reducible refine Xt.nblk ?_)
      refine Xt.nrm ?_
      have BJ := fun xo yo W => bn_add W xo yo (i : Int) 1 (by omega) (by omega)
      refine T.reg ?_
      refine W.op rfl rfl rfl (W.quiet_move rfl rfl) ?_
      refine W.op rfl rfl rfl (W.quiet_bin rfl rfl rfl (by first | exact BJ _ _)) ?_
      refine W.op rfl rfl rfl (W.quiet_assign rfl rfl) ?_
      refine W.nil (fun a h w hw => ⟨i + 1, by omega, by omega, fun k hk => ?_, ?_, hw⟩)
      · by_cases hki : k < i
        · exact hJ k hki
        · obtain rfl : k = i := by omega
          exact fun m hm => hK m (by omega)
      · (repeat (refine Kn.cons h rfl ?_)); exact h.base
    have hltj' : j < i := by have := of_decide_eq_true hltj; omega
    refine T.skip ?_
    refine T.seq ?_
    refine T.block ?_
    obtain ⟨x, hx⟩ : ∃ q, l.getD i it0 = q := ⟨_, rfl⟩
    obtain ⟨gx, ox, ex, _, x0, x1, x2, x3, x4, x5, x6⟩ := hat.get (Fr.refl (fun _ => False) w) (fun _ h => h.elim) i (by omega) x hx
    obtain ⟨y, hy⟩ : ∃ q, l.getD j it0 = q := ⟨_, rfl⟩
    obtain ⟨gy, oy, ey, _, y0, y1, y2, y3, y4, y5, y6⟩ := hat.get (Fr.refl (fun _ => False) w) (fun _ h => h.elim) j (by omega) y hy
    subst ex
    obtain ⟨rfl, rfl⟩ : gx = gy ∧ ox = oy := by simpa using ey
    clear ey
    have IX := fun W => ixt W gx ox n c i hlt'
    have IY := fun W => ixt W gx ox n c j (by omega)
    have LX0 : ∀ W, Fr (fun _ => False) w W → (Instr.loadAt 3 (.pointer (some ⟨gx, ox + i * 7, none⟩))).run Try.prog W = .ok (.int .i64 x.k) W := fun W hW => ld_int _ _ _ (hW.cell x0 id)
    have LX6 : ∀ W, Fr (fun _ => False) w W → (Instr.loadAt 3 (.pointer (some ⟨gx, ox + i * 7 + 6, none⟩))).run Try.prog W = .ok (.int .i64 x.lab) W := fun W hW => ld_int _ _ _ (hW.cell x6 id)
    have LY0 : ∀ W, Fr (fun _ => False) w W → (Instr.loadAt 3 (.pointer (some ⟨gx, ox + j * 7, none⟩))).run Try.prog W = .ok (.int .i64 y.k) W := fun W hW => ld_int _ _ _ (hW.cell y0 id)
    have LY6 : ∀ W, Fr (fun _ => False) w W → (Instr.loadAt 3 (.pointer (some ⟨gx, ox + j * 7 + 6, none⟩))).run Try.prog W = .ok (.int .i64 y.lab) W := fun W hW => ld_int _ _ _ (hW.cell y6 id)
    obtain ⟨kx, hkx⟩ : ∃ qq, (x.k == 2) = qq := ⟨_, rfl⟩
    have Bkx : ∀ (xo yo : Operand) (W : World), (do eqGuard .eql 3 xo yo (.int .i64 x.k) (.int .i64 2); binOp .eql 3 (.int .i64 x.k) (.int .i64 2) : Sem Value).run Try.prog W = .ok (.bool kx) W := fun xo yo W => by rw [← hkx]; exact bn_eq W xo yo x.k 2
    obtain ⟨ky, hky⟩ : ∃ qq, (y.k == 2) = qq := ⟨_, rfl⟩
    have Bky : ∀ (xo yo : Operand) (W : World), (do eqGuard .eql 3 xo yo (.int .i64 y.k) (.int .i64 2); binOp .eql 3 (.int .i64 y.k) (.int .i64 2) : Sem Value).run Try.prog W = .ok (.bool ky) W := fun xo yo W => by rw [← hky]; exact bn_eq W xo yo y.k 2
    obtain ⟨el, hel⟩ : ∃ qq, (x.lab == y.lab) = qq := ⟨_, rfl⟩
    have Bel : ∀ (xo yo : Operand) (W : World), (do eqGuard .eql 3 xo yo (.int .i64 x.lab) (.int .i64 y.lab); binOp .eql 3 (.int .i64 x.lab) (.int .i64 y.lab) : Sem Value).run Try.prog W = .ok (.bool el) W := fun xo yo W => by rw [← hel]; exact bn_eq W xo yo x.lab y.lab
    have htw : (kx && ky && el) = true ↔ TwP l i j := by
      unfold TwP
      rw [hx, hy, ← hkx, ← hky, ← hel]
      simp [and_assoc]
    refine T.sregD (by kernel_rfl) (by kernel_rfl) (fun W hW => hW.drewN 1) ((59, .bool (kx && ky && el)) :: (5, .int .i64 ((j : Nat) : Int)) :: (4, .int .i64 ((i : Nat) : Int)) :: [(0, .slice (some ⟨gx, ox, none⟩) n c)]) ?_ ?_
    ·
      refine W.cut 7 ((39, .bool (kx)) :: (5, .int .i64 ((j : Nat) : Int)) :: (4, .int .i64 ((i : Nat) : Int)) :: [(0, .slice (some ⟨gx, ox, none⟩) n c)]) ?_ ?_
      · cases kx
        all_goals
          refine W.op rfl rfl rfl (W.quiet_move rfl rfl) ?_
          refine W.op rfl rfl rfl (W.quiet_move rfl rfl) ?_
          refine W.op rfl rfl rfl (W.quiet_index rfl rfl rfl (by first | exact IX | exact IY)) ?_
          refine W.op rfl rfl rfl (W.quiet_field rfl rfl (fun W => ft0 W _ _)) ?_
          refine W.op rfl rfl rfl (W.quiet_load rfl rfl (by first | exact LX0 | exact LX6 | exact LY0 | exact LY6)) ?_
          refine W.op rfl rfl rfl (W.quiet_bin rfl rfl rfl (by first | exact Bkx _ _ | exact Bky _ _ | exact Bel _ _)) ?_
          refine W.op rfl rfl rfl (W.quiet_move rfl rfl) ?_
          exact W.nil (fun a h => by (repeat (refine Kn.cons h rfl ?_)); exact h.base)
      refine W.cut 8 ((47, .bool (kx && ky)) :: (5, .int .i64 ((j : Nat) : Int)) :: (4, .int .i64 ((i : Nat) : Int)) :: [(0, .slice (some ⟨gx, ox, none⟩) n c)]) ?_ ?_
      · generalize (kx) = p at *
        cases p <;> cases ky
        all_goals
          first
          | refine W.skip rfl rfl rfl ?_
          | refine W.op rfl rfl rfl (W.quiet_move rfl rfl) ?_
          first
          | refine W.skip rfl rfl rfl ?_
          | refine W.op rfl rfl rfl (W.quiet_move rfl rfl) ?_
          first
          | refine W.skip rfl rfl rfl ?_
          | refine W.op rfl rfl rfl (W.quiet_index rfl rfl rfl (by first | exact IX | exact IY)) ?_
          first
          | refine W.skip rfl rfl rfl ?_
          | refine W.op rfl rfl rfl (W.quiet_field rfl rfl (fun W => ft0 W _ _)) ?_
          first
          | refine W.skip rfl rfl rfl ?_
          | refine W.op rfl rfl rfl (W.quiet_load rfl rfl (by first | exact LX0 | exact LX6 | exact LY0 | exact LY6)) ?_
          first
          | refine W.skip rfl rfl rfl ?_
          | refine W.op rfl rfl rfl (W.quiet_bin rfl rfl rfl (by first | exact Bkx _ _ | exact Bky _ _ | exact Bel _ _)) ?_
          refine W.op rfl rfl rfl (W.quiet_pick rfl rfl rfl) ?_
          refine W.op rfl rfl rfl (W.quiet_move rfl rfl) ?_
          exact W.nil (fun a h => by (repeat (refine Kn.cons h rfl ?_)); exact h.base)
      generalize (kx && ky) = p at *
      cases p <;> cases el
      all_goals
        first
        | refine W.skip rfl rfl rfl ?_
        | refine W.op rfl rfl rfl (W.quiet_move rfl rfl) ?_
        first
        | refine W.skip rfl rfl rfl ?_
        | refine W.op rfl rfl rfl (W.quiet_move rfl rfl) ?_
        first
        | refine W.skip rfl rfl rfl ?_
        | refine W.op rfl rfl rfl (W.quiet_index rfl rfl rfl (by first | exact IX | exact IY)) ?_
        first
        | refine W.skip rfl rfl rfl ?_
        | refine W.op rfl rfl rfl (W.quiet_field rfl rfl (fun W => ft2 W _ _)) ?_
        first
        | refine W.skip rfl rfl rfl ?_
        | refine W.op rfl rfl rfl (W.quiet_load rfl rfl (by first | exact LX0 | exact LX6 | exact LY0 | exact LY6)) ?_
        first
        | refine W.skip rfl rfl rfl ?_
        | refine W.op rfl rfl rfl (W.quiet_move rfl rfl) ?_
        first
        | refine W.skip rfl rfl rfl ?_
        | refine W.op rfl rfl rfl (W.quiet_move rfl rfl) ?_
        first
        | refine W.skip rfl rfl rfl ?_
        | refine W.op rfl rfl rfl (W.quiet_index rfl rfl rfl (by first | exact IX | exact IY)) ?_
        first
        | refine W.skip rfl rfl rfl ?_
        | refine W.op rfl rfl rfl (W.quiet_field rfl rfl (fun W => ft2 W _ _)) ?_
        first
        | refine W.skip rfl rfl rfl ?_
        | refine W.op rfl rfl rfl (W.quiet_load rfl rfl (by first | exact LX0 | exact LX6 | exact LY0 | exact LY6)) ?_
        first
        | refine W.skip rfl rfl rfl ?_
        | refine W.op rfl rfl rfl (W.quiet_bin rfl rfl rfl (by first | exact Bkx _ _ | exact Bky _ _ | exact Bel _ _)) ?_
        refine W.op rfl rfl rfl (W.quiet_pick rfl rfl rfl) ?_
        exact W.nil (fun a h => by (repeat (refine Kn.cons h rfl ?_)); exact h.base)
    refine T.cond rfl (fun hb => ?_) (fun hb => ?_)
    ·
      refine T.sreg [(2, .int .i64 6)] ?_ (T.ret ?_)
      · refine W.op rfl rfl rfl (W.quiet_assign rfl rfl) ?_
        exact W.nil (fun a h => by (repeat (refine Kn.cons h rfl ?_)); exact h.base)
      · repeat (with_reducible first | refine Rt.thn ?_ | refine Rt.blk ?_)
        refine body_ret rfl rfl ?_
        exact fun W hW => ⟨by rw [mayI_6 H1 (i := i) (k := j) (by omega) hltj' (htw.1 hb)], hW⟩
    refine T.skipx ?_
    repeat (with_reducible refine Xt.nblk ?_)
    refine Xt.nrm ?_
    have BJ := fun xo yo W => bn_add W xo yo (j : Int) 1 (by omega) (by omega)
    refine T.reg ?_
    refine W.op rfl rfl rfl (W.quiet_move rfl rfl) ?_
    refine W.op rfl rfl rfl (W.quiet_bin rfl rfl rfl (by first | exact BJ _ _)) ?_
    refine W.op rfl rfl rfl (W.quiet_assign rfl rfl) ?_
    refine W.nil (fun a h w hw => ⟨j + 1, by omega, by omega, fun k hk => ?_, ?_, hw⟩)
    · by_cases hki : k < j
      · exact hK k hki
      · obtain rfl : k = j := by omega
        exact fun q => by rw [htw.2 q] at hb; cases hb
    · (repeat (refine Kn.cons h rfl ?_)); exact h.base
  have hin : i = n := by have := of_decide_eq_false hge; omega
  have H2 : ∀ i, i < l.length → ∀ k, k < i → ¬TwP l i k := fun k hk => hJ k (by omega)
  clear hJ Blt hge
  refine T.exit ?_
  repeat (with_reducible refine Xt.thn ?_)
  refine Xt.hit ?_
  refine Xt.nrm ?_
  refine T.sub (s' := [(0, .slice a n c)]) ?_ (fun a h => by (repeat (refine Kn.cons h rfl ?_)); exact h.base)
  clear hin hi i
  refine T.seq ?_
  refine T.sreg ((6, .int .i64 ((0 : Nat) : Int)) :: [(0, .slice a n c)]) ?_ ?_
  ·
    refine W.op rfl rfl rfl (W.quiet_assign rfl rfl) ?_
    exact W.nil (fun a h => by (repeat (refine Kn.cons h rfl ?_)); exact h.base)
  refine T.block ?_
  refine T.loop (t := 6) (n := n) (fun j => (6, .int .i64 ((j : Nat) : Int)) :: [(0, .slice a n c)]) (fun j => ∀ i, i < j → ¬LkP l i) (fun j => rfl) (fun a h => h) (fun k hk => absurd hk (by omega)) ?_
  intro i hi hJ
  have Blt := fun xo yo W => bn_lt W xo yo (i : Int) (n : Int)
  refine T.seq ?_
  refine T.sreg ((63, .bool (decide ((i : Int) < (n : Int)))) :: (6, .int .i64 ((i : Nat) : Int)) :: [(0, .slice a n c)]) ?_ ?_
  ·
    refine W.op rfl rfl rfl (W.quiet_move rfl rfl) ?_
    refine W.op rfl rfl rfl (W.quiet_move rfl rfl) ?_
    refine W.op rfl rfl rfl (W.quiet_len rfl rfl (fun W => ln_t W _ _ _)) ?_
    refine W.op rfl rfl rfl (W.quiet_bin rfl rfl rfl (by first | exact Blt _ _)) ?_
    exact W.nil (fun a h => by (repeat (refine Kn.cons h rfl ?_)); exact h.base)
  refine T.cond rfl (fun hlt => ?_) (fun hge => ?_)
  rotate_left
  · have hin : i = n := by have := of_decide_eq_false hge; omega
    refine T.exit ?_
    repeat (with_reducible refine Xt.thn ?_)
    refine Xt.hit ?_
    refine Xt.nrm ?_
    refine T.sreg [(2, .int .i64 0)] ?_ (T.ret ?_)
    · refine W.op rfl rfl rfl (W.quiet_assign rfl rfl) ?_
      exact W.nil (fun a h => by (repeat (refine Kn.cons h rfl ?_)); exact h.base)
    · repeat (with_reducible first | refine Rt.thn ?_ | refine Rt.blk ?_)
      refine body_ret rfl rfl ?_
      exact fun W hW => ⟨by rw [mayI_0 H1 H2 (fun k hk => hJ k (by omega))], hW⟩
  have hlt' : i < n := by have := of_decide_eq_true hlt; omega
  refine T.skip ?_
  refine T.seq ?_
  refine T.block ?_
  obtain ⟨x, hx⟩ : ∃ q, l.getD i it0 = q := ⟨_, rfl⟩
  obtain ⟨gx, ox, ex, _, x0, x1, x2, x3, x4, x5, x6⟩ := hat.get (Fr.refl (fun _ => False) w) (fun _ h => h.elim) i (by omega) x hx
  subst ex
  have IX := fun W => ixt W gx ox n c i hlt'
  have LX0 : ∀ W, Fr (fun _ => False) w W → (Instr.loadAt 3 (.pointer (some ⟨gx, ox + i * 7, none⟩))).run Try.prog W = .ok (.int .i64 x.k) W := fun W hW => ld_int _ _ _ (hW.cell x0 id)
  have LX6 : ∀ W, Fr (fun _ => False) w W → (Instr.loadAt 3 (.pointer (some ⟨gx, ox + i * 7 + 6, none⟩))).run Try.prog W = .ok (.int .i64 x.lab) W := fun W hW => ld_int _ _ _ (hW.cell x6 id)
  have KS : ∀ W, Fr (fun _ => False) w W → Calls Try.prog 47 #[.slice (some ⟨gx, ox, none⟩) n c, .int .i64 x.lab] W fun e w' => e = .returned (.int .i64 (staL l x.lab)) ∧ Fr (fun _ => False) w w' := fun W hW => (r_stands l _ n c x.lab hn (by omega) B W (hat.fr hW (fun _ h => h.elim))).mono fun e w' q => ⟨q.1, by rw [← q.2]; exact hW⟩
  obtain ⟨st, hst⟩ : ∃ q, staL l x.lab = q := ⟨_, rfl⟩
  rw [hst] at KS
  obtain ⟨k3, hk3⟩ : ∃ qq, (x.k == 3) = qq := ⟨_, rfl⟩
  have Bk3 : ∀ (xo yo : Operand) (W : World), (do eqGuard .eql 3 xo yo (.int .i64 x.k) (.int .i64 3); binOp .eql 3 (.int .i64 x.k) (.int .i64 3) : Sem Value).run Try.prog W = .ok (.bool k3) W := fun xo yo W => by rw [← hk3]; exact bn_eq W xo yo x.k 3
  obtain ⟨k4, hk4⟩ : ∃ qq, (x.k == 4) = qq := ⟨_, rfl⟩
  have Bk4 : ∀ (xo yo : Operand) (W : World), (do eqGuard .eql 3 xo yo (.int .i64 x.k) (.int .i64 4); binOp .eql 3 (.int .i64 x.k) (.int .i64 4) : Sem Value).run Try.prog W = .ok (.bool k4) W := fun xo yo W => by rw [← hk4]; exact bn_eq W xo yo x.k 4
  obtain ⟨ng, hng⟩ : ∃ qq, (decide (st < 0)) = qq := ⟨_, rfl⟩
  have Bng : ∀ (xo yo : Operand) (W : World), (do eqGuard .lss 3 xo yo (.int .i64 st) (.int .i64 0); binOp .lss 3 (.int .i64 st) (.int .i64 0) : Sem Value).run Try.prog W = .ok (.bool ng) W := fun xo yo W => by rw [← hng]; exact bn_lt W xo yo st 0
  have hlk : ((k3 || k4) && ng) = true ↔ LkP l i := by
    unfold LkP isTo
    rw [hx, hst, ← hk3, ← hk4, ← hng]
    simp
  refine T.sreg ((89, .bool ((k3 || k4) && ng)) :: (6, .int .i64 ((i : Nat) : Int)) :: [(0, .slice (some ⟨gx, ox, none⟩) n c)]) ?_ ?_
  ·
    refine W.cut 7 ((72, .bool (k3)) :: (6, .int .i64 ((i : Nat) : Int)) :: [(0, .slice (some ⟨gx, ox, none⟩) n c)]) ?_ ?_
    · cases k3
      all_goals
        refine W.op rfl rfl rfl (W.quiet_move rfl rfl) ?_
        refine W.op rfl rfl rfl (W.quiet_move rfl rfl) ?_
        refine W.op rfl rfl rfl (W.quiet_index rfl rfl rfl (by first | exact IX)) ?_
        refine W.op rfl rfl rfl (W.quiet_field rfl rfl (fun W => ft0 W _ _)) ?_
        refine W.op rfl rfl rfl (W.quiet_load rfl rfl (by first | exact LX0 | exact LX6)) ?_
        refine W.op rfl rfl rfl (W.quiet_bin rfl rfl rfl (by first | exact Bk3 _ _ | exact Bk4 _ _ | exact Bng _ _)) ?_
        refine W.op rfl rfl rfl (W.quiet_move rfl rfl) ?_
        exact W.nil (fun a h => by (repeat (refine Kn.cons h rfl ?_)); exact h.base)
    refine W.cut 8 ((80, .bool (k3 || k4)) :: (6, .int .i64 ((i : Nat) : Int)) :: [(0, .slice (some ⟨gx, ox, none⟩) n c)]) ?_ ?_
    · generalize (k3) = p at *
      cases p <;> cases k4
      all_goals
        first
        | refine W.skip rfl rfl rfl ?_
        | refine W.op rfl rfl rfl (W.quiet_move rfl rfl) ?_
        first
        | refine W.skip rfl rfl rfl ?_
        | refine W.op rfl rfl rfl (W.quiet_move rfl rfl) ?_
        first
        | refine W.skip rfl rfl rfl ?_
        | refine W.op rfl rfl rfl (W.quiet_index rfl rfl rfl (by first | exact IX)) ?_
        first
        | refine W.skip rfl rfl rfl ?_
        | refine W.op rfl rfl rfl (W.quiet_field rfl rfl (fun W => ft0 W _ _)) ?_
        first
        | refine W.skip rfl rfl rfl ?_
        | refine W.op rfl rfl rfl (W.quiet_load rfl rfl (by first | exact LX0 | exact LX6)) ?_
        first
        | refine W.skip rfl rfl rfl ?_
        | refine W.op rfl rfl rfl (W.quiet_bin rfl rfl rfl (by first | exact Bk3 _ _ | exact Bk4 _ _ | exact Bng _ _)) ?_
        refine W.op rfl rfl rfl (W.quiet_pick rfl rfl rfl) ?_
        refine W.op rfl rfl rfl (W.quiet_move rfl rfl) ?_
        exact W.nil (fun a h => by (repeat (refine Kn.cons h rfl ?_)); exact h.base)
    generalize (k3 || k4) = p at *
    cases p <;> cases ng
    all_goals
      first
      | refine W.skip rfl rfl rfl ?_
      | refine W.op rfl rfl rfl (W.quiet_move rfl rfl) ?_
      first
      | refine W.skip rfl rfl rfl ?_
      | refine W.op rfl rfl rfl (W.quiet_move rfl rfl) ?_
      first
      | refine W.skip rfl rfl rfl ?_
      | refine W.op rfl rfl rfl (W.quiet_move rfl rfl) ?_
      first
      | refine W.skip rfl rfl rfl ?_
      | refine W.op rfl rfl rfl (W.quiet_index rfl rfl rfl (by first | exact IX)) ?_
      first
      | refine W.skip rfl rfl rfl ?_
      | refine W.op rfl rfl rfl (W.quiet_field rfl rfl (fun W => ft2 W _ _)) ?_
      first
      | refine W.skip rfl rfl rfl ?_
      | refine W.op rfl rfl rfl (W.quiet_load rfl rfl (by first | exact LX0 | exact LX6)) ?_
      first
      | refine W.skip rfl rfl rfl ?_
      | refine W.op rfl rfl rfl (W.quiet_call (hr := KS) rfl rfl (fun W => cf_sta W _)) ?_
      first
      | refine W.skip rfl rfl rfl ?_
      | refine W.op rfl rfl rfl (W.quiet_bin rfl rfl rfl (by first | exact Bk3 _ _ | exact Bk4 _ _ | exact Bng _ _)) ?_
      refine W.op rfl rfl rfl (W.quiet_pick rfl rfl rfl) ?_
      exact W.nil (fun a h => by (repeat (refine Kn.cons h rfl ?_)); exact h.base)
  refine T.cond rfl (fun hb => ?_) (fun hb => ?_)
  ·
    refine T.sreg [(2, .int .i64 4)] ?_ (T.ret ?_)
    · refine W.op rfl rfl rfl (W.quiet_assign rfl rfl) ?_
      exact W.nil (fun a h => by (repeat (refine Kn.cons h rfl ?_)); exact h.base)
    · repeat (with_reducible first | refine Rt.thn ?_ | refine Rt.blk ?_)
      refine body_ret rfl rfl ?_
      exact fun W hW => ⟨by rw [mayI_4 H1 H2 (i := i) (by omega) (hlk.1 hb)], hW⟩
  refine T.skipx ?_
  repeat (with_reducible refine Xt.nblk ?_)
  refine Xt.nrm ?_
  have BJ := fun xo yo W => bn_add W xo yo (i : Int) 1 (by omega) (by omega)
  refine T.reg ?_
  refine W.op rfl rfl rfl (W.quiet_move rfl rfl) ?_
  refine W.op rfl rfl rfl (W.quiet_bin rfl rfl rfl (by first | exact BJ _ _)) ?_
  refine W.op rfl rfl rfl (W.quiet_assign rfl rfl) ?_
  refine W.nil (fun a h w hw => ⟨i + 1, by omega, by omega, fun k hk => ?_, ?_, hw⟩)
  · by_cases hki : k < i
    · exact hJ k hki
    · obtain rfl : k = i := by omega
      exact fun q => by rw [hlk.2 q] at hb; cases hb
  · (repeat (refine Kn.cons h rfl ?_)); exact h.base
end Go.Proofs.Ytnjlcimeaoedcaa
