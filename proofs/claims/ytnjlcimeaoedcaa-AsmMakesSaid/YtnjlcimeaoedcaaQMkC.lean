/-
  Items (layer 5): the document's own May. Items (layer 5): what the document's reckoning and the program's have in common, plainly.
-/
import Derived.Test.YtnjlcimeaoedcaaQMkB
import Derived.Test.YtnjlcimeaoedcaaQAsmIb
import Derived.Test.YtnjlcimeaoedcaaQAsmZ
namespace Go.Proofs.Ytnjlcimeaoedcaa
open Go.RowKit Classical in
set_option linter.unusedVariables false
set_option linter.unusedSimpArgs false
/-- An item that defines the label of an earlier one. -/
def TwP (l : List It) (i k : Nat) : Prop := (l.getD i it0).k = 2 ∧ (l.getD k it0).k = 2 ∧ (l.getD i it0).lab = (l.getD k it0).lab
def LkP (l : List It) (i : Nat) : Prop := isTo (l.getD i it0) = true ∧ staL l (l.getD i it0).lab < 0
noncomputable def mayI (l : List It) : Int := if ∃ k, k < l.length ∧ rightB (l.getD k it0) = false then 1 else if ∃ i, i < l.length ∧ ∃ k, k < i ∧ TwP l i k then 6 else if ∃ i, i < l.length ∧ LkP l i then 4 else 0
theorem mayI_1 {l : List It} {k : Nat} (h : k < l.length) (q : rightB (l.getD k it0) = false) : mayI l = 1 := by unfold mayI; rw [if_pos ⟨k, h, q⟩]
theorem mayI_6 {l : List It} (h1 : ∀ k, k < l.length → rightB (l.getD k it0) = true) {i k : Nat} (h : i < l.length) (hk : k < i) (q : TwP l i k) : mayI l = 6 := by
  unfold mayI
  rw [if_neg (fun z => by obtain ⟨k, hk, e⟩ := z; rw [h1 k hk] at e; cases e), if_pos ⟨i, h, k, hk, q⟩]
theorem mayI_4 {l : List It} (h1 : ∀ k, k < l.length → rightB (l.getD k it0) = true) (h2 : ∀ i, i < l.length → ∀ k, k < i → ¬TwP l i k) {i : Nat} (h : i < l.length) (q : LkP l i) : mayI l = 4 := by
  unfold mayI
  rw [if_neg (fun z => by obtain ⟨k, hk, e⟩ := z; rw [h1 k hk] at e; cases e), if_neg (fun z => by obtain ⟨i, hi, k, hk, e⟩ := z; exact h2 i hi k hk e), if_pos ⟨i, h, q⟩]
theorem mayI_0 {l : List It} (h1 : ∀ k, k < l.length → rightB (l.getD k it0) = true) (h2 : ∀ i, i < l.length → ∀ k, k < i → ¬TwP l i k) (h3 : ∀ i, i < l.length → ¬LkP l i) : mayI l = 0 := by
  unfold mayI
  rw [if_neg (fun z => by obtain ⟨k, hk, e⟩ := z; rw [h1 k hk] at e; cases e), if_neg (fun z => by obtain ⟨i, hi, k, hk, e⟩ := z; exact h2 i hi k hk e), if_neg (fun z => by obtain ⟨i, hi, e⟩ := z; exact h3 i hi e)]
set_option maxRecDepth 100000 in
set_option maxHeartbeats 1600000 in
theorem r_may (l : List It) (a : Option Addr) (n c : Nat) (hn : n = l.length) (hfew : n ≤ 32768) (B : Nat) (w : World) (hat : ItAt B w a l) : Calls Try.prog 24 #[.slice a n c] w fun e w' => e = .returned (.int .i64 (mayI l)) ∧ Fr (fun _ => False) w w' := by
  refine calls_tw Try.func24 rfl rfl (Nat.le_of_ble_eq_true rfl) ?_
  refine TW.to (fun W => Fr (fun _ => False) w W) (Fr.refl _ _) ?_
  refine T.sub (s' := [(0, .slice a n c)]) ?_ (fun a h => by (repeat (refine Kn.cons h rfl ?_)); exact h.base)
  have B0 : ∀ (xo yo : Operand) (W : World), (do eqGuard .gtr 3 xo yo (.int .i64 (n : Int)) (.int .i64 32768); binOp .gtr 3 (.int .i64 (n : Int)) (.int .i64 32768) : Sem Value).run Try.prog W = .ok (.bool false) W := fun xo yo W => by rw [bn_gt, decide_eq_false (by omega)]
  refine T.sreg [(0, .slice a n c)] ?_ ?_
  · refine W.op rfl rfl rfl (W.quiet_assign rfl rfl) ?_
    exact W.nil (fun a h => by (repeat (refine Kn.cons h rfl ?_)); exact h.base)
  refine T.seq ?_
  refine T.sreg ((9, .bool false) :: [(0, .slice a n c)]) ?_ ?_
  ·
    refine W.op rfl rfl rfl (W.quiet_move rfl rfl) ?_
    refine W.op rfl rfl rfl (W.quiet_len rfl rfl (fun W => ln_t W _ _ _)) ?_
    refine W.op rfl rfl rfl (W.quiet_bin rfl rfl rfl (by first | exact B0 _ _)) ?_
    exact W.nil (fun a h => by (repeat (refine Kn.cons h rfl ?_)); exact h.base)
  refine T.cond rfl (fun e => by cases e) (fun _ => ?_)
  refine T.skip ?_
  refine T.seq ?_
  refine T.sreg ((3, .int .i64 ((0 : Nat) : Int)) :: [(0, .slice a n c)]) ?_ ?_
  ·
    refine W.op rfl rfl rfl (W.quiet_assign rfl rfl) ?_
    exact W.nil (fun a h => by (repeat (refine Kn.cons h rfl ?_)); exact h.base)
  refine T.block ?_
  refine T.loop (t := 3) (n := n) (fun j => (3, .int .i64 ((j : Nat) : Int)) :: [(0, .slice a n c)]) (fun j => ∀ k, k < j → rightB (l.getD k it0) = true) (fun j => rfl) (fun a h => h) (fun k hk => absurd hk (by omega)) ?_
  intro j hj hJ
  have Blt := fun xo yo W => bn_lt W xo yo (j : Int) (n : Int)
  refine T.seq ?_
  refine T.sreg ((13, .bool (decide ((j : Int) < (n : Int)))) :: (3, .int .i64 ((j : Nat) : Int)) :: [(0, .slice a n c)]) ?_ ?_
  ·
    refine W.op rfl rfl rfl (W.quiet_move rfl rfl) ?_
    refine W.op rfl rfl rfl (W.quiet_move rfl rfl) ?_
    refine W.op rfl rfl rfl (W.quiet_len rfl rfl (fun W => ln_t W _ _ _)) ?_
    refine W.op rfl rfl rfl (W.quiet_bin rfl rfl rfl (by first | exact Blt _ _)) ?_
    exact W.nil (fun a h => by (repeat (refine Kn.cons h rfl ?_)); exact h.base)
  refine T.cond rfl (fun hlt => ?_) (fun hge => ?_)
  · have hlt' : j < n := by have := of_decide_eq_true hlt; omega
    refine T.skip ?_
    refine T.seq ?_
    refine T.block ?_
    obtain ⟨x, hx⟩ : ∃ q, l.getD j it0 = q := ⟨_, rfl⟩
    obtain ⟨gx, ox, ex, _, x0, x1, x2, x3, x4, x5, x6⟩ := hat.get (Fr.refl (fun _ => False) w) (fun _ h => h.elim) j (by omega) x hx
    subst ex
    have IX := fun W => ixt W gx ox n c j hlt'
    have LX : ∀ W, Fr (fun _ => False) w W → (Instr.loadAt 70 (.pointer (some ⟨gx, ox + j * 7, none⟩))).run Try.prog W = .ok (.agg #[.int .i64 x.k, .int .i64 x.op, .int .i64 x.rd, .int .i64 x.r1, .int .i64 x.r2, .int .i64 x.imm, .int .i64 x.lab]) W := fun W hW => ld_item _ _ _ _ _ _ _ _ _ _ (hW.cell x0 id) (hW.cell x1 id) (hW.cell x2 id) (hW.cell x3 id) (hW.cell x4 id) (hW.cell x5 id) (hW.cell x6 id)
    have KR : ∀ W, Fr (fun _ => False) w W → Calls Try.prog 46 #[.agg #[.int .i64 x.k, .int .i64 x.op, .int .i64 x.rd, .int .i64 x.r1, .int .i64 x.r2, .int .i64 x.imm, .int .i64 x.lab]] W fun e w' => e = .returned (.bool (rightB x)) ∧ Fr (fun _ => False) w w' := fun W hW => (c46 x W).mono fun e w' q => ⟨q.1, hW.trans (Fr.of_grown q.2)⟩
    obtain ⟨rb, hrb⟩ : ∃ q, rightB x = q := ⟨_, rfl⟩
    rw [hrb] at KR
    refine T.sreg ((21, .bool (!rb)) :: (3, .int .i64 ((j : Nat) : Int)) :: [(0, .slice (some ⟨gx, ox, none⟩) n c)]) ?_ ?_
    ·
      refine W.op rfl rfl rfl (W.quiet_move rfl rfl) ?_
      refine W.op rfl rfl rfl (W.quiet_move rfl rfl) ?_
      refine W.op rfl rfl rfl (W.quiet_index rfl rfl rfl (by first | exact IX)) ?_
      refine W.op rfl rfl rfl (W.quiet_load rfl rfl (by first | exact LX)) ?_
      refine W.op rfl rfl rfl (W.quiet_call (hr := KR) rfl rfl (fun W => cf_rgt W _)) ?_
      refine W.op rfl rfl rfl (W.quiet_not rfl rfl) ?_
      exact W.nil (fun a h => by (repeat (refine Kn.cons h rfl ?_)); exact h.base)
    refine T.cond rfl (fun hb => ?_) (fun hb => ?_)
    ·
      refine T.sreg [(2, .int .i64 1)] ?_ (T.ret ?_)
      · refine W.op rfl rfl rfl (W.quiet_assign rfl rfl) ?_
        exact W.nil (fun a h => by (repeat (refine Kn.cons h rfl ?_)); exact h.base)
      · repeat (with_reducible first | refine Rt.thn ?_ | refine Rt.blk ?_)
        refine body_ret rfl rfl ?_
        exact fun W hW => ⟨by rw [mayI_1 (k := j) (by omega) (by rw [hx, hrb]; cases rb <;> simp_all)], hW⟩
    refine T.skipx ?_
    repeat (with_reducible refine Xt.nblk ?_)
    refine Xt.nrm ?_
    have BJ := fun xo yo W => bn_add W xo yo (j : Int) 1 (by omega) (by omega)
    refine T.reg ?_
    refine W.op rfl rfl rfl (W.quiet_move rfl rfl) ?_
    refine W.op rfl rfl rfl (W.quiet_bin rfl rfl rfl (by first | exact BJ _ _)) ?_
    refine W.op rfl rfl rfl (W.quiet_assign rfl rfl) ?_
    refine W.nil (fun a h w hw => ⟨j + 1, by omega, by omega, fun k hk => ?_, ?_, hw⟩)
    · by_cases hki : k < j
      · exact hJ k hki
      · obtain rfl : k = j := by omega
        rw [hx, hrb]
        cases rb <;> simp_all
    · (repeat (refine Kn.cons h rfl ?_)); exact h.base
  have hjn : j = n := by have := of_decide_eq_false hge; omega
  have H1 : ∀ k, k < l.length → rightB (l.getD k it0) = true := fun k hk => hJ k (by omega)
  clear hJ Blt hge
  refine T.exit ?_
  repeat (with_reducible refine Xt.thn ?_)
  refine Xt.hit ?_
  refine Xt.nrm ?_
  refine T.sub (s' := [(0, .slice a n c)]) ?_ (fun a h => by (repeat (refine Kn.cons h rfl ?_)); exact h.base)
  clear hjn hj j
  refine T.seq ?_
  refine T.sreg ((4, .int .i64 ((0 : Nat) : Int)) :: [(0, .slice a n c)]) ?_ ?_
  ·
    refine W.op rfl rfl rfl (W.quiet_assign rfl rfl) ?_
    exact W.nil (fun a h => by (repeat (refine Kn.cons h rfl ?_)); exact h.base)
  refine T.block ?_
  refine T.loop (t := 4) (n := n) (fun j => (4, .int .i64 ((j : Nat) : Int)) :: [(0, .slice a n c)]) (fun j => ∀ i, i < j → ∀ k, k < i → ¬TwP l i k) (fun j => rfl) (fun a h => h) (fun k hk => absurd hk (by omega)) ?_
  intro i hi hJ
  have Blt := fun xo yo W => bn_lt W xo yo (i : Int) (n : Int)
  refine T.seq ?_
  refine T.sreg ((25, .bool (decide ((i : Int) < (n : Int)))) :: (4, .int .i64 ((i : Nat) : Int)) :: [(0, .slice a n c)]) ?_ ?_
  ·
    refine W.op rfl rfl rfl (W.quiet_move rfl rfl) ?_
    refine W.op rfl rfl rfl (W.quiet_move rfl rfl) ?_
    refine W.op rfl rfl rfl (W.quiet_len rfl rfl (fun W => ln_t W _ _ _)) ?_
    refine W.op rfl rfl rfl (W.quiet_bin rfl rfl rfl (by first | exact Blt _ _)) ?_
    exact W.nil (fun a h => by (repeat (refine Kn.cons h rfl ?_)); exact h.base)
  refine T.cond rfl (fun hlt => ?_) (fun hge => ?_)
  · have hlt' : i < n := by have := of_decide_eq_true hlt; omega
    refine T.skip ?_
    refine T.seq ?_
    refine T.block ?_
    refine T.sreg ((5, .int .i64 ((0 : Nat) : Int)) :: (4, .int .i64 ((i : Nat) : Int)) :: [(0, .slice a n c)]) ?_ ?_
    ·
      refine W.op rfl rfl rfl (W.quiet_assign rfl rfl) ?_
      exact W.nil (fun a h => by (repeat (refine Kn.cons h rfl ?_)); exact h.base)
    refine T.block ?_
    refine T.loop (t := 5) (n := i) (fun j => (5, .int .i64 ((j : Nat) : Int)) :: (4, .int .i64 ((i : Nat) : Int)) :: [(0, .slice a n c)]) (fun j => ∀ k, k < j → ¬TwP l i k) (fun j => rfl) (fun a h => h) (fun k hk => absurd hk (by omega)) ?_
    intro j hj hK
    have Blj := fun xo yo W => bn_lt W xo yo (j : Int) (i : Int)
    refine T.seq ?_
    refine T.sreg ((30, .bool (decide ((j : Int) < (i : Int)))) :: (5, .int .i64 ((j : Nat) : Int)) :: (4, .int .i64 ((i : Nat) : Int)) :: [(0, .slice a n c)]) ?_ ?_
    ·
      refine W.op rfl rfl rfl (W.quiet_move rfl rfl) ?_
      refine W.op rfl rfl rfl (W.quiet_move rfl rfl) ?_
      refine W.op rfl rfl rfl (W.quiet_bin rfl rfl rfl (by first | exact Blj _ _)) ?_
      exact W.nil (fun a h => by (repeat (refine Kn.cons h rfl ?_)); exact h.base)
    refine T.cond rfl (fun hltj => ?_) (fun hgej => ?_)
    rotate_left
    · have hjn : j = i := by have := of_decide_eq_false hgej; omega
      refine T.exit ?_
      repeat (with_reducible refine Xt.thn ?_)
      refine Xt.hit ?_
      repeat (with_reducible refine Xt.nblk ?_)
      refine Xt.nrm ?_
      have BJ := fun xo yo W => bn_add W xo yo (i : Int) 1 (by omega) (by omega)
      refine T.reg ?_
      refine W.op rfl rfl rfl (W.quiet_move rfl rfl) ?_
      refine W.op rfl rfl rfl (W.quiet_bin rfl rfl rfl (by first | exact BJ _ _)) ?_
      refine W.op rfl rfl rfl (W.quiet_assign rfl rfl) ?_
      refine W.nil (fun a h w hw => ⟨i + 1, by omega, by omega, fun k hk => ?_, ?_, hw⟩)
      · by_cases hki : k < i
        · exact hJ k hki
        · obtain rfl : k = i := by omega
          exact fun m hm => hK m (by omega)
      · (repeat (refine Kn.cons h rfl ?_)); exact h.base
    have hltj' : j < i := by have := of_decide_eq_true hltj; omega
    refine T.skip ?_
    refine T.seq ?_
    refine T.block ?_
    obtain ⟨x, hx⟩ : ∃ q, l.getD i it0 = q := ⟨_, rfl⟩
    obtain ⟨gx, ox, ex, _, x0, x1, x2, x3, x4, x5, x6⟩ := hat.get (Fr.refl (fun _ => False) w) (fun _ h => h.elim) i (by omega) x hx
    obtain ⟨y, hy⟩ : ∃ q, l.getD j it0 = q := ⟨_, rfl⟩
    obtain ⟨gy, oy, ey, _, y0, y1, y2, y3, y4, y5, y6⟩ := hat.get (Fr.refl (fun _ => False) w) (fun _ h => h.elim) j (by omega) y hy
    subst ex
    obtain ⟨rfl, rfl⟩ : gx = gy ∧ ox = oy := by simpa using ey
    clear ey
    have IX := fun W => ixt W gx ox n c i hlt'
    have IY := fun W => ixt W gx ox n c j (by omega)
    have LX0 : ∀ W, Fr (fun _ => False) w W → (Instr.loadAt 3 (.pointer (some ⟨gx, ox + i * 7, none⟩))).run Try.prog W = .ok (.int .i64 x.k) W := fun W hW => ld_int _ _ _ (hW.cell x0 id)
    have LX6 : ∀ W, Fr (fun _ => False) w W → (Instr.loadAt 3 (.pointer (some ⟨gx, ox + i * 7 + 6, none⟩))).run Try.prog W = .ok (.int .i64 x.lab) W := fun W hW => ld_int _ _ _ (hW.cell x6 id)
    have LY0 : ∀ W, Fr (fun _ => False) w W → (Instr.loadAt 3 (.pointer (some ⟨gx, ox + j * 7, none⟩))).run Try.prog W = .ok (.int .i64 y.k) W := fun W hW => ld_int _ _ _ (hW.cell y0 id)
    have LY6 : ∀ W, Fr (fun _ => False) w W → (Instr.loadAt 3 (.pointer (some ⟨gx, ox + j * 7 + 6, none⟩))).run Try.prog W = .ok (.int .i64 y.lab) W := fun W hW => ld_int _ _ _ (hW.cell y6 id)
    obtain ⟨kx, hkx⟩ : ∃ qq, (x.k == 2) = qq := ⟨_, rfl⟩
    have Bkx : ∀ (xo yo : Operand) (W : World), (do eqGuard .eql 3 xo yo (.int .i64 x.k) (.int .i64 2); binOp .eql 3 (.int .i64 x.k) (.int .i64 2) : Sem Value).run Try.prog W = .ok (.bool kx) W := fun xo yo W => by rw [← hkx]; exact bn_eq W xo yo x.k 2
    obtain ⟨ky, hky⟩ : ∃ qq, (y.k == 2) = qq := ⟨_, rfl⟩
    have Bky : ∀ (xo yo : Operand) (W : World), (do eqGuard .eql 3 xo yo (.int .i64 y.k) (.int .i64 2); binOp .eql 3 (.int .i64 y.k) (.int .i64 2) : Sem Value).run Try.prog W = .ok (.bool ky) W := fun xo yo W => by rw [← hky]; exact bn_eq W xo yo y.k 2
    obtain ⟨el, hel⟩ : ∃ qq, (x.lab == y.lab) = qq := ⟨_, rfl⟩
    have Bel : ∀ (xo yo : Operand) (W : World), (do eqGuard .eql 3 xo yo (.int .i64 x.lab) (.int .i64 y.lab); binOp .eql 3 (.int .i64 x.lab) (.int .i64 y.lab) : Sem Value).run Try.prog W = .ok (.bool el) W := fun xo yo W => by rw [← hel]; exact bn_eq W xo yo x.lab y.lab
    have htw : (kx && ky && el) = true ↔ TwP l i j := by
      unfold TwP
      rw [hx, hy, ← hkx, ← hky, ← hel]
      simp [and_assoc]
    refine T.sregD (by kernel_rfl) (by kernel_rfl) (fun W hW => hW.drewN 1) ((59, .bool (kx && ky && el)) :: (5, .int .i64 ((j : Nat) : Int)) :: (4, .int .i64 ((i : Nat) : Int)) :: [(0, .slice (some ⟨gx, ox, none⟩) n c)]) ?_ ?_
    ·
      refine W.cut 7 ((39, .bool (kx)) :: (5, .int .i64 ((j : Nat) : Int)) :: (4, .int .i64 ((i : Nat) : Int)) :: [(0, .slice (some ⟨gx, ox, none⟩) n c)]) ?_ ?_
      · cases kx
        all_goals
          refine W.op rfl rfl rfl (W.quiet_move rfl rfl) ?_
          refine W.op rfl rfl rfl (W.quiet_move rfl rfl) ?_
          refine W.op rfl rfl rfl (W.quiet_index rfl rfl rfl (by first | exact IX | exact IY)) ?_
          refine W.op rfl rfl rfl (W.quiet_field rfl rfl (fun W => ft0 W _ _)) ?_
          refine W.op rfl rfl rfl (W.quiet_load rfl rfl (by first | exact LX0 | exact LX6 | exact LY0 | exact LY6)) ?_
          refine W.op rfl rfl rfl (W.quiet_bin rfl rfl rfl (by first | exact Bkx _ _ | exact Bky _ _ | exact Bel _ _)) ?_
          refine W.op rfl rfl rfl (W.quiet_move rfl rfl) ?_
          exact W.nil (fun a h => by (repeat (refine Kn.cons h rfl ?_)); exact h.base)
      refine W.cut 8 ((47, .bool (kx && ky)) :: (5, .int .i64 ((j : Nat) : Int)) :: (4, .int .i64 ((i : Nat) : Int)) :: [(0, .slice (some ⟨gx, ox, none⟩) n c)]) ?_ ?_
      · generalize (kx) = p at *
        cases p <;> cases ky
        all_goals
          first
          | refine W.skip rfl rfl rfl ?_
          | refine W.op rfl rfl rfl (W.quiet_move rfl rfl) ?_
          first
          | refine W.skip rfl rfl rfl ?_
          | refine W.op rfl rfl rfl (W.quiet_move rfl rfl) ?_
          first
          | refine W.skip rfl rfl rfl ?_
          | refine W.op rfl rfl rfl (W.quiet_index rfl rfl rfl (by first | exact IX | exact IY)) ?_
          first
          | refine W.skip rfl rfl rfl ?_
          | refine W.op rfl rfl rfl (W.quiet_field rfl rfl (fun W => ft0 W _ _)) ?_
          first
          | refine W.skip rfl rfl rfl ?_
          | refine W.op rfl rfl rfl (W.quiet_load rfl rfl (by first | exact LX0 | exact LX6 | exact LY0 | exact LY6)) ?_
          first
          | refine W.skip rfl rfl rfl ?_
          | refine W.op rfl rfl rfl (W.quiet_bin rfl rfl rfl (by first | exact Bkx _ _ | exact Bky _ _ | exact Bel _ _)) ?_
          refine W.op rfl rfl rfl (W.quiet_pick rfl rfl rfl) ?_
          refine W.op rfl rfl rfl (W.quiet_move rfl rfl) ?_
          exact W.nil (fun a h => by (repeat (refine Kn.cons h rfl ?_)); exact h.base)
      generalize (kx && ky) = p at *
      cases p <;> cases el
      all_goals
        first
        | refine W.skip rfl rfl rfl ?_
        | refine W.op rfl rfl rfl (W.quiet_move rfl rfl) ?_
        first
        | refine W.skip rfl rfl rfl ?_
        | refine W.op rfl rfl rfl (W.quiet_move rfl rfl) ?_
        first
        | refine W.skip rfl rfl rfl ?_
        | refine W.op rfl rfl rfl (W.quiet_index rfl rfl rfl (by first | exact IX | exact IY)) ?_
        first
        | refine W.skip rfl rfl rfl ?_
        | refine W.op rfl rfl rfl (W.quiet_field rfl rfl (fun W => ft2 W _ _)) ?_
        first
        | refine W.skip rfl rfl rfl ?_
        | refine W.op rfl rfl rfl (W.quiet_load rfl rfl (by first | exact LX0 | exact LX6 | exact LY0 | exact LY6)) ?_
        first
        | refine W.skip rfl rfl rfl ?_
        | refine W.op rfl rfl rfl (W.quiet_move rfl rfl) ?_
        first
        | refine W.skip rfl rfl rfl ?_
        | refine W.op rfl rfl rfl (W.quiet_move rfl rfl) ?_
        first
        | refine W.skip rfl rfl rfl ?_
        | refine W.op rfl rfl rfl (W.quiet_index rfl rfl rfl (by first | exact IX | exact IY)) ?_
        first
        | refine W.skip rfl rfl rfl ?_
        | refine W.op rfl rfl rfl (W.quiet_field rfl rfl (fun W => ft2 W _ _)) ?_
        first
        | refine W.skip rfl rfl rfl ?_
        | refine W.op rfl rfl rfl (W.quiet_load rfl rfl (by first | exact LX0 | exact LX6 | exact LY0 | exact LY6)) ?_
        first
        | refine W.skip rfl rfl rfl ?_
        | refine W.op rfl rfl rfl (W.quiet_bin rfl rfl rfl (by first | exact Bkx _ _ | exact Bky _ _ | exact Bel _ _)) ?_
        refine W.op rfl rfl rfl (W.quiet_pick rfl rfl rfl) ?_
        exact W.nil (fun a h => by (repeat (refine Kn.cons h rfl ?_)); exact h.base)
    refine T.cond rfl (fun hb => ?_) (fun hb => ?_)
    ·
      refine T.sreg [(2, .int .i64 6)] ?_ (T.ret ?_)
      · refine W.op rfl rfl rfl (W.quiet_assign rfl rfl) ?_
        exact W.nil (fun a h => by (repeat (refine Kn.cons h rfl ?_)); exact h.base)
      · repeat (with_reducible first | refine Rt.thn ?_ | refine Rt.blk ?_)
        refine body_ret rfl rfl ?_
        exact fun W hW => ⟨by rw [mayI_6 H1 (i := i) (k := j) (by omega) hltj' (htw.1 hb)], hW⟩
    refine T.skipx ?_
    repeat (with_reducible refine Xt.nblk ?_)
    refine Xt.nrm ?_
    have BJ := fun xo yo W => bn_add W xo yo (j : Int) 1 (by omega) (by omega)
    refine T.reg ?_
    refine W.op rfl rfl rfl (W.quiet_move rfl rfl) ?_
    refine W.op rfl rfl rfl (W.quiet_bin rfl rfl rfl (by first | exact BJ _ _)) ?_
    refine W.op rfl rfl rfl (W.quiet_assign rfl rfl) ?_
    refine W.nil (fun a h w hw => ⟨j + 1, by omega, by omega, fun k hk => ?_, ?_, hw⟩)
    · by_cases hki : k < j
      · exact hK k hki
      · obtain rfl : k = j := by omega
        exact fun q => by rw [htw.2 q] at hb; cases hb
    · (repeat (refine Kn.cons h rfl ?_)); exact h.base
  have hin : i = n := by have := of_decide_eq_false hge; omega
  have H2 : ∀ i, i < l.length → ∀ k, k < i → ¬TwP l i k := fun k hk => hJ k (by omega)
  clear hJ Blt hge
  refine T.exit ?_
  repeat (with_reducible refine Xt.thn ?_)
  refine Xt.hit ?_
  refine Xt.nrm ?_
  refine T.sub (s' := [(0, .slice a n c)]) ?_ (fun a h => by (repeat (refine Kn.cons h rfl ?_)); exact h.base)
  clear hin hi i
  refine T.seq ?_
  refine T.sreg ((6, .int .i64 ((0 : Nat) : Int)) :: [(0, .slice a n c)]) ?_ ?_
  ·
    refine W.op rfl rfl rfl (W.quiet_assign rfl rfl) ?_
    exact W.nil (fun a h => by (repeat (refine Kn.cons h rfl ?_)); exact h.base)
  refine T.block ?_
  refine T.loop (t := 6) (n := n) (fun j => (6, .int .i64 ((j : Nat) : Int)) :: [(0, .slice a n c)]) (fun j => ∀ i, i < j → ¬LkP l i) (fun j => rfl) (fun a h => h) (fun k hk => absurd hk (by omega)) ?_
  intro i hi hJ
  have Blt := fun xo yo W => bn_lt W xo yo (i : Int) (n : Int)
  refine T.seq ?_
  refine T.sreg ((63, .bool (decide ((i : Int) < (n : Int)))) :: (6, .int .i64 ((i : Nat) : Int)) :: [(0, .slice a n c)]) ?_ ?_
  ·
    refine W.op rfl rfl rfl (W.quiet_move rfl rfl) ?_
    refine W.op rfl rfl rfl (W.quiet_move rfl rfl) ?_
    refine W.op rfl rfl rfl (W.quiet_len rfl rfl (fun W => ln_t W _ _ _)) ?_
    refine W.op rfl rfl rfl (W.quiet_bin rfl rfl rfl (by first | exact Blt _ _)) ?_
    exact W.nil (fun a h => by (repeat (refine Kn.cons h rfl ?_)); exact h.base)
  refine T.cond rfl (fun hlt => ?_) (fun hge => ?_)
  rotate_left
  · have hin : i = n := by have := of_decide_eq_false hge; omega
    refine T.exit ?_
    repeat (with_reducible refine Xt.thn ?_)
    refine Xt.hit ?_
    refine Xt.nrm ?_
    refine T.sreg [(2, .int .i64 0)] ?_ (T.ret ?_)
    · refine W.op rfl rfl rfl (W.quiet_assign rfl rfl) ?_
      exact W.nil (fun a h => by (repeat (refine Kn.cons h rfl ?_)); exact h.base)
    · repeat (with_reducible first | refine Rt.thn ?_ | refine Rt.blk ?_)
      refine body_ret rfl rfl ?_
      exact fun W hW => ⟨by rw [mayI_0 H1 H2 (fun k hk => hJ k (by omega))], hW⟩
  have hlt' : i < n := by have := of_decide_eq_true hlt; omega
  refine T.skip ?_
  refine T.seq ?_
  refine T.block ?_
  obtain ⟨x, hx⟩ : ∃ q, l.getD i it0 = q := ⟨_, rfl⟩
  obtain ⟨gx, ox, ex, _, x0, x1, x2, x3, x4, x5, x6⟩ := hat.get (Fr.refl (fun _ => False) w) (fun _ h => h.elim) i (by omega) x hx
  subst ex
  have IX := fun W => ixt W gx ox n c i hlt'
  have LX0 : ∀ W, Fr (fun _ => False) w W → (Instr.loadAt 3 (.pointer (some ⟨gx, ox + i * 7, none⟩))).run Try.prog W = .ok (.int .i64 x.k) W := fun W hW => ld_int _ _ _ (hW.cell x0 id)
  have LX6 : ∀ W, Fr (fun _ => False) w W → (Instr.loadAt 3 (.pointer (some ⟨gx, ox + i * 7 + 6, none⟩))).run Try.prog W = .ok (.int .i64 x.lab) W := fun W hW => ld_int _ _ _ (hW.cell x6 id)
  have KS : ∀ W, Fr (fun _ => False) w W → Calls Try.prog 47 #[.slice (some ⟨gx, ox, none⟩) n c, .int .i64 x.lab] W fun e w' => e = .returned (.int .i64 (staL l x.lab)) ∧ Fr (fun _ => False) w w' := fun W hW => (r_stands l _ n c x.lab hn (by omega) B W (hat.fr hW (fun _ h => h.elim))).mono fun e w' q => ⟨q.1, by rw [← q.2]; exact hW⟩
  obtain ⟨st, hst⟩ : ∃ q, staL l x.lab = q := ⟨_, rfl⟩
  rw [hst] at KS
  obtain ⟨k3, hk3⟩ : ∃ qq, (x.k == 3) = qq := ⟨_, rfl⟩
  have Bk3 : ∀ (xo yo : Operand) (W : World), (do eqGuard .eql 3 xo yo (.int .i64 x.k) (.int .i64 3); binOp .eql 3 (.int .i64 x.k) (.int .i64 3) : Sem Value).run Try.prog W = .ok (.bool k3) W := fun xo yo W => by rw [← hk3]; exact bn_eq W xo yo x.k 3
  obtain ⟨k4, hk4⟩ : ∃ qq, (x.k == 4) = qq := ⟨_, rfl⟩
  have Bk4 : ∀ (xo yo : Operand) (W : World), (do eqGuard .eql 3 xo yo (.int .i64 x.k) (.int .i64 4); binOp .eql 3 (.int .i64 x.k) (.int .i64 4) : Sem Value).run Try.prog W = .ok (.bool k4) W := fun xo yo W => by rw [← hk4]; exact bn_eq W xo yo x.k 4
  obtain ⟨ng, hng⟩ : ∃ qq, (decide (st < 0)) = qq := ⟨_, rfl⟩
  have Bng : ∀ (xo yo : Operand) (W : World), (do eqGuard .lss 3 xo yo (.int .i64 st) (.int .i64 0); binOp .lss 3 (.int .i64 st) (.int .i64 0) : Sem Value).run Try.prog W = .ok (.bool ng) W := fun xo yo W => by rw [← hng]; exact bn_lt W xo yo st 0
  have hlk : ((k3 || k4) && ng) = true ↔ LkP l i := by
    unfold LkP isTo
    rw [hx, hst, ← hk3, ← hk4, ← hng]
    simp
  refine T.sreg ((89, .bool ((k3 || k4) && ng)) :: (6, .int .i64 ((i : Nat) : Int)) :: [(0, .slice (some ⟨gx, ox, none⟩) n c)]) ?_ ?_
  ·
    refine W.cut 7 ((72, .bool (k3)) :: (6, .int .i64 ((i : Nat) : Int)) :: [(0, .slice (some ⟨gx, ox, none⟩) n c)]) ?_ ?_
    · cases k3
      all_goals
        refine W.op rfl rfl rfl (W.quiet_move rfl rfl) ?_
        refine W.op rfl rfl rfl (W.quiet_move rfl rfl) ?_
        refine W.op rfl rfl rfl (W.quiet_index rfl rfl rfl (by first | exact IX)) ?_
        refine W.op rfl rfl rfl (W.quiet_field rfl rfl (fun W => ft0 W _ _)) ?_
        refine W.op rfl rfl rfl (W.quiet_load rfl rfl (by first | exact LX0 | exact LX6)) ?_
        refine W.op rfl rfl rfl (W.quiet_bin rfl rfl rfl (by first | exact Bk3 _ _ | exact Bk4 _ _ | exact Bng _ _)) ?_
        refine W.op rfl rfl rfl (W.quiet_move rfl rfl) ?_
        exact W.nil (fun a h => by (repeat (refine Kn.cons h rfl ?_)); exact h.base)
    refine W.cut 8 ((80, .bool (k3 || k4)) :: (6, .int .i64 ((i : Nat) : Int)) :: [(0, .slice (some ⟨gx, ox, none⟩) n c)]) ?_ ?_
    · generalize (k3) = p at *
      cases p <;> cases k4
      all_goals
        first
        | refine W.skip rfl rfl rfl ?_
        | refine W.op rfl rfl rfl (W.quiet_move rfl rfl) ?_
        first
        | refine W.skip rfl rfl rfl ?_
        | refine W.op rfl rfl rfl (W.quiet_move rfl rfl) ?_
        first
        | refine W.skip rfl rfl rfl ?_
        | refine W.op rfl rfl rfl (W.quiet_index rfl rfl rfl (by first | exact IX)) ?_
        first
        | refine W.skip rfl rfl rfl ?_
        | refine W.op rfl rfl rfl (W.quiet_field rfl rfl (fun W => ft0 W _ _)) ?_
        first
        | refine W.skip rfl rfl rfl ?_
        | refine W.op rfl rfl rfl (W.quiet_load rfl rfl (by first | exact LX0 | exact LX6)) ?_
        first
        | refine W.skip rfl rfl rfl ?_
        | refine W.op rfl rfl rfl (W.quiet_bin rfl rfl rfl (by first | exact Bk3 _ _ | exact Bk4 _ _ | exact Bng _ _)) ?_
        refine W.op rfl rfl rfl (W.quiet_pick rfl rfl rfl) ?_
        refine W.op rfl rfl rfl (W.quiet_move rfl rfl) ?_
        exact W.nil (fun a h => by (repeat (refine Kn.cons h rfl ?_)); exact h.base)
    generalize (k3 || k4) = p at *
    cases p <;> cases ng
    all_goals
      first
      | refine W.skip rfl rfl rfl ?_
      | refine W.op rfl rfl rfl (W.quiet_move rfl rfl) ?_
      first
      | refine W.skip rfl rfl rfl ?_
      | refine W.op rfl rfl rfl (W.quiet_move rfl rfl) ?_
      first
      | refine W.skip rfl rfl rfl ?_
      | refine W.op rfl rfl rfl (W.quiet_move rfl rfl) ?_
      first
      | refine W.skip rfl rfl rfl ?_
      | refine W.op rfl rfl rfl (W.quiet_index rfl rfl rfl (by first | exact IX)) ?_
      first
      | refine W.skip rfl rfl rfl ?_
      | refine W.op rfl rfl rfl (W.quiet_field rfl rfl (fun W => ft2 W _ _)) ?_
      first
      | refine W.skip rfl rfl rfl ?_
      | refine W.op rfl rfl rfl (W.quiet_load rfl rfl (by first | exact LX0 | exact LX6)) ?_
      first
      | refine W.skip rfl rfl rfl ?_
      | refine W.op rfl rfl rfl (W.quiet_call (hr := KS) rfl rfl (fun W => cf_sta W _)) ?_
      first
      | refine W.skip rfl rfl rfl ?_
      | refine W.op rfl rfl rfl (W.quiet_bin rfl rfl rfl (by first | exact Bk3 _ _ | exact Bk4 _ _ | exact Bng _ _)) ?_
      refine W.op rfl rfl rfl (W.quiet_pick rfl rfl rfl) ?_
      exact W.nil (fun a h => by (repeat (refine Kn.cons h rfl ?_)); exact h.base)
  refine T.cond rfl (fun hb => ?_) (fun hb => ?_)
  ·
    refine T.sreg [(2, .int .i64 4)] ?_ (T.ret ?_)
    · refine W.op rfl rfl rfl (W.quiet_assign rfl rfl) ?_
      exact W.nil (fun a h => by (repeat (refine Kn.cons h rfl ?_)); exact h.base)
    · repeat (with_reducible first | refine Rt.thn ?_ | refine Rt.blk ?_)
      refine body_ret rfl rfl ?_
      exact fun W hW => ⟨by rw [mayI_4 H1 H2 (i := i) (by omega) (hlk.1 hb)], hW⟩
  refine T.skipx ?_
  repeat (with_reducible refine Xt.nblk ?_)
  refine Xt.nrm ?_
  have BJ := fun xo yo W => bn_add W xo yo (i : Int) 1 (by omega) (by omega)
  refine T.reg ?_
  refine W.op rfl rfl rfl (W.quiet_move rfl rfl) ?_
  refine W.op rfl rfl rfl (W.quiet_bin rfl rfl rfl (by first | exact BJ _ _)) ?_
  refine W.op rfl rfl rfl (W.quiet_assign rfl rfl) ?_
  refine W.nil (fun a h w hw => ⟨i + 1, by omega, by omega, fun k hk => ?_, ?_, hw⟩)
  · by_cases hki : k < i
    · exact hJ k hki
    · obtain rfl : k = i := by omega
      exact fun q => by rw [hlk.2 q] at hb; cases hb
  · (repeat (refine Kn.cons h rfl ?_)); exact h.base
theorem hasL_snoc (acc : List (Int × Nat)) (q : Int × Nat) (b : Int) : hasL (acc ++ [q]) b = (hasL acc b || q.1 == b) := by simp [hasL]
theorem sta_val (l : List It) (b : Int) : ∀ k, (0 ≤ staN l b k ↔ hasL (labsK l k) b = true) ∧ (hasL (labsK l k) b = true → staN l b k = ((valL (labsK l k) b : Nat) : Int))
  | 0 => by simp [staN, labsK, hasL]
  | k + 1 => by
    obtain ⟨i1, i2⟩ := sta_val l b k
    have e : staN l b (k + 1) = if 0 ≤ staN l b k then staN l b k else if (l.getD k it0).k = 2 ∧ (l.getD k it0).lab = b then (k : Int) else -1 := rfl
    have f : labsK l (k + 1) = if (l.getD k it0).k = 2 then labsK l k ++ [((l.getD k it0).lab, k)] else labsK l k := rfl
    generalize l.getD k it0 = x at e f
    by_cases h2 : x.k = 2
    · rw [f, if_pos h2, e]
      by_cases h0 : 0 ≤ staN l b k
      · have hh := i1.1 h0
        rw [if_pos h0, hasL_snoc, hh]
        refine ⟨⟨fun _ => by simp, fun _ => h0⟩, fun _ => ?_⟩
        rw [i2 hh, valL_snoc_other hh]
      · have hh : hasL (labsK l k) b = false := by cases q : hasL (labsK l k) b; rfl; exact absurd (i1.2 q) h0
        rw [if_neg h0, hasL_snoc, hh]
        by_cases hl : x.lab = b
        · rw [if_pos ⟨h2, hl⟩]
          refine ⟨⟨fun _ => by simp [hl], fun _ => by omega⟩, fun _ => ?_⟩
          rw [← hl] at hh ⊢
          rw [valL_snoc_same hh]
        · rw [if_neg (fun z => hl z.2)]
          refine ⟨⟨fun z => by omega, fun z => by simp [hl] at z⟩, fun z => by simp [hl] at z⟩
    · rw [f, if_neg h2, e]
      by_cases h0 : 0 ≤ staN l b k
      · rw [if_pos h0]; exact ⟨i1, i2⟩
      · rw [if_neg h0, if_neg (fun z => h2 z.1)]
        have hh : hasL (labsK l k) b = false := by cases q : hasL (labsK l k) b; rfl; exact absurd (i1.2 q) h0
        rw [hh]
        exact ⟨⟨fun z => by omega, fun z => by cases z⟩, fun z => by cases z⟩
theorem staL_has (l : List It) (b : Int) : staL l b < 0 ↔ hasL (accL l) b = false := by
  have := (sta_val l b l.length).1
  unfold staL
  cases q : hasL (accL l) b
  · rw [show labsK l l.length = accL l from rfl, q] at this
    refine ⟨fun _ => rfl, fun _ => ?_⟩
    have h : ¬(0 ≤ staN l b l.length) := fun z => by cases this.1 z
    omega
  · rw [show labsK l l.length = accL l from rfl, q] at this
    have := this.2 rfl
    exact ⟨fun z => by omega, fun z => by cases z⟩
theorem staL_val (l : List It) (b : Int) (h : hasL (accL l) b = true) : staL l b = ((valL (accL l) b : Nat) : Int) := (sta_val l b l.length).2 h
theorem has_labs (l : List It) (b : Int) : ∀ k, hasL (labsK l k) b = true ↔ ∃ j, j < k ∧ (l.getD j it0).k = 2 ∧ (l.getD j it0).lab = b
  | 0 => by simp [labsK, hasL]
  | k + 1 => by
    have ih := has_labs l b k
    have f : labsK l (k + 1) = if (l.getD k it0).k = 2 then labsK l k ++ [((l.getD k it0).lab, k)] else labsK l k := rfl
    rw [f]
    constructor
    · intro h
      split at h
      · rename_i h2
        rw [hasL_snoc, Bool.or_eq_true] at h
        rcases h with h | h
        · obtain ⟨j, hj, q⟩ := ih.1 h; exact ⟨j, by omega, q⟩
        · exact ⟨k, by omega, h2, by simpa using h⟩
      · obtain ⟨j, hj, q⟩ := ih.1 h; exact ⟨j, by omega, q⟩
    · rintro ⟨j, hj, q1, q2⟩
      by_cases hjk : j = k
      · subst hjk
        rw [if_pos q1, hasL_snoc, Bool.or_eq_true]; exact .inr (beq_iff_eq.2 q2)
      · have h := ih.2 ⟨j, by omega, q1, q2⟩
        split
        · rw [hasL_snoc, h]; rfl
        · exact h
theorem twice_is (l : List It) : ∀ n, twiceK l n = true ↔ ∃ i, i < n ∧ ∃ k, k < i ∧ TwP l i k
  | 0 => by simp [twiceK]
  | n + 1 => by
    have ih := twice_is l n
    have f : twiceK l (n + 1) = (twiceK l n || ((l.getD n it0).k == 2 && hasL (labsK l n) (l.getD n it0).lab)) := rfl
    rw [f, Bool.or_eq_true, Bool.and_eq_true]
    constructor
    · rintro (h | ⟨h1, h2⟩)
      · obtain ⟨i, hi, q⟩ := ih.1 h; exact ⟨i, by omega, q⟩
      · obtain ⟨j, hj, q1, q2⟩ := (has_labs l _ n).1 h2
        exact ⟨n, by omega, j, hj, by simpa using h1, q1, q2.symm⟩
    · rintro ⟨i, hi, k, hk, q1, q2, q3⟩
      by_cases hin : i = n
      · subst hin
        exact .inr ⟨by simpa using q1, (has_labs l _ i).2 ⟨k, hk, q2, q3.symm⟩⟩
      · exact .inl (ih.2 ⟨i, by omega, k, hk, q1, q2, q3⟩)
theorem lack_is (l : List It) : ∀ n, lackK l (accL l) n = true ↔ ∃ i, i < n ∧ LkP l i
  | 0 => by simp [lackK]
  | n + 1 => by
    have ih := lack_is l n
    have f : lackK l (accL l) (n + 1) = (lackK l (accL l) n || (isTo (l.getD n it0) && !hasL (accL l) (l.getD n it0).lab)) := rfl
    have hs := staL_has l (l.getD n it0).lab
    rw [f, Bool.or_eq_true, Bool.and_eq_true]
    constructor
    · rintro (h | ⟨h1, h2⟩)
      · obtain ⟨i, hi, q⟩ := ih.1 h; exact ⟨i, by omega, q⟩
      · exact ⟨n, by omega, h1, hs.2 (by simpa using h2)⟩
    · rintro ⟨i, hi, q1, q2⟩
      by_cases hin : i = n
      · subst hin
        exact .inr ⟨q1, by simpa using hs.1 q2⟩
      · exact .inl (ih.2 ⟨i, by omega, q1, q2⟩)
/-- The four ways. -/
theorem may_cases (l : List It) : (∃ k, k < l.length ∧ rightB (l.getD k it0) = false ∧ mayI l = 1) ∨ ((∀ k, k < l.length → rightB (l.getD k it0) = true) ∧ ((twiceK l l.length = true ∧ mayI l = 6) ∨ (twiceK l l.length = false ∧ ((lackK l (accL l) l.length = true ∧ mayI l = 4) ∨ (lackK l (accL l) l.length = false ∧ mayI l = 0))))) := by
  by_cases h1 : ∃ k, k < l.length ∧ rightB (l.getD k it0) = false
  · obtain ⟨k, hk, q⟩ := h1
    exact .inl ⟨k, hk, q, mayI_1 hk q⟩
  have H1 : ∀ k, k < l.length → rightB (l.getD k it0) = true := fun k hk => by
    cases q : rightB (l.getD k it0)
    · exact absurd ⟨k, hk, q⟩ h1
    · rfl
  refine .inr ⟨H1, ?_⟩
  cases h2 : twiceK l l.length
  · have H2 : ∀ i, i < l.length → ∀ k, k < i → ¬TwP l i k := fun i hi k hk q => by
      have := (twice_is l l.length).2 ⟨i, hi, k, hk, q⟩
      rw [h2] at this; cases this
    refine .inr ⟨rfl, ?_⟩
    cases h3 : lackK l (accL l) l.length
    · refine .inr ⟨rfl, mayI_0 H1 H2 fun i hi q => ?_⟩
      have := (lack_is l l.length).2 ⟨i, hi, q⟩
      rw [h3] at this; cases this
    · obtain ⟨i, hi, q⟩ := (lack_is l l.length).1 h3
      exact .inl ⟨rfl, mayI_4 H1 H2 hi q⟩
  · obtain ⟨i, hi, k, hk, q⟩ := (twice_is l l.length).1 h2
    exact .inl ⟨rfl, mayI_6 H1 hi hk q⟩
theorem right_kind {x : It} (h : rightB x = true) : x.k = 1 ∨ x.k = 2 ∨ x.k = 3 ∨ x.k = 4 ∨ x.k = 5 := by
  unfold rightB at h
  by_cases h1 : x.k = 1; · omega
  by_cases h2 : x.k = 2; · omega
  by_cases h3 : x.k = 3; · omega
  by_cases h4 : x.k = 4; · omega
  by_cases h5 : x.k = 5; · omega
  simp [h1, h2, h3, h4, h5] at h
theorem right_5 {x : It} (h : rightB x = true) (h5 : x.k = 5) : (0 ≤ x.rd ∧ x.rd ≤ 31) ∧ -2147483648 ≤ x.imm ∧ x.imm ≤ 4294967295 ∧ x.op = 0 ∧ x.r1 = 0 ∧ x.r2 = 0 := by
  unfold rightB at h
  rw [if_neg (by omega), if_neg (by omega), if_neg (by omega), if_neg (by omega), if_pos h5, con_is] at h
  simp at h
  omega
theorem sz_is {l : List It} {F : Nat → Bool} {k : Nat} (hk : k < l.length) (hr : rightB (l.getD k it0) = true) (hF : F k = true → isBr l k = true) : szI (l.getD k it0) (F k) = 4 * (szF l F).getD k 0 := by
  rw [szF_get hk]
  have hkd := right_kind hr
  unfold isBr at hF
  generalize l.getD k it0 = x at *
  unfold szI sz0
  cases q : F k
  · rcases hkd with e | e | e | e | e <;> simp [e]
  · have hb := hF q
    have e : x.k = 3 := by simpa using hb
    simp [e]
theorem far_br (l : List It) (goals : List Int) : ∀ j k, farN l goals j k = true → isBr l k = true
  | 0, k, h => by cases h
  | j + 1, k, h => by
    have h' : (farN l goals j k || (isBr l k && !reachB goals (szF l (farN l goals j)) k)) = true := h
    simp only [Bool.or_eq_true, Bool.and_eq_true] at h'
    rcases h' with h' | h'
    · exact far_br l goals j k h'
    · exact h'.1
theorem still_ex (l : List It) (goals : List Int) : ∃ i, i ≤ l.length ∧ Still l goals (farN l goals i) := by
  refine Classical.byContradiction fun hn => ?_
  have h : ∀ j, j < l.length + 1 → (nearF l (farN l goals (j + 1))).length < (nearF l (farN l goals j)).length := fun j hj => by
    refine Classical.byContradiction fun q => hn ⟨j, by omega, still_of ?_⟩
    rwa [show farN l goals (j + 1) = nextF l goals (farN l goals j) from rfl, nearF_next] at q
  have := near_down (l := l) (goals := goals) (l.length + 1) h
  omega
theorem far_end (l : List It) (goals : List Int) {k : Nat} (hk : k < l.length) : farN l goals (l.length + 1) k = farE l goals k := by
  obtain ⟨i, hi, hs⟩ := still_ex l goals
  have h1 := far_still hs (l.length + 1) (by omega) k hk
  have h2 := far_still hs l.length hi k hk
  unfold farE
  rw [h1, h2]
theorem far_reach (l : List It) (goals : List Int) : Still l goals (farE l goals) := by
  obtain ⟨i, hi, hs⟩ := still_ex l goals
  exact (farE_of hi hs).2
theorem way_is (l : List It) (s : List Int) (hs : s.length = l.length) {i : Nat} (hi : i < l.length) (ht : isTo (l.getD i it0) = true) (hh : hasL (accL l) (l.getD i it0).lab = true) : 4 * sumK s (staL l (l.getD i it0).lab).toNat - 4 * sumK s i = offK (golL l) s i := by
  have hg : (golL l).getD i 0 = ((valL (accL l) (l.getD i it0).lab : Nat) : Int) := by
    show (goalsA l (accL l)).getD i 0 = _
    rw [goalsA_get hi]; unfold goalF; rw [if_pos ht]
  have hv := val_ok l _ hh
  rw [reach_is hg, staL_val l _ hh, Int.toNat_natCast, atK_get (by omega), atK_get (by omega)]
theorem not_lack {l : List It} (h : lackK l (accL l) l.length = false) {i : Nat} (hi : i < l.length) (ht : isTo (l.getD i it0) = true) : hasL (accL l) (l.getD i it0).lab = true := by
  cases q : hasL (accL l) (l.getD i it0).lab
  · have := (lack_is l l.length).2 ⟨i, hi, ht, (staL_has l _).2 q⟩
    rw [h] at this; cases this
  · rfl
end Go.Proofs.Ytnjlcimeaoedcaa
