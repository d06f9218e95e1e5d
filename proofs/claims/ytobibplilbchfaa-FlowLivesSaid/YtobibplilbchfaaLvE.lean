/-
  Flow (layer 16): what is live, spread.
-/
import Derived.Test.YtobibplilbchfaaLvD
namespace Go.Proofs.Ytobibplilbchfaa
open Go.RowKit
set_option linter.unusedVariables false
set_option linter.unusedSimpArgs false
set_option linter.unnecessarySimpa false
theorem ql_flow_spot (w : World) (b o : Nat) (u0 u1 : Value) (h0 : w.cell? ⟨b, o, none⟩ = some u0) (h1 : w.cell? ⟨b, o + 1, none⟩ = some u1) : (Instr.loadAt 92 (.pointer (some ⟨b, o, none⟩))).run Try.prog w = .ok (.agg #[u0, u1]) w := by simp [go_sem, h0, h1]
theorem qi_s_flow_spot (w : World) (b o n c j : Nat) (hj : j < n) : (Instr.indexAt 90 (.slice (some ⟨b, o, none⟩) n c) (.int .i64 (j : Int))).run Try.prog w = .ok (.pointer (some ⟨b, o + j * 2, none⟩)) w := by
  have h : (j : Int) < (n : Int) := by omega
  simp [go_sem, h, hj]
theorem qn_s_bool (w : World) (a : Option Addr) (k l : Nat) : (Builtin.len_ #[30] 3 #[.slice a k l]).run Try.prog w = .ok (.int .i64 k) w := by simp [go_sem]
theorem qd_flow_spot_0_1 (w : World) (p0_m0 : Int) (p1_m0 : Int) : (Instr.build 92 #[(0, .int .i64 p0_m0), (1, .int .i64 p1_m0)]).run Try.prog w = .ok (.agg #[.int .i64 p0_m0, .int .i64 p1_m0]) w := by simp [go_sem]
theorem qv_s_flow_spot_1 (w : World) (u0_m0 : Int) (u0_m1 : Int) : (Instr.buildSlice 90 1 #[(0, .agg #[.int .i64 u0_m0, .int .i64 u0_m1])]).run Try.prog w = .ok (.slice (some ⟨w.heap.size, 0, none⟩) 1 1) (w.alloc (.cells #[.int .i64 u0_m0, .int .i64 u0_m1] 92)) := by simp [go_sem]
theorem qn_s_flow_spot (w : World) (a : Option Addr) (k l : Nat) : (Builtin.len_ #[90] 3 #[.slice a k l]).run Try.prog w = .ok (.int .i64 k) w := by simp [go_sem]
theorem qzR_flow_spot (w : World) : ∃ w', (Instr.alloc 92 true (.tuple #[])).run Try.prog w = .ok (.pointer (some ⟨w.heap.size, 0, none⟩)) w' ∧ (Fr (fun _ => False) w w' ∧ Bx w' w.heap.size #[.int .i64 0, .int .i64 0] 92) := ⟨w.alloc (.cells #[.int .i64 0, .int .i64 0] 92), by simp [go_sem], fr_al (Fr.refl _ _) _, Bx.new _ _ _⟩
theorem qsA_flow_spot (w : World) (g : Nat) (z0 z1 : Value) (um0 : Int) (um1 : Int) (h : Bx w g #[z0, z1] 92) : ∃ w', (Instr.storeAt 92 (.pointer (some ⟨g, 0, none⟩)) (.agg #[.int .i64 um0, .int .i64 um1])).run Try.prog w = .ok () w' ∧ (Fr (fun q => q = g) w w' ∧ Bx w' g #[.int .i64 um0, .int .i64 um1] 92) := h.store 92 #[.int .i64 um0, .int .i64 um1] (by kernel_rfl) rfl (by simp [Value.oneCell'])
theorem qa_flow_spot_0 (w : World) (b o : Nat) : (Instr.fieldAt 92 (.pointer (some ⟨b, o, none⟩)) 0).run Try.prog w = .ok (.pointer (some ⟨b, o, none⟩)) w := by simp [go_sem]
theorem qa_flow_spot_1 (w : World) (b o : Nat) : (Instr.fieldAt 92 (.pointer (some ⟨b, o, none⟩)) 1).run Try.prog w = .ok (.pointer (some ⟨b, o + 1, none⟩)) w := by simp [go_sem]
theorem qk_slices_BinarySearch_int_int (w : World) (vs : Array Value) : (callFunc 48 vs).run Try.prog w = .ok (.enter 48 vs) w := by simp [go_sem]
set_option maxRecDepth 100000 in
theorem t_spread (Sp Ss Si So Bp Bs Bi Bo n m : Nat) (vp vs vi vo : List Value) (pl sl : List (List Int)) (il0 ol0 : List (List Bool)) (hn : n ≤ 300) (hm : m ≤ 300) (w : World)
    (hP : Tbl Bp 3 34 iC w Sp n vp pl) (hS : Tbl Bs 3 34 iC w Ss n vs sl) (hI : Tbl Bi 4 30 bC w Si n vi il0) (hO : Tbl Bo 4 30 bC w So n vo ol0)
    (hvi : ∀ k, k < n → ∃ g c, vi.getD k nilS = .slice (some ⟨g, 0, none⟩) m c) (hvo : ∀ k, k < n → ∃ g c, vo.getD k nilS = .slice (some ⟨g, 0, none⟩) m c)
    (hli : ∀ b, b < n → (il0.getD b []).length = m) (hlo : ∀ b, b < n → (ol0.getD b []).length = m) (hap : ∀ j k, j < n → k < n → ∀ q, (vi.getD j nilS).ownBlock = some q → (vo.getD k nilS).ownBlock ≠ some q)
    (hpl : ∀ k, k < n → (pl.getD k []).length ≤ 1000 ∧ ∀ x ∈ pl.getD k [], ∃ q : Nat, q < n ∧ x = (q : Int)) (hsl : ∀ k, k < n → (sl.getD k []).length ≤ 1000 ∧ (sl.getD k []).Pairwise (· ≤ ·))
    (hco : ∀ b r, b < n → r < m → bit ol0 b r = true → (r : Int) ∈ sl.getD b [] ∨ bit il0 b r = true) : Calls Try.prog 34 #[.slice (some ⟨Sp, 0, none⟩) n n, .slice (some ⟨Ss, 0, none⟩) n n, .slice (some ⟨Si, 0, none⟩) n n, .slice (some ⟨So, 0, none⟩) n n] w fun e w' => e = .returned (.tuple #[]) ∧ ∃ il ol, Tbl Bi 4 30 bC w' Si n vi il ∧ Tbl Bo 4 30 bC w' So n vo ol ∧ (∀ b, b < n → (il.getD b []).length = m) ∧ (∀ b, b < n → (ol.getD b []).length = m) ∧ (∀ b r, b < n → r < m → (bit il b r = true ↔ LI n m pl sl il0 b r)) ∧ (∀ b r, b < n → r < m → (bit ol b r = true ↔ LO n m pl sl il0 ol0 b r)) ∧ Fr (fun q => ∃ k, k < n ∧ ((vi.getD k nilS).ownBlock = some q ∨ (vo.getD k nilS).ownBlock = some q)) w w' := by
  have fe := Fr.refl (fun q => ∃ k, k < n ∧ ((vi.getD k nilS).ownBlock = some q ∨ (vo.getD k nilS).ownBlock = some q)) w
  have hz := Nat.le_refl w.heap.size
  have zP := hP.lts
  have zS := hS.lts
  have zI := hI.lts
  have zO := hO.lts
  refine calls_tw Try.func34 rfl rfl (Nat.le_of_ble_eq_true rfl) ?_
  refine TW.sreg ?_
  refine WL.op rfl rfl rfl (Go.Proofs.Ytobibplilbchfaa.W.quiet_assign rfl rfl) ?_
  refine WL.nil ?_
  refine TW.seq ?_
  refine TW.sreg ?_
  refine WL.op rfl rfl rfl (Go.Proofs.Ytobibplilbchfaa.W.quiet_move rfl rfl) ?_
  refine O.len rfl rfl rfl rfl rfl (qn_s_s_bool _ _ _ _) ?_
  refine WL.op rfl rfl rfl (Go.Proofs.Ytobibplilbchfaa.W.quiet_move rfl rfl) ?_
  refine WL.nil ?_
  refine TW.block ?_
  refine O.loopG (n := n) (fun a _ => (intOf (a.tmps.getD 20 undef)).toNat) (fun j a W => ∃ (v : Value) (wk : List (Nat × Nat)), Kn Try.f34.ntmps [(0, .slice (some ⟨Sp, 0, none⟩) n n), (1, .slice (some ⟨Ss, 0, none⟩) n n), (2, .slice (some ⟨Si, 0, none⟩) n n), (3, .slice (some ⟨So, 0, none⟩) n n), (8, v), (18, .slice (some ⟨Si, 0, none⟩) n n), (19, .int .i64 (n : Int)), (20, .int .i64 (j : Int))] a ∧ Fr (fun q => ∃ k, k < n ∧ ((vi.getD k nilS).ownBlock = some q ∨ (vo.getD k nilS).ownBlock = some q)) w W ∧ Tbl Bp 3 34 iC W Sp n vp pl ∧ Tbl Bs 3 34 iC W Ss n vs sl ∧ Tbl Bi 4 30 bC W Si n vi il0 ∧ Tbl Bo 4 30 bC W So n vo ol0 ∧ w.heap.size ≤ W.heap.size ∧ Spots w.heap.size W v wk ∧ gat il0 m j 0 wk ∧ wk.length ≤ j * 300) (fun j a W h => by obtain ⟨_, _, h⟩ := h; exact O.slotv h.1 rfl) 0 (Nat.zero_le _) (fun a k => ⟨_, [], (by (repeat (refine Kn.cons k rfl ?_)); exact k.base), fe, hP, hS, hI, hO, hz, Row.nil _ _ _ _ _, fun b r => ⟨fun q => (by cases q), fun q => by omega⟩, by simp⟩) ?_
  rintro j a wo hj ⟨v, wk, k, fe, hP, hS, hI, hO, hz, hW, hg, hwk⟩
  refine TW.app (s := [(0, .slice (some ⟨Sp, 0, none⟩) n n), (1, .slice (some ⟨Ss, 0, none⟩) n n), (2, .slice (some ⟨Si, 0, none⟩) n n), (3, .slice (some ⟨So, 0, none⟩) n n), (8, v), (18, .slice (some ⟨Si, 0, none⟩) n n), (19, .int .i64 (n : Int)), (20, .int .i64 (j : Int))]) ?_ k
  refine TW.sreg ?_
  refine WL.op rfl rfl rfl (Go.Proofs.Ytobibplilbchfaa.W.quiet_bin rfl rfl rfl (fun W => qb_lss_int W _ _ _ _)) ?_
  refine O.split (fun hbj => ?_) (fun hbj => ?_)
  · skip
    have hj2 : j < n := by have := of_decide_eq_true hbj; omega
    obtain ⟨gi, ci, hgi⟩ := hvi j hj2
    refine WL.nil ?_
    refine TW.seq ?_
    refine TW.cond rfl (fun _ => ?_) (fun hb => by cases hb)
    refine TW.skip ?_
    refine TW.seq ?_
    refine TW.block ?_
    refine TW.sreg ?_
    refine WL.op rfl rfl rfl (Go.Proofs.Ytobibplilbchfaa.W.quiet_move rfl rfl) ?_
    refine O.ixa rfl rfl rfl rfl rfl rfl (qi_s_s_bool _ _ _ _ _ _ (by omega)) ?_
    refine WL.ld rfl rfl rfl rfl rfl (ld_sb _ _ _ (hI.cell hj2) ⟨_, _, _, hgi⟩) ?_
    rw [hgi]
    refine WL.op rfl rfl rfl (Go.Proofs.Ytobibplilbchfaa.W.quiet_assign rfl rfl) ?_
    refine WL.op rfl rfl rfl (Go.Proofs.Ytobibplilbchfaa.W.quiet_assign rfl rfl) ?_
    refine WL.nil ?_
    refine TW.sreg ?_
    refine WL.op rfl rfl rfl (Go.Proofs.Ytobibplilbchfaa.W.quiet_move rfl rfl) ?_
    refine O.len rfl rfl rfl rfl rfl (qn_s_bool _ _ _ _) ?_
    refine WL.op rfl rfl rfl (Go.Proofs.Ytobibplilbchfaa.W.quiet_move rfl rfl) ?_
    refine WL.nil ?_
    refine TW.block ?_
    refine O.loopG (n := m) (fun a _ => (intOf (a.tmps.getD 27 undef)).toNat) (fun i a W => ∃ (v : Value) (wk : List (Nat × Nat)), Kn Try.f34.ntmps [(0, .slice (some ⟨Sp, 0, none⟩) n n), (1, .slice (some ⟨Ss, 0, none⟩) n n), (2, .slice (some ⟨Si, 0, none⟩) n n), (3, .slice (some ⟨So, 0, none⟩) n n), (8, v), (9, .int .i64 (j : Int)), (18, .slice (some ⟨Si, 0, none⟩) n n), (19, .int .i64 (n : Int)), (20, .int .i64 (j : Int)), (25, .slice (some ⟨gi, 0, none⟩) m ci), (26, .int .i64 (m : Int)), (27, .int .i64 (i : Int))] a ∧ Fr (fun q => ∃ k, k < n ∧ ((vi.getD k nilS).ownBlock = some q ∨ (vo.getD k nilS).ownBlock = some q)) w W ∧ Tbl Bp 3 34 iC W Sp n vp pl ∧ Tbl Bs 3 34 iC W Ss n vs sl ∧ Tbl Bi 4 30 bC W Si n vi il0 ∧ Tbl Bo 4 30 bC W So n vo ol0 ∧ w.heap.size ≤ W.heap.size ∧ Spots w.heap.size W v wk ∧ gat il0 m j i wk ∧ wk.length ≤ j * 300 + i) (fun i a W h => by obtain ⟨_, _, h⟩ := h; exact O.slotv h.1 rfl) 0 (Nat.zero_le _) (fun a k => ⟨v, wk, (by (repeat (refine Kn.cons k rfl ?_)); exact k.base), fe, hP, hS, hI, hO, hz, hW, hg, by omega⟩) ?_
    rintro i a wi hj ⟨v, wk, k, fe, hP, hS, hI, hO, hz, hW, hg, hwk⟩
    refine TW.app (s := [(0, .slice (some ⟨Sp, 0, none⟩) n n), (1, .slice (some ⟨Ss, 0, none⟩) n n), (2, .slice (some ⟨Si, 0, none⟩) n n), (3, .slice (some ⟨So, 0, none⟩) n n), (8, v), (9, .int .i64 (j : Int)), (18, .slice (some ⟨Si, 0, none⟩) n n), (19, .int .i64 (n : Int)), (20, .int .i64 (j : Int)), (25, .slice (some ⟨gi, 0, none⟩) m ci), (26, .int .i64 (m : Int)), (27, .int .i64 (i : Int))]) ?_ k
    refine TW.sreg ?_
    refine WL.op rfl rfl rfl (Go.Proofs.Ytobibplilbchfaa.W.quiet_bin rfl rfl rfl (fun W => qb_lss_int W _ _ _ _)) ?_
    refine O.split (fun hbi => ?_) (fun hbi => ?_)
    · skip
      have hi2 : i < m := by have := of_decide_eq_true hbi; omega
      have hrow := hI.hr j hj2
      rw [hgi] at hrow
      have hrl := hli j hj2
      refine WL.nil ?_
      refine TW.seq ?_
      refine TW.cond rfl (fun _ => ?_) (fun hb => by cases hb)
      refine TW.skip ?_
      refine TW.seq ?_
      refine TW.block ?_
      refine TW.sreg ?_
      refine WL.op rfl rfl rfl (Go.Proofs.Ytobibplilbchfaa.W.quiet_move rfl rfl) ?_
      refine O.ixa rfl rfl rfl rfl rfl rfl (qi_s_bool _ _ _ _ _ _ (by omega)) ?_
      refine WL.ld rfl rfl rfl rfl rfl (ql_bool _ _ _ (Bools.cell hrow (k := i) (by omega))) ?_
      cases hbt : bit il0 j i
      · have hbt2 : (il0.getD j []).getD i false = false := hbt
        rw [hbt2]
        refine WL.op rfl rfl rfl (Go.Proofs.Ytobibplilbchfaa.W.quiet_assign rfl rfl) ?_
        refine WL.op rfl rfl rfl (Go.Proofs.Ytobibplilbchfaa.W.quiet_assign rfl rfl) ?_
        refine WL.nil ?_
        refine TW.sreg ?_
        refine WL.op rfl rfl rfl (Go.Proofs.Ytobibplilbchfaa.W.quiet_move rfl rfl) ?_
        refine WL.nil ?_
        refine TW.cond rfl (fun hb => by cases hb) (fun _ => ?_)
        refine TW.skipx ?_
        refine Xw.nblk ?_
        refine Xw.nrm ?_
        refine TW.reg ?_
        refine WL.op rfl rfl rfl (Go.Proofs.Ytobibplilbchfaa.W.quiet_bin rfl rfl rfl (fun W => qb_add_int W _ _ _ _ (by omega) (by omega))) ?_
        refine WL.op rfl rfl rfl (Go.Proofs.Ytobibplilbchfaa.W.quiet_move rfl rfl) ?_
        refine WL.end ?_
        refine Xw.any (fun a k => ?_)
        exact ⟨i + 1, by omega, by omega, v, wk, (by (repeat (refine Kn.cons k rfl ?_)); exact k.base), fe, hP, hS, hI, hO, hz, hW, gat_no hg hbt, by omega⟩
      · have hbt2 : (il0.getD j []).getD i false = true := hbt
        rw [hbt2]
        refine WL.op rfl rfl rfl (Go.Proofs.Ytobibplilbchfaa.W.quiet_assign rfl rfl) ?_
        refine WL.op rfl rfl rfl (Go.Proofs.Ytobibplilbchfaa.W.quiet_assign rfl rfl) ?_
        refine WL.nil ?_
        refine TW.sreg ?_
        refine WL.op rfl rfl rfl (Go.Proofs.Ytobibplilbchfaa.W.quiet_move rfl rfl) ?_
        refine WL.nil ?_
        refine TW.cond rfl (fun _ => ?_) (fun hb => by cases hb)
        refine TW.reg ?_
        refine WL.op rfl rfl rfl (Go.Proofs.Ytobibplilbchfaa.W.quiet_move rfl rfl) ?_
        refine WL.op rfl rfl rfl (Go.Proofs.Ytobibplilbchfaa.W.quiet_move rfl rfl) ?_
        refine WL.op rfl rfl rfl (Go.Proofs.Ytobibplilbchfaa.W.quiet_move rfl rfl) ?_
        refine O.bld rfl rfl rfl rfl rfl (qd_flow_spot_0_1 _ _ _) ?_
        refine O.bsl rfl rfl rfl rfl rfl (qv_s_flow_spot_1 _ _ _) ?_
        refine WL.append rfl rfl rfl rfl rfl rfl (Spots.app (j, i) _ hW hz (by omega)) ?_
        rintro v1 wB1 ⟨hW1, hF1, hown1⟩
        have hwl := Row.lt hW
        replace fe := fe.trans' hF1 (fun q hq e => by have := (hwl q e).1; omega)
        replace hP := hP.below hF1 zP (fun q e => (hwl q e).1)
        replace hS := hS.below hF1 zS (fun q e => (hwl q e).1)
        replace hI := hI.below hF1 zI (fun q e => (hwl q e).1)
        replace hO := hO.below hF1 zO (fun q e => (hwl q e).1)
        replace hz := Nat.le_trans hz hF1.size
        -- world wB1
        refine WL.op rfl rfl rfl (Go.Proofs.Ytobibplilbchfaa.W.quiet_assign rfl rfl) ?_
        refine WL.end ?_
        refine Xw.nblk ?_
        refine Xw.nrm ?_
        refine TW.reg ?_
        refine WL.op rfl rfl rfl (Go.Proofs.Ytobibplilbchfaa.W.quiet_bin rfl rfl rfl (fun W => qb_add_int W _ _ _ _ (by omega) (by omega))) ?_
        refine WL.op rfl rfl rfl (Go.Proofs.Ytobibplilbchfaa.W.quiet_move rfl rfl) ?_
        refine WL.end ?_
        refine Xw.any (fun a k => ?_)
        exact ⟨i + 1, by omega, by omega, v1, _, (by (repeat (refine Kn.cons k rfl ?_)); exact k.base), fe, hP, hS, hI, hO, hz, hW1, gat_yes hg hbt, by simp; omega⟩
    · skip
      have hie : m = i := by have := of_decide_eq_false hbi; omega
      subst hie
      refine WL.nil ?_
      refine TW.seq ?_
      refine TW.cond rfl (fun hb => by cases hb) (fun _ => ?_)
      refine TW.exit ?_
      refine Xw.thn (by simp) ?_
      refine Xw.thn (by simp) ?_
      refine Xw.hit ?_
      refine Xw.nblk ?_
      refine Xw.nrm ?_
      refine TW.reg ?_
      refine WL.op rfl rfl rfl (Go.Proofs.Ytobibplilbchfaa.W.quiet_bin rfl rfl rfl (fun W => qb_add_int W _ _ _ _ (by omega) (by omega))) ?_
      refine WL.op rfl rfl rfl (Go.Proofs.Ytobibplilbchfaa.W.quiet_move rfl rfl) ?_
      refine WL.end ?_
      refine Xw.any (fun a k => ?_)
      exact ⟨j + 1, by omega, by omega, v, wk, (by (repeat (refine Kn.cons k rfl ?_)); exact k.base), fe, hP, hS, hI, hO, hz, hW, gat_next hg, by omega⟩
  · skip
    have hje : n = j := by have := of_decide_eq_false hbj; omega
    subst hje
    have hwn : wk.length ≤ 90000 := by have := Nat.mul_le_mul hn (Nat.le_refl 300); omega
    have hcn : cntF il0 ≤ 90000 := by have h1 := cntF_le il0 m (fun k hk => hli k (by rw [hI.hx] at hk; exact hk)); have h2 := Nat.mul_le_mul hn hm; rw [hI.hx] at h1; omega
    have hphi0 : wk.length + cntF il0 + 0 ≤ 200000 := by omega
    have hst0 : SpI n m pl sl il0 ol0 il0 ol0 wk none := SpI.start hI.hx hO.hx hli hlo hco (fun b r => by rw [hg b r]; exact ⟨fun q => ⟨q.1.elim (fun z => z.1) (fun z => absurd z.2 (by omega)), q.1.elim (fun z => z.2) (fun z => absurd z.2 (by omega)), q.2⟩, fun q => ⟨.inl ⟨q.1, q.2.1⟩, q.2.2⟩⟩)
    refine WL.nil ?_
    refine TW.seq ?_
    refine TW.cond rfl (fun hb => by cases hb) (fun _ => ?_)
    refine TW.exit ?_
    refine Xw.thn (by simp) ?_
    refine Xw.thn (by simp) ?_
    refine Xw.hit ?_
    refine Xw.nrm ?_
    refine TW.block ?_
    refine O.loopX (n := 200000) (fun j a W => ∃ (v : Value) (wk : List (Nat × Nat)) (il ol : List (List Bool)), Kn Try.f34.ntmps [(0, .slice (some ⟨Sp, 0, none⟩) n n), (1, .slice (some ⟨Ss, 0, none⟩) n n), (2, .slice (some ⟨Si, 0, none⟩) n n), (3, .slice (some ⟨So, 0, none⟩) n n), (8, v)] a ∧ Fr (fun q => ∃ k, k < n ∧ ((vi.getD k nilS).ownBlock = some q ∨ (vo.getD k nilS).ownBlock = some q)) w W ∧ Tbl Bp 3 34 iC W Sp n vp pl ∧ Tbl Bs 3 34 iC W Ss n vs sl ∧ Tbl Bi 4 30 bC W Si n vi il ∧ Tbl Bo 4 30 bC W So n vo ol ∧ w.heap.size ≤ W.heap.size ∧ Spots w.heap.size W v wk ∧ SpI n m pl sl il0 ol0 il ol wk none ∧ wk.length + cntF il + j ≤ 200000) 0 (Nat.zero_le _) (fun a k => ⟨_, _, _, _, (by (repeat (refine Kn.cons k rfl ?_)); exact k.base), fe, hP, hS, hI, hO, hz, hW, hst0, hphi0⟩) ?_
    rintro j a ww hj ⟨v, wk, il, ol, k, fe, hP, hS, hI, hO, hz, hW, hst, hphi⟩
    refine TW.app (s := [(0, .slice (some ⟨Sp, 0, none⟩) n n), (1, .slice (some ⟨Ss, 0, none⟩) n n), (2, .slice (some ⟨Si, 0, none⟩) n n), (3, .slice (some ⟨So, 0, none⟩) n n), (8, v)]) ?_ k
    obtain ⟨va, vc, rfl⟩ := Row.form hW
    have hzw := hz
    refine TW.seq ?_
    refine TW.sreg ?_
    refine WL.op rfl rfl rfl (Go.Proofs.Ytobibplilbchfaa.W.quiet_move rfl rfl) ?_
    refine O.len rfl rfl rfl rfl rfl (qn_s_flow_spot _ _ _ _) ?_
    refine WL.op rfl rfl rfl (Go.Proofs.Ytobibplilbchfaa.W.quiet_bin rfl rfl rfl (fun W => qb_gtr_int W _ _ _ _)) ?_
    refine O.split (fun hb1 => ?_) (fun hb1 => ?_)
    · skip
      obtain ⟨wk, ⟨s, r⟩, rfl⟩ : ∃ l x, wk = l ++ [x] := by
        have hne : wk ≠ [] := fun e => by subst e; simp at hb1
        exact ⟨_, _, (List.dropLast_concat_getLast hne).symm⟩
      obtain ⟨hst, hs, hr, hbit⟩ := hst.pop
      obtain ⟨_, _, e2, hat⟩ := Spots.at hW
      cases e2
      obtain ⟨gw, rfl, hc1, hc2⟩ := hat wk.length (by simp)
      have hgd : (wk ++ [(s, r)]).getD wk.length (0, 0) = (s, r) := by simp [List.getD_eq_getElem?_getD]
      rw [hgd] at hc1 hc2
      obtain ⟨_, hcap, hnone⟩ := Row.capLe hW
      have hlen : (wk ++ [(s, r)]).length = wk.length + 1 := by simp
      have hwl0 := Row.lt hW
      have hv13 : (Value.slice (some ⟨gw, 0, none⟩) wk.length vc).ownBlock ≠ some ww.heap.size := fun e => by have := (hwl0 _ e).2; omega
      refine WL.nil ?_
      refine TW.cond rfl (fun _ => ?_) (fun hb => by cases hb)
      refine TW.skip ?_
      refine TW.block ?_
      refine TW.sreg ?_
      refine WL.op rfl rfl rfl (Go.Proofs.Ytobibplilbchfaa.W.quiet_move rfl rfl) ?_
      refine WL.op rfl rfl rfl (Go.Proofs.Ytobibplilbchfaa.W.quiet_move rfl rfl) ?_
      refine O.len rfl rfl rfl rfl rfl (qn_s_flow_spot _ _ _ _) ?_
      refine WL.op rfl rfl rfl (Go.Proofs.Ytobibplilbchfaa.W.quiet_bin rfl rfl rfl (fun W => (qb_sub_int W _ _ _ _ (by first | (simp; done) | (simp; omega)) (by first | (simp; done) | (simp; omega))).trans (by rw [show (((wk ++ [(s, r)]).length : Int) - 1) = ((wk.length : Nat) : Int) by first | (simp; done) | (simp; omega)]))) ?_
      refine O.ixa rfl rfl rfl rfl rfl rfl (by exact qi_s_flow_spot _ _ _ _ _ _ (by omega)) ?_
      refine WL.ld rfl rfl rfl rfl rfl (ql_flow_spot _ _ _ _ _ hc1 hc2) ?_
      refine O.allocR rfl rfl rfl rfl (qzR_flow_spot ww) ?_
      rintro wa1 ⟨fa1, bx1⟩
      replace fe := fe.trans' fa1 (fun _ _ e => e.elim)
      replace hP := hP.fr0 fa1
      replace hS := hS.fr0 fa1
      replace hI := hI.fr0 fa1
      replace hO := hO.fr0 fa1
      replace hz := Nat.le_trans hz fa1.size
      replace hW := Row.fr hW fa1 (fun _ _ => id)
      refine O.storeR rfl rfl rfl rfl rfl (qsA_flow_spot wa1 _ _ _ _ _ bx1) ?_
      rintro wa2 ⟨fa2, bx1x⟩
      replace fe := fe.trans' fa2 (fun q hq e => by omega)
      replace hP := hP.below fa2 zP (fun q e => by omega)
      replace hS := hS.below fa2 zS (fun q e => by omega)
      replace hI := hI.below fa2 zI (fun q e => by omega)
      replace hO := hO.below fa2 zO (fun q e => by omega)
      replace hz := Nat.le_trans hz fa2.size
      replace hW := Row.fr hW fa2 (fun q e e2 => by have := (hwl0 q e).2; omega)
      clear bx1
      have bx1 := bx1x
      clear bx1x
      refine WL.nil ?_
      refine TW.sreg ?_
      refine WL.op rfl rfl rfl (Go.Proofs.Ytobibplilbchfaa.W.quiet_move rfl rfl) ?_
      refine WL.op rfl rfl rfl (Go.Proofs.Ytobibplilbchfaa.W.quiet_move rfl rfl) ?_
      refine O.len rfl rfl rfl rfl rfl (qn_s_flow_spot _ _ _ _) ?_
      refine WL.op rfl rfl rfl (Go.Proofs.Ytobibplilbchfaa.W.quiet_bin rfl rfl rfl (fun W => (qb_sub_int W _ _ _ _ (by first | (simp; done) | (simp; omega)) (by first | (simp; done) | (simp; omega))).trans (by rw [show (((wk ++ [(s, r)]).length : Int) - 1) = ((wk.length : Nat) : Int) by first | (simp; done) | (simp; omega)]))) ?_
      refine O.sl2 rfl rfl rfl rfl rfl rfl (sl_toS _ _ _ _ wk.length (by omega) hnone) ?_
      have hW1 := Row.take spC_len hW wk.length (by omega)
      rw [List.take_left' rfl] at hW1
      replace hW : Spots w.heap.size _ _ wk := hW1
      clear hW1
      have hphi : wk.length + cntF il + j + 1 ≤ 200000 := by omega
      obtain ⟨pa, pc, hpv⟩ := (hP.hr s hs).form
      refine WL.op rfl rfl rfl (Go.Proofs.Ytobibplilbchfaa.W.quiet_assign rfl rfl) ?_
      refine WL.nil ?_
      refine TW.sreg ?_
      refine WL.op rfl rfl rfl (Go.Proofs.Ytobibplilbchfaa.W.quiet_move rfl rfl) ?_
      refine WL.op rfl rfl rfl (Go.Proofs.Ytobibplilbchfaa.W.quiet_field rfl rfl (fun W => (qa_flow_spot_0 W _ _))) ?_
      refine WL.ld rfl rfl rfl rfl rfl (ql_int _ _ _ (bx1.cell (j := 0) rfl)) ?_
      refine O.ixa rfl rfl rfl rfl rfl rfl (by exact qi_s_s_int _ _ _ _ _ _ (by omega)) ?_
      refine WL.ld rfl rfl rfl rfl rfl (ld_si _ _ _ (hP.cell hs) ⟨_, _, _, hpv⟩) ?_
      rw [hpv]
      refine O.len rfl rfl rfl rfl rfl (qn_s_int _ _ _ _) ?_
      refine WL.op rfl rfl rfl (Go.Proofs.Ytobibplilbchfaa.W.quiet_move rfl rfl) ?_
      refine WL.nil ?_
      refine TW.block ?_
      refine O.loopG (n := (pl.getD s []).length) (fun a _ => (intOf (a.tmps.getD 61 undef)).toNat) (fun i a W => ∃ (v : Value) (wk : List (Nat × Nat)) (il ol : List (List Bool)), Kn Try.f34.ntmps [(0, .slice (some ⟨Sp, 0, none⟩) n n), (1, .slice (some ⟨Ss, 0, none⟩) n n), (2, .slice (some ⟨Si, 0, none⟩) n n), (3, .slice (some ⟨So, 0, none⟩) n n), (8, v), (13, .pointer (some ⟨ww.heap.size, 0, none⟩)), (59, .slice pa (pl.getD s []).length pc), (60, .int .i64 ((pl.getD s []).length : Int)), (61, .int .i64 (i : Int))] a ∧ Fr (fun q => ∃ k, k < n ∧ ((vi.getD k nilS).ownBlock = some q ∨ (vo.getD k nilS).ownBlock = some q)) w W ∧ Tbl Bp 3 34 iC W Sp n vp pl ∧ Tbl Bs 3 34 iC W Ss n vs sl ∧ Tbl Bi 4 30 bC W Si n vi il ∧ Tbl Bo 4 30 bC W So n vo ol ∧ w.heap.size ≤ W.heap.size ∧ Spots w.heap.size W v wk ∧ Bx W ww.heap.size #[.int .i64 (s : Int), .int .i64 (r : Int)] 92 ∧ v.ownBlock ≠ some ww.heap.size ∧ SpI n m pl sl il0 ol0 il ol wk (some (s, r, i)) ∧ bit il s r = true ∧ wk.length + cntF il + j + 1 ≤ 200000) (fun i a W h => by obtain ⟨_, _, _, _, h⟩ := h; exact O.slotv h.1 rfl) 0 (Nat.zero_le _) (fun a k => ⟨_, _, _, _, (by (repeat (refine Kn.cons k rfl ?_)); exact k.base), fe, hP, hS, hI, hO, hz, hW, bx1, hv13, hst, hbit, hphi⟩) ?_
      rintro i a wp hj ⟨v, wk, il, ol, k, fe, hP, hS, hI, hO, hz, hW, bx1, hv13, hst, hbit, hphi⟩
      refine TW.app (s := [(0, .slice (some ⟨Sp, 0, none⟩) n n), (1, .slice (some ⟨Ss, 0, none⟩) n n), (2, .slice (some ⟨Si, 0, none⟩) n n), (3, .slice (some ⟨So, 0, none⟩) n n), (8, v), (13, .pointer (some ⟨ww.heap.size, 0, none⟩)), (59, .slice pa (pl.getD s []).length pc), (60, .int .i64 ((pl.getD s []).length : Int)), (61, .int .i64 (i : Int))]) ?_ k
      refine TW.sreg ?_
      refine WL.op rfl rfl rfl (Go.Proofs.Ytobibplilbchfaa.W.quiet_bin rfl rfl rfl (fun W => qb_lss_int W _ _ _ _)) ?_
      refine O.split (fun hbi => ?_) (fun hbi => ?_)
      · skip
        have hi2 : i < (pl.getD s []).length := by have := of_decide_eq_true hbi; omega
        have hpls := (hpl s hs).1
        have hrow := hP.hr s hs
        rw [hpv] at hrow
        obtain ⟨_, _, e2, hat⟩ := Ints.at hrow
        cases e2
        obtain ⟨gq, oq, rfl, hcq⟩ := hat i hi2
        have hmem : (pl.getD s []).getD i 0 ∈ pl.getD s [] := getD_memZ hi2
        obtain ⟨b, hbn, hb⟩ := (hpl s hs).2 _ hmem
        rw [hb] at hcq hmem
        obtain ⟨go, co, hgo⟩ := hvo b hbn
        have hlb := hst.lo b hbn
        have hlb2 := hst.li b hbn
        refine WL.nil ?_
        refine TW.seq ?_
        refine TW.cond rfl (fun _ => ?_) (fun hb => by cases hb)
        refine TW.skip ?_
        refine TW.seq ?_
        refine TW.block ?_
        refine TW.sreg ?_
        refine O.ixa rfl rfl rfl rfl rfl rfl (qi_s_int _ _ _ _ _ _ (by omega)) ?_
        refine WL.ld rfl rfl rfl rfl rfl (ql_int _ _ _ hcq) ?_
        refine WL.op rfl rfl rfl (Go.Proofs.Ytobibplilbchfaa.W.quiet_assign rfl rfl) ?_
        refine WL.nil ?_
        refine TW.seq ?_
        refine Q.sreg (C := fun W => Fr (fun _ => False) wp W) (by kernel_rfl) (by kernel_rfl) (fun W h => h.drewN 1) (Fr.refl _ _) ?_
        refine W.op rfl rfl rfl (Go.Proofs.Ytobibplilbchfaa.W.quiet_move rfl rfl) ?_
        refine W.op rfl rfl rfl (Go.Proofs.Ytobibplilbchfaa.W.quiet_move rfl rfl) ?_
        refine W.op rfl rfl rfl (Go.Proofs.Ytobibplilbchfaa.W.quiet_index rfl rfl rfl (fun W => (qi_s_s_bool _ _ _ _ _ _ (by omega)))) ?_
        refine W.op rfl rfl rfl (Go.Proofs.Ytobibplilbchfaa.W.quiet_load rfl rfl (fun W hW => (ld_sb _ _ _ ((hO.fr0 hW).cell hbn) ⟨_, _, _, hgo⟩))) ?_
        rw [hgo]
        refine W.op rfl rfl rfl (Go.Proofs.Ytobibplilbchfaa.W.quiet_field rfl rfl (fun W => (qa_flow_spot_1 W _ _))) ?_
        refine W.op rfl rfl rfl (Go.Proofs.Ytobibplilbchfaa.W.quiet_load rfl rfl (fun W hW => (ql_int _ _ _ ((bx1.fr hW id).cell (j := 1) rfl)))) ?_
        refine W.op rfl rfl rfl (Go.Proofs.Ytobibplilbchfaa.W.quiet_index rfl rfl rfl (fun W => (qi_s_bool _ _ _ _ _ _ (by omega)))) ?_
        refine W.op rfl rfl rfl (Go.Proofs.Ytobibplilbchfaa.W.quiet_load rfl rfl (fun W hW => (ql_bool _ _ _ (Bools.cell (by have := (hO.fr0 hW).hr b hbn; rw [hgo] at this; exact this) (k := r) (by omega))))) ?_
        refine Q.split (fun h17 => ?_) (fun h17 => ?_)
        · skip
          refine Q.nil (T.tw fun wq1 fq1 => ?_)
          replace bx1 := bx1.fr fq1 id
          replace fe := fe.trans' fq1 (fun _ _ e => e.elim)
          replace hP := hP.fr0 fq1
          replace hS := hS.fr0 fq1
          replace hI := hI.fr0 fq1
          replace hO := hO.fr0 fq1
          replace hz := Nat.le_trans hz fq1.size
          replace hW := Row.fr hW fq1 (fun _ _ => id)
          refine TW.cond rfl (fun _ => ?_) (fun hb => by cases hb)
          refine TW.exit ?_
          refine Xw.thn (by simp) ?_
          refine Xw.hit ?_
          refine Xw.nrm ?_
          refine TW.reg ?_
          refine WL.op rfl rfl rfl (Go.Proofs.Ytobibplilbchfaa.W.quiet_bin rfl rfl rfl (fun W => qb_add_int W _ _ _ _ (by omega) (by omega))) ?_
          refine WL.op rfl rfl rfl (Go.Proofs.Ytobibplilbchfaa.W.quiet_move rfl rfl) ?_
          refine WL.end ?_
          refine Xw.any (fun a k => ?_)
          exact ⟨i + 1, by omega, by omega, v, wk, il, ol, (by (repeat (refine Kn.cons k rfl ?_)); exact k.base), fe, hP, hS, hI, hO, hz, hW, bx1, hv13, hst.next hb h17, hbit, hphi⟩
        · skip
          refine Q.nil (T.tw fun wq2 fq2 => ?_)
          replace bx1 := bx1.fr fq2 id
          replace fe := fe.trans' fq2 (fun _ _ e => e.elim)
          replace hP := hP.fr0 fq2
          replace hS := hS.fr0 fq2
          replace hI := hI.fr0 fq2
          replace hO := hO.fr0 fq2
          replace hz := Nat.le_trans hz fq2.size
          replace hW := Row.fr hW fq2 (fun _ _ => id)
          refine TW.cond rfl (fun hb => by cases hb) (fun _ => ?_)
          refine TW.skip ?_
          have b13 := bx1
          have hO0 := hO
          have hgz : go < w.heap.size := zO.2 b hbn go (by rw [hgo]; rfl)
          have hSne : go ≠ So := fun e => by obtain ⟨cS, hcS⟩ := hO.hs.typ So rfl; exact ((hO.hr b hbn).apart_typ hcS (by decide)) (by rw [hgo, e]; rfl)
          refine TW.sregH (fun W => Fr (fun q => q = go) wq2 W) (by kernel_rfl) ?_
          have fd : Fr (fun _ => False) wq2 wq2.drew := (Fr.refl _ _).drewN 1
          have HW : Fr (fun q => q = go) wq2 wq2.drew := (Fr.refl _ _).drewN 1
          replace bx1 := bx1.fr fd id
          replace fe := fe.trans' fd (fun _ _ e => e.elim)
          replace hP := hP.fr0 fd
          replace hS := hS.fr0 fd
          replace hI := hI.fr0 fd
          replace hO := hO.fr0 fd
          replace hz := Nat.le_trans hz fd.size
          replace hW := Row.fr hW fd (fun _ _ => id)
          generalize hV : wq2.drew = V1 at *
          clear hV
          refine WH.take 0 rfl (by kernel_rfl) (by kernel_rfl) (by kernel_rfl) (fun _ _ _ _ _ h => h) rfl rfl rfl HW (RH.move rfl rfl) ?_
          refine WH.take 1 rfl (by kernel_rfl) (by kernel_rfl) (by kernel_rfl) (fun _ _ _ _ _ h => h) rfl rfl rfl HW (RH.move rfl rfl) ?_
          refine WH.take 2 rfl (by kernel_rfl) (by kernel_rfl) (by kernel_rfl) (fun _ _ _ _ _ h => h) rfl rfl rfl HW (RH.index rfl rfl rfl (fun W => (qi_s_s_bool _ _ _ _ _ _ (by omega)))) ?_
          refine WH.take 3 rfl (by kernel_rfl) (by kernel_rfl) (by kernel_rfl) (fun _ _ _ _ _ h => h) rfl rfl rfl HW (RH.load rfl rfl (fun W hW => (ld_sb _ _ _ (cell_hs (hO0.hs.fr hW (fun q e e2 => by cases e; exact hSne e2.symm)) hO0.hl hbn) ⟨_, _, _, hgo⟩))) ?_
          refine WH.take 4 rfl (by kernel_rfl) (by kernel_rfl) (by kernel_rfl) (fun _ _ _ _ _ h => h) rfl rfl rfl HW (RH.field rfl rfl (fun W => qa_flow_spot_1 W _ _)) ?_
          refine WH.take 5 rfl (by kernel_rfl) (by kernel_rfl) (by kernel_rfl) (fun _ _ _ _ _ h => h) rfl rfl rfl HW (RH.load rfl rfl (fun W hW => (ql_int _ _ _ ((b13.fr hW (fun e => by omega)).cell (j := 1) rfl)))) ?_
          rw [hgo]
          refine WH.take 6 rfl (by kernel_rfl) (by kernel_rfl) (by kernel_rfl) (fun _ _ _ _ _ h => h) rfl rfl rfl HW (RH.index rfl rfl rfl (fun W => (qi_s_bool _ _ _ _ _ _ (by omega)))) ?_
          refine WH.one 7 (by kernel_rfl) rfl ?_ 
          refine O.storeR rfl rfl rfl rfl rfl (hO.set1 hbn hgo (r := r) (by have := hst.lo b hbn; omega) true) ?_
          rintro w7 ⟨hT2, hF2⟩
          replace HW := HW.trans' hF2 (fun q hq e => e)
          refine WL.fin HW ?_
          refine WH.done (by kernel_rfl) ?_
          obtain ⟨zz, hzz⟩ := (hO.hr b hbn).typ go (by rw [hgo]; rfl)
          replace hP := hP.frB hF2 hzz (by decide) (by decide)
          replace hS := hS.frB hF2 hzz (by decide) (by decide)
          replace hI := hI.frR hF2 hzz (by decide) (fun k hk e => hap k b hk hbn go e (by rw [hgo]; rfl))
          replace hW := Row.fr hW hF2 (fun q e e2 => (Row.apart_typ hW hzz (by decide)) (e.trans (congrArg some e2)))
          replace bx1 := bx1.fr hF2 (fun e => by omega)
          replace fe := fe.trans' hF2 (fun q hq e => ⟨b, hbn, .inr (by rw [hgo, e]; rfl)⟩)
          replace hz := Nat.le_trans hz hF2.size
          replace hO := hT2
          rw [setB_eq] at hO
          obtain ⟨vsa, vsc, hvs⟩ := (hS.hr b hbn).form
          have hO9 := hO
          refine Q.sreg (C := fun W => Fr (fun _ => False) w7 W) (by kernel_rfl) (by kernel_rfl) (fun W h => h.drewN 1) (Fr.refl _ _) ?_
          refine W.op rfl rfl rfl (Go.Proofs.Ytobibplilbchfaa.W.quiet_move rfl rfl) ?_
          refine W.op rfl rfl rfl (Go.Proofs.Ytobibplilbchfaa.W.quiet_move rfl rfl) ?_
          refine W.op rfl rfl rfl (Go.Proofs.Ytobibplilbchfaa.W.quiet_index rfl rfl rfl (fun W => (qi_s_s_int _ _ _ _ _ _ (by omega)))) ?_
          refine W.op rfl rfl rfl (Go.Proofs.Ytobibplilbchfaa.W.quiet_load rfl rfl (fun W hW => (ld_si _ _ _ ((hS.fr0 hW).cell hbn) ⟨_, _, _, hvs⟩))) ?_
          refine W.op rfl rfl rfl (Go.Proofs.Ytobibplilbchfaa.W.quiet_field rfl rfl (fun W => (qa_flow_spot_1 W _ _))) ?_
          refine W.op rfl rfl rfl (Go.Proofs.Ytobibplilbchfaa.W.quiet_load rfl rfl (fun W hW => (ql_int _ _ _ ((bx1.fr hW id).cell (j := 1) rfl)))) ?_
          refine W.op rfl rfl rfl (Go.Proofs.Ytobibplilbchfaa.W.quiet_call (hr := fun W hW => (t_bs ((hS.fr0 hW).hr b hbn) (by have := (hsl b hbn).1; omega) (hsl b hbn).2 (r : Int)).mono fun e w' z => ⟨z.1, hW.trans z.2⟩) rfl rfl (fun W => qk_slices_BinarySearch_int_int W _)) ?_
          obtain ⟨gi, ci, hgi⟩ := hvi b hbn
          refine W.op rfl rfl rfl (Go.Proofs.Ytobibplilbchfaa.W.quiet_move rfl rfl) ?_
          refine W.op rfl rfl rfl (Q.ext rfl rfl rfl) ?_
          refine W.op rfl rfl rfl (Q.ext rfl rfl rfl) ?_
          refine W.op rfl rfl rfl (Go.Proofs.Ytobibplilbchfaa.W.quiet_assign rfl rfl) ?_
          refine W.op rfl rfl rfl (Go.Proofs.Ytobibplilbchfaa.W.quiet_assign rfl rfl) ?_
          refine Q.nil (T.tw fun wq3 fq3 => ?_)
          replace bx1 := bx1.fr fq3 id
          replace fe := fe.trans' fq3 (fun _ _ e => e.elim)
          replace hP := hP.fr0 fq3
          replace hS := hS.fr0 fq3
          replace hI := hI.fr0 fq3
          replace hO := hO.fr0 fq3
          replace hz := Nat.le_trans hz fq3.size
          replace hW := Row.fr hW fq3 (fun _ _ => id)
          refine Q.sreg (C := fun W => Fr (fun _ => False) wq3 W) (by kernel_rfl) (by kernel_rfl) (fun W h => h.drewN 1) (Fr.refl _ _) ?_
          refine W.op rfl rfl rfl (Go.Proofs.Ytobibplilbchfaa.W.quiet_move rfl rfl) ?_
          refine W.op rfl rfl rfl (Go.Proofs.Ytobibplilbchfaa.W.quiet_not rfl rfl) ?_
          refine Q.split (fun h20 => ?_) (fun h20 => ?_)
          · skip
            have hns : (r : Int) ∉ sl.getD b [] := fun q => by rw [List.contains_iff_mem.2 q] at h20; cases h20
            refine W.op rfl rfl rfl (Go.Proofs.Ytobibplilbchfaa.W.quiet_move rfl rfl) ?_
            refine W.op rfl rfl rfl (Go.Proofs.Ytobibplilbchfaa.W.quiet_move rfl rfl) ?_
            refine W.op rfl rfl rfl (Go.Proofs.Ytobibplilbchfaa.W.quiet_move rfl rfl) ?_
            refine W.op rfl rfl rfl (Go.Proofs.Ytobibplilbchfaa.W.quiet_index rfl rfl rfl (fun W => (qi_s_s_bool _ _ _ _ _ _ (by omega)))) ?_
            refine W.op rfl rfl rfl (Go.Proofs.Ytobibplilbchfaa.W.quiet_load rfl rfl (fun W hW => (ld_sb _ _ _ ((hI.fr0 hW).cell hbn) ⟨_, _, _, hgi⟩))) ?_
            rw [hgi]
            refine W.op rfl rfl rfl (Go.Proofs.Ytobibplilbchfaa.W.quiet_field rfl rfl (fun W => (qa_flow_spot_1 W _ _))) ?_
            refine W.op rfl rfl rfl (Go.Proofs.Ytobibplilbchfaa.W.quiet_load rfl rfl (fun W hW => (ql_int _ _ _ ((bx1.fr hW id).cell (j := 1) rfl)))) ?_
            refine W.op rfl rfl rfl (Go.Proofs.Ytobibplilbchfaa.W.quiet_index rfl rfl rfl (fun W => (qi_s_bool _ _ _ _ _ _ (by omega)))) ?_
            refine W.op rfl rfl rfl (Go.Proofs.Ytobibplilbchfaa.W.quiet_load rfl rfl (fun W hW => (ql_bool _ _ _ (Bools.cell (by have := (hI.fr0 hW).hr b hbn; rw [hgi] at this; exact this) (k := r) (by omega))))) ?_
            refine Q.split (fun h21 => ?_) (fun h21 => ?_)
            · skip
              have hst2 := (hst.mark hs hr hbit hmem hbn (.inr h21)).next hb (by rw [bit_set (by rw [hst.no]; exact hbn) (by rw [hlb]; exact hr), if_pos ⟨rfl, rfl⟩])
              refine W.op rfl rfl rfl (Go.Proofs.Ytobibplilbchfaa.W.quiet_not rfl rfl) ?_
              refine W.op rfl rfl rfl (Go.Proofs.Ytobibplilbchfaa.W.quiet_pick rfl rfl rfl) ?_
              refine Q.nil (T.tw fun wq4 fq4 => ?_)
              replace bx1 := bx1.fr fq4 id
              replace fe := fe.trans' fq4 (fun _ _ e => e.elim)
              replace hP := hP.fr0 fq4
              replace hS := hS.fr0 fq4
              replace hI := hI.fr0 fq4
              replace hO := hO.fr0 fq4
              replace hz := Nat.le_trans hz fq4.size
              replace hW := Row.fr hW fq4 (fun _ _ => id)
              refine TW.cond rfl (fun hb => by cases hb) (fun _ => ?_)
              refine TW.skipx ?_
              refine Xw.nblk ?_
              refine Xw.nrm ?_
              refine TW.reg ?_
              refine WL.op rfl rfl rfl (Go.Proofs.Ytobibplilbchfaa.W.quiet_bin rfl rfl rfl (fun W => qb_add_int W _ _ _ _ (by omega) (by omega))) ?_
              refine WL.op rfl rfl rfl (Go.Proofs.Ytobibplilbchfaa.W.quiet_move rfl rfl) ?_
              refine WL.end ?_
              refine Xw.any (fun a k => ?_)
              exact ⟨i + 1, by omega, by omega, v, wk, il, _, (by (repeat (refine Kn.cons k rfl ?_)); exact k.base), fe, hP, hS, hI, hO, hz, hW, bx1, hv13, hst2, hbit, hphi⟩
            · skip
              refine W.op rfl rfl rfl (Go.Proofs.Ytobibplilbchfaa.W.quiet_not rfl rfl) ?_
              refine W.op rfl rfl rfl (Go.Proofs.Ytobibplilbchfaa.W.quiet_pick rfl rfl rfl) ?_
              refine Q.nil (T.tw fun wq5 fq5 => ?_)
              replace bx1 := bx1.fr fq5 id
              replace fe := fe.trans' fq5 (fun _ _ e => e.elim)
              replace hP := hP.fr0 fq5
              replace hS := hS.fr0 fq5
              replace hI := hI.fr0 fq5
              replace hO := hO.fr0 fq5
              replace hz := Nat.le_trans hz fq5.size
              replace hW := Row.fr hW fq5 (fun _ _ => id)
              refine TW.cond rfl (fun _ => ?_) (fun hb => by cases hb)
              have b13 := bx1
              have hI0 := hI
              have hgz : gi < w.heap.size := zI.2 b hbn gi (by rw [hgi]; rfl)
              have hSne : gi ≠ Si := fun e => by obtain ⟨cS, hcS⟩ := hI.hs.typ Si rfl; exact ((hI.hr b hbn).apart_typ hcS (by decide)) (by rw [hgi, e]; rfl)
              refine TW.sregH (fun W => Fr (fun q => q = gi) wq5 W) (by kernel_rfl) ?_
              have fd : Fr (fun _ => False) wq5 wq5.drew := (Fr.refl _ _).drewN 1
              have HW : Fr (fun q => q = gi) wq5 wq5.drew := (Fr.refl _ _).drewN 1
              replace bx1 := bx1.fr fd id
              replace fe := fe.trans' fd (fun _ _ e => e.elim)
              replace hP := hP.fr0 fd
              replace hS := hS.fr0 fd
              replace hI := hI.fr0 fd
              replace hO := hO.fr0 fd
              replace hz := Nat.le_trans hz fd.size
              replace hW := Row.fr hW fd (fun _ _ => id)
              generalize hV : wq5.drew = V2 at *
              clear hV
              refine WH.take 0 rfl (by kernel_rfl) (by kernel_rfl) (by kernel_rfl) (fun _ _ _ _ _ h => h) rfl rfl rfl HW (RH.move rfl rfl) ?_
              refine WH.take 1 rfl (by kernel_rfl) (by kernel_rfl) (by kernel_rfl) (fun _ _ _ _ _ h => h) rfl rfl rfl HW (RH.move rfl rfl) ?_
              refine WH.take 2 rfl (by kernel_rfl) (by kernel_rfl) (by kernel_rfl) (fun _ _ _ _ _ h => h) rfl rfl rfl HW (RH.index rfl rfl rfl (fun W => (qi_s_s_bool _ _ _ _ _ _ (by omega)))) ?_
              refine WH.take 3 rfl (by kernel_rfl) (by kernel_rfl) (by kernel_rfl) (fun _ _ _ _ _ h => h) rfl rfl rfl HW (RH.load rfl rfl (fun W hW => (ld_sb _ _ _ (cell_hs (hI0.hs.fr hW (fun q e e2 => by cases e; exact hSne e2.symm)) hI0.hl hbn) ⟨_, _, _, hgi⟩))) ?_
              refine WH.take 4 rfl (by kernel_rfl) (by kernel_rfl) (by kernel_rfl) (fun _ _ _ _ _ h => h) rfl rfl rfl HW (RH.field rfl rfl (fun W => qa_flow_spot_1 W _ _)) ?_
              refine WH.take 5 rfl (by kernel_rfl) (by kernel_rfl) (by kernel_rfl) (fun _ _ _ _ _ h => h) rfl rfl rfl HW (RH.load rfl rfl (fun W hW => (ql_int _ _ _ ((b13.fr hW (fun e => by omega)).cell (j := 1) rfl)))) ?_
              rw [hgi]
              refine WH.take 6 rfl (by kernel_rfl) (by kernel_rfl) (by kernel_rfl) (fun _ _ _ _ _ h => h) rfl rfl rfl HW (RH.index rfl rfl rfl (fun W => (qi_s_bool _ _ _ _ _ _ (by omega)))) ?_
              refine WH.one 7 (by kernel_rfl) rfl ?_ 
              refine O.storeR rfl rfl rfl rfl rfl (hI.set1 hbn hgi (r := r) (by have := hst.li b hbn; omega) true) ?_
              rintro w7 ⟨hT2, hF2⟩
              replace HW := HW.trans' hF2 (fun q hq e => e)
              refine WL.fin HW ?_
              refine WH.done (by kernel_rfl) ?_
              obtain ⟨zz, hzz⟩ := (hI.hr b hbn).typ gi (by rw [hgi]; rfl)
              replace hP := hP.frB hF2 hzz (by decide) (by decide)
              replace hS := hS.frB hF2 hzz (by decide) (by decide)
              replace hO := hO.frR hF2 hzz (by decide) (fun k hk e => hap b k hbn hk gi (by rw [hgi]; rfl) e)
              replace hW := Row.fr hW hF2 (fun q e e2 => (Row.apart_typ hW hzz (by decide)) (e.trans (congrArg some e2)))
              replace bx1 := bx1.fr hF2 (fun e => by omega)
              replace fe := fe.trans' hF2 (fun q hq e => ⟨b, hbn, .inl (by rw [hgi, e]; rfl)⟩)
              replace hz := Nat.le_trans hz hF2.size
              replace hI := hT2
              rw [setB_eq] at hI
              refine TW.reg ?_
              refine WL.op rfl rfl rfl (Go.Proofs.Ytobibplilbchfaa.W.quiet_move rfl rfl) ?_
              refine WL.op rfl rfl rfl (Go.Proofs.Ytobibplilbchfaa.W.quiet_move rfl rfl) ?_
              refine WL.op rfl rfl rfl (Go.Proofs.Ytobibplilbchfaa.W.quiet_field rfl rfl (fun W => (qa_flow_spot_1 W _ _))) ?_
              refine WL.ld rfl rfl rfl rfl rfl (ql_int _ _ _ (bx1.cell (j := 1) rfl)) ?_
              refine O.bld rfl rfl rfl rfl rfl (qd_flow_spot_0_1 _ _ _) ?_
              refine O.bsl rfl rfl rfl rfl rfl (qv_s_flow_spot_1 _ _ _) ?_
              refine WL.append rfl rfl rfl rfl rfl rfl (Spots.app (b, r) _ hW hz (by omega)) ?_
              rintro v5 wB5 ⟨hW5, hF5, hown5⟩
              have hwl := Row.lt hW
              replace fe := fe.trans' hF5 (fun q hq e => by have := (hwl q e).1; omega)
              replace hP := hP.below hF5 zP (fun q e => (hwl q e).1)
              replace hS := hS.below hF5 zS (fun q e => (hwl q e).1)
              replace hI := hI.below hF5 zI (fun q e => (hwl q e).1)
              replace hO := hO.below hF5 zO (fun q e => (hwl q e).1)
              have bx1z := bx1.lt
              replace bx1 := bx1.fr hF5 (fun e => hv13 e)
              replace hz := Nat.le_trans hz hF5.size
              -- world wB5
              have hv14 : v5.ownBlock ≠ some ww.heap.size := fun e => (hown5 _ e).elim hv13 (fun q => by have := bx1z; omega)
              have hcnt := cnt_set il b r (by rw [hst.ni]; exact hbn) (by rw [hlb2]; exact hr) h21
              have hst2 := ((hst.push hs hr hbit hmem hbn hns).mark hs hr (bit_mono hst hbn hr hlb2 hbit) hmem hbn (.inr (by rw [bit_set (by rw [hst.ni]; exact hbn) (by rw [hlb2]; exact hr), if_pos ⟨rfl, rfl⟩]))).next hb (by rw [bit_set (by rw [hst.no]; exact hbn) (by rw [hlb]; exact hr), if_pos ⟨rfl, rfl⟩])
              refine WL.op rfl rfl rfl (Go.Proofs.Ytobibplilbchfaa.W.quiet_assign rfl rfl) ?_
              refine WL.end ?_
              refine Xw.nblk ?_
              refine Xw.nrm ?_
              refine TW.reg ?_
              refine WL.op rfl rfl rfl (Go.Proofs.Ytobibplilbchfaa.W.quiet_bin rfl rfl rfl (fun W => qb_add_int W _ _ _ _ (by omega) (by omega))) ?_
              refine WL.op rfl rfl rfl (Go.Proofs.Ytobibplilbchfaa.W.quiet_move rfl rfl) ?_
              refine WL.end ?_
              refine Xw.any (fun a k => ?_)
              exact ⟨i + 1, by omega, by omega, v5, _, _, _, (by (repeat (refine Kn.cons k rfl ?_)); exact k.base), fe, hP, hS, hI, hO, hz, hW5, bx1, hv14, hst2, bit_mono hst hbn hr hlb2 hbit, by simp; omega⟩
          · skip
            have hys : (r : Int) ∈ sl.getD b [] := List.contains_iff_mem.1 (by simpa using h20)
            have hst2 := (hst.mark hs hr hbit hmem hbn (.inl hys)).next hb (by rw [bit_set (by rw [hst.no]; exact hbn) (by rw [hlb]; exact hr), if_pos ⟨rfl, rfl⟩])
            refine W.op rfl rfl rfl (Go.Proofs.Ytobibplilbchfaa.W.quiet_move rfl rfl) ?_
            refine W.skip rfl rfl rfl ?_
            refine W.skip rfl rfl rfl ?_
            refine W.skip rfl rfl rfl ?_
            refine W.skip rfl rfl rfl ?_
            refine W.skip rfl rfl rfl ?_
            refine W.skip rfl rfl rfl ?_
            refine W.skip rfl rfl rfl ?_
            refine W.skip rfl rfl rfl ?_
            refine W.skip rfl rfl rfl ?_
            refine W.op rfl rfl rfl (Go.Proofs.Ytobibplilbchfaa.W.quiet_pick rfl rfl rfl) ?_
            refine Q.nil (T.tw fun wq6 fq6 => ?_)
            replace bx1 := bx1.fr fq6 id
            replace fe := fe.trans' fq6 (fun _ _ e => e.elim)
            replace hP := hP.fr0 fq6
            replace hS := hS.fr0 fq6
            replace hI := hI.fr0 fq6
            replace hO := hO.fr0 fq6
            replace hz := Nat.le_trans hz fq6.size
            replace hW := Row.fr hW fq6 (fun _ _ => id)
            refine TW.cond rfl (fun hb => by cases hb) (fun _ => ?_)
            refine TW.skipx ?_
            refine Xw.nblk ?_
            refine Xw.nrm ?_
            refine TW.reg ?_
            refine WL.op rfl rfl rfl (Go.Proofs.Ytobibplilbchfaa.W.quiet_bin rfl rfl rfl (fun W => qb_add_int W _ _ _ _ (by omega) (by omega))) ?_
            refine WL.op rfl rfl rfl (Go.Proofs.Ytobibplilbchfaa.W.quiet_move rfl rfl) ?_
            refine WL.end ?_
            refine Xw.any (fun a k => ?_)
            exact ⟨i + 1, by omega, by omega, v, wk, il, _, (by (repeat (refine Kn.cons k rfl ?_)); exact k.base), fe, hP, hS, hI, hO, hz, hW, bx1, hv13, hst2, hbit, hphi⟩
      · skip
        have hie : i = (pl.getD s []).length := by have := of_decide_eq_false hbi; omega
        subst hie
        refine WL.nil ?_
        refine TW.seq ?_
        refine TW.cond rfl (fun hb => by cases hb) (fun _ => ?_)
        refine TW.exit ?_
        refine Xw.thn (by simp) ?_
        refine Xw.thn (by simp) ?_
        refine Xw.hit ?_
        refine Xw.nblk ?_
        refine Xw.any (fun a k => ?_)
        exact ⟨j + 1, by omega, by omega, v, wk, il, ol, (by (repeat (refine Kn.cons k rfl ?_)); exact k.base), fe, hP, hS, hI, hO, hz, hW, hst.fin (Nat.le_refl _), by omega⟩
    · skip
      refine WL.nil ?_
      refine TW.cond rfl (fun hb => by cases hb) (fun _ => ?_)
      refine TW.exit ?_
      refine Xw.thn (by simp) ?_
      refine Xw.thn (by simp) ?_
      refine Xw.hit ?_
      refine O.end0 rfl ?_
      have hwn : wk = [] := List.eq_nil_of_length_eq_zero (by have := of_decide_eq_false hb1; omega)
      subst hwn
      exact ⟨rfl, il, ol, hI, hO, hst.li, hst.lo, hst.done.1, hst.done.2, fe⟩
end Go.Proofs.Ytobibplilbchfaa
