/-
  Lex (layer 7): positions.
-/
import Derived.Test.YtoffbjfgledjfaaDoorLyF
namespace Go.Proofs.YtoffbjfgledjfaaDoor
open Go.RowKit
set_option linter.unusedVariables false
set_option linter.unusedSimpArgs false
set_option linter.unnecessarySimpa false
theorem qxR_api_Pos (w : World) (um0 : Int) (um1 : Int) : ∃ w', (Instr.box 25 (.agg #[.int .i64 um0, .int .i64 um1])).run Tryd.prog w = .ok (.pointer (some ⟨w.heap.size, 0, none⟩)) w' ∧ (Fr (fun _ => False) w w' ∧ Bx w' w.heap.size #[.int .i64 um0, .int .i64 um1] 25) := ⟨w.alloc (.cells #[.int .i64 um0, .int .i64 um1] 25), by simp [go_sem], fr_al (Fr.refl _ _) _, Bx.new _ _ _⟩
theorem qzR_api_Pos (w : World) : ∃ w', (Instr.alloc 25 true (.tuple #[])).run Tryd.prog w = .ok (.pointer (some ⟨w.heap.size, 0, none⟩)) w' ∧ (Fr (fun _ => False) w w' ∧ Bx w' w.heap.size #[.int .i64 0, .int .i64 0] 25) := ⟨w.alloc (.cells #[.int .i64 0, .int .i64 0] 25), by simp [go_sem], fr_al (Fr.refl _ _) _, Bx.new _ _ _⟩
theorem qa_api_Pos_1 (w : World) (b o : Nat) : (Instr.fieldAt 25 (.pointer (some ⟨b, o, none⟩)) 1).run Tryd.prog w = .ok (.pointer (some ⟨b, o + 1, none⟩)) w := by simp [go_sem]
theorem ql_int (w : World) (m : Int) (d : Addr) (h : w.cell? d = some (.int .i64 m)) : (Instr.loadAt 3 (.pointer (some d))).run Tryd.prog w = .ok (.int .i64 m) w := by simp [go_sem, h]
theorem qsF_int (w : World) (g j : Nat) (z : Array Value) (tt : TypeId) (y : Value) (um0 : Int) (h : Bx w g z tt) (hj : z[j]? = some y) : ∃ w', (Instr.storeAt 3 (.pointer (some ⟨g, j, none⟩)) (.int .i64 um0)).run Tryd.prog w = .ok () w' ∧ (Fr (fun q => q = g) w w' ∧ Bx w' g (z.setIfInBounds j (.int .i64 um0)) tt) := by
  have c0 := h.cell hj
  have e0 := h.free j
  exact ⟨w.setCell ⟨g, j, none⟩ (.int .i64 um0), by simp [go_sem, c0, e0], Fr.setCell _ _ _ rfl, h.set j _⟩
theorem qa_api_Pos_0 (w : World) (b o : Nat) : (Instr.fieldAt 25 (.pointer (some ⟨b, o, none⟩)) 0).run Tryd.prog w = .ok (.pointer (some ⟨b, o, none⟩)) w := by simp [go_sem]
theorem qd_api_Pos_0_1 (w : World) (p0_m0 : Int) (p1_m0 : Int) : (Instr.build 25 #[(0, .int .i64 p0_m0), (1, .int .i64 p1_m0)]).run Tryd.prog w = .ok (.agg #[.int .i64 p0_m0, .int .i64 p1_m0]) w := by simp [go_sem]
theorem qsA_api_Pos (w : World) (g : Nat) (z0 z1 : Value) (um0 : Int) (um1 : Int) (h : Bx w g #[z0, z1] 25) : ∃ w', (Instr.storeAt 25 (.pointer (some ⟨g, 0, none⟩)) (.agg #[.int .i64 um0, .int .i64 um1])).run Tryd.prog w = .ok () w' ∧ (Fr (fun q => q = g) w w' ∧ Bx w' g #[.int .i64 um0, .int .i64 um1] 25) := h.store 25 #[.int .i64 um0, .int .i64 um1] (by kernel_rfl) rfl (by simp [Value.oneCell'])
theorem qlB_api_Pos (w : World) (g : Nat) (um0 : Int) (um1 : Int) (tt : TypeId) (h : Bx w g #[.int .i64 um0, .int .i64 um1] tt) : (Instr.loadAt 25 (.pointer (some ⟨g, 0, none⟩))).run Tryd.prog w = .ok (.agg #[.int .i64 um0, .int .i64 um1]) w := by
  have c0 := h.cell (j := 0) rfl
  have c1 := h.cell (j := 1) rfl
  simp [go_sem, c0, c1]
theorem after_app (p : Int × Int) : ∀ (a b : List UInt8), afterF p (a ++ b) = afterF (afterF p a) b := fun a => by
  induction a generalizing p with
  | nil => intro b; rfl
  | cons x a ih => intro b; exact ih _ b
theorem after_succ (p : Int × Int) {s : List UInt8} {j : Nat} (hj : j < s.length) : afterF p (s.take (j + 1)) = if bat s j = 10 then ((afterF p (s.take j)).1 + 1, 1) else ((afterF p (s.take j)).1, (afterF p (s.take j)).2 + 1) := by
  rw [List.take_add_one, List.getElem?_eq_getElem hj, after_app]
  have hb : bat s j = ((s[j]'hj).toNat : Int) := by unfold bat; rw [List.getD_eq_getElem?_getD, List.getElem?_eq_getElem hj]; rfl
  have hc : bat s j = 10 ↔ (s[j]'hj) = 10 := by
    rw [hb]
    constructor
    · intro h
      exact UInt8.toNat_inj.1 (by have : (10 : UInt8).toNat = 10 := rfl; omega)
    · intro h; rw [h]; rfl
  generalize afterF p (s.take j) = q
  show (if s[j] = 10 then (q.1 + 1, (1 : Int)) else (q.1, q.2 + 1)) = _
  by_cases h : s[j] = 10
  · rw [if_pos h, if_pos (hc.2 h)]
  · rw [if_neg h, if_neg (fun z => h (hc.1 z))]
theorem after_in (p : Int × Int) (h1 : 0 ≤ p.1) (h2 : 0 ≤ p.2) : ∀ s : List UInt8, p.1 ≤ (afterF p s).1 ∧ (afterF p s).1 ≤ p.1 + s.length ∧ 0 ≤ (afterF p s).2 ∧ (afterF p s).2 ≤ p.2 + s.length + 1 := fun s => by
  induction s generalizing p with
  | nil => refine ⟨Int.le_refl _, ?_, h2, ?_⟩ <;> simp only [afterF, List.length_nil] <;> omega
  | cons b l ih =>
    unfold afterF
    by_cases h : b = 10
    · rw [if_pos h]
      have := ih (p.1 + 1, 1) (by show 0 ≤ p.1 + 1; omega) (by show (0 : Int) ≤ 1; omega)
      simp only [List.length_cons] at this ⊢
      omega
    · rw [if_neg h]
      have := ih (p.1, p.2 + 1) h1 (by show 0 ≤ p.2 + 1; omega)
      simp only [List.length_cons] at this ⊢
      omega
def PV (p : Int × Int) : Value := .agg #[.int .i64 p.1, .int .i64 p.2]
set_option maxRecDepth 100000 in
theorem t_after (l c : Int) (s : List UInt8) (hs : s.length ≤ 1000000) (hl0 : 0 ≤ l) (hl1 : l ≤ 1000000000) (hc0 : 0 ≤ c) (hc1 : c ≤ 1000000000) (w : World) : Calls Tryd.prog 14 #[.agg #[.int .i64 l, .int .i64 c], bts s] w fun e w' => e = .returned (PV (afterF (l, c) s)) ∧ Fr (fun _ => False) w w' := by
  have ff := Fr.refl (fun _ => False) w
  refine calls_tw Tryd.func14 rfl rfl (Nat.le_of_ble_eq_true rfl) ?_
  refine TW.sreg ?_
  have lw1 := ff.size
  refine O.boxR rfl rfl rfl rfl rfl (qxR_api_Pos w _ _) ?_
  rintro wa1 ⟨fa1, bx1⟩
  replace ff := ff.trans fa1
  have lt2_bx1 := bx1.lt
  have lw2 := ff.size
  refine O.allocR rfl rfl rfl rfl (qzR_api_Pos wa1) ?_
  rintro wa2 ⟨fa2, bx2⟩
  replace bx1 := bx1.fr fa2 id
  replace ff := ff.trans fa2
  obtain ⟨gR, hgR⟩ : ∃ gR, gR = wa1.heap.size := ⟨_, rfl⟩
  rw [← hgR] at bx2
  rw [← hgR]
  have hlt := bx1.lt
  have hgg : w.heap.size < gR := by omega
  refine WL.nil ?_
  refine TW.seq ?_
  refine TW.sreg ?_
  refine WL.op rfl rfl rfl (Go.Proofs.YtoffbjfgledjfaaDoor.W.quiet_move rfl rfl) ?_
  refine O.len rfl rfl rfl rfl rfl (qn_string _ _) ?_
  refine WL.op rfl rfl rfl (Go.Proofs.YtoffbjfgledjfaaDoor.W.quiet_move rfl rfl) ?_
  refine WL.nil ?_
  refine TW.block ?_
  refine O.loopG (n := s.length) (fun a _ => (intOf (a.tmps.getD 8 undef)).toNat) (fun j a W => Kn Tryd.f14.ntmps [(1, bts s), (2, .pointer (some ⟨w.heap.size, 0, none⟩)), (4, .pointer (some ⟨gR, 0, none⟩)), (7, .int .i64 (s.length : Int)), (8, .int .i64 (j : Int))] a ∧ Fr (fun _ => False) w W ∧ Bx W w.heap.size #[.int .i64 (afterF (l, c) (s.take j)).1, .int .i64 (afterF (l, c) (s.take j)).2] 25 ∧ Bx W gR #[.int .i64 0, .int .i64 0] 25) (fun j a W h => O.slotv h.1 rfl) 0 (Nat.zero_le _) (fun a k => ⟨(by (repeat (refine Kn.cons k rfl ?_)); exact k.base), ff, bx1, bx2⟩) ?_
  rintro j a wl hj ⟨k, ff, bx1, bx2⟩
  refine TW.app (s := [(1, bts s), (2, .pointer (some ⟨w.heap.size, 0, none⟩)), (4, .pointer (some ⟨gR, 0, none⟩)), (7, .int .i64 (s.length : Int)), (8, .int .i64 (j : Int))]) ?_ k
  refine TW.sreg ?_
  refine WL.op rfl rfl rfl (Go.Proofs.YtoffbjfgledjfaaDoor.W.quiet_bin rfl rfl rfl (fun W => qb_lss_int W _ _ _ _)) ?_
  refine O.split (fun b1 => ?_) (fun b1 => ?_)
  · skip
    have hj2 : j < s.length := by have := of_decide_eq_true b1; omega
    have hin := after_in (l, c) hl0 hc0 (s.take j)
    rw [List.length_take] at hin
    obtain ⟨i1, i2, i3, i4⟩ := hin
    simp only at i1 i2 i4
    refine WL.nil ?_
    refine TW.seq ?_
    refine TW.cond rfl (fun _ => ?_) (fun hb => by cases hb)
    refine TW.skip ?_
    refine TW.seq ?_
    refine TW.block ?_
    refine TW.sreg ?_
    refine WL.op rfl rfl rfl (Go.Proofs.YtoffbjfgledjfaaDoor.W.quiet_move rfl rfl) ?_
    refine WL.op rfl rfl rfl (Go.Proofs.YtoffbjfgledjfaaDoor.W.quiet_assign rfl rfl) ?_
    refine WL.nil ?_
    refine TW.sreg ?_
    refine WL.op rfl rfl rfl (Go.Proofs.YtoffbjfgledjfaaDoor.W.quiet_field rfl rfl (fun W => (qa_api_Pos_1 W _ _))) ?_
    refine WL.ld rfl rfl rfl rfl rfl (ql_int _ _ _ (bx1.cell (j := 1) rfl)) ?_
    refine WL.op rfl rfl rfl (Go.Proofs.YtoffbjfgledjfaaDoor.W.quiet_bin rfl rfl rfl (fun W => qb_add_int W _ _ _ _ (by omega) (by omega))) ?_
    refine WL.op rfl rfl rfl (Go.Proofs.YtoffbjfgledjfaaDoor.W.quiet_field rfl rfl (fun W => (qa_api_Pos_1 W _ _))) ?_
    refine O.storeR rfl rfl rfl rfl rfl (qsF_int wl _ 1 _ _ _ _ bx1 rfl) ?_
    rintro wa3 ⟨fa3, bx1x⟩
    replace bx2 := bx2.fr fa3 (fun e => by omega)
    replace ff := ff.trans' fa3 (fun q hq e => by omega)
    clear bx1
    have bx1 := bx1x
    clear bx1x
    refine WL.nil ?_
    refine TW.sreg ?_
    refine WL.op rfl rfl rfl (Go.Proofs.YtoffbjfgledjfaaDoor.W.quiet_move rfl rfl) ?_
    refine WL.op rfl rfl rfl (Go.Proofs.YtoffbjfgledjfaaDoor.W.quiet_move rfl rfl) ?_
    refine O.ix rfl rfl rfl rfl rfl rfl (str_at _ s j hj2) ?_
    refine WL.op rfl rfl rfl (Go.Proofs.YtoffbjfgledjfaaDoor.W.quiet_bin rfl rfl rfl (fun W => qb_eql_uint8 W _ _ _ _)) ?_
    refine O.split (fun e1 => ?_) (fun e1 => ?_)
    · skip
      refine WL.nil ?_
      refine TW.cond rfl (fun _ => ?_) (fun hb => by cases hb)
      refine TW.reg ?_
      refine WL.op rfl rfl rfl (Go.Proofs.YtoffbjfgledjfaaDoor.W.quiet_field rfl rfl (fun W => (qa_api_Pos_0 W _ _))) ?_
      refine WL.ld rfl rfl rfl rfl rfl (ql_int _ _ _ (bx1.cell (j := 0) rfl)) ?_
      refine WL.op rfl rfl rfl (Go.Proofs.YtoffbjfgledjfaaDoor.W.quiet_bin rfl rfl rfl (fun W => qb_add_int W _ _ _ _ (by omega) (by omega))) ?_
      refine O.bld rfl rfl rfl rfl rfl (qd_api_Pos_0_1 _ _ _) ?_
      refine O.storeR rfl rfl rfl rfl rfl (qsA_api_Pos wa3 _ _ _ _ _ bx1) ?_
      rintro wa4 ⟨fa4, bx1x⟩
      replace bx2 := bx2.fr fa4 (fun e => by omega)
      replace ff := ff.trans' fa4 (fun q hq e => by omega)
      clear bx1
      have bx1 := bx1x
      clear bx1x
      refine WL.end ?_
      refine Xw.nblk ?_
      refine Xw.nrm ?_
      refine TW.reg ?_
      refine WL.op rfl rfl rfl (Go.Proofs.YtoffbjfgledjfaaDoor.W.quiet_bin rfl rfl rfl (fun W => qb_add_int W _ _ _ _ (by omega) (by omega))) ?_
      refine WL.op rfl rfl rfl (Go.Proofs.YtoffbjfgledjfaaDoor.W.quiet_move rfl rfl) ?_
      refine WL.end ?_
      refine Xw.any (fun a k => ?_)
      have hst := after_succ (l, c) hj2
      first
        | (rw [if_pos (eq_of_beq e1)] at hst; exact ⟨j + 1, by omega, by omega, (by (repeat (refine Kn.cons k rfl ?_)); exact k.base), ff, by rw [hst]; exact bx1, bx2⟩)
        | (rw [if_neg (ne_of_beq_false e1)] at hst; exact ⟨j + 1, by omega, by omega, (by (repeat (refine Kn.cons k rfl ?_)); exact k.base), ff, by rw [hst]; exact bx1, bx2⟩)
    · skip
      refine WL.nil ?_
      refine TW.cond rfl (fun hb => by cases hb) (fun _ => ?_)
      refine TW.skipx ?_
      refine Xw.nblk ?_
      refine Xw.nrm ?_
      refine TW.reg ?_
      refine WL.op rfl rfl rfl (Go.Proofs.YtoffbjfgledjfaaDoor.W.quiet_bin rfl rfl rfl (fun W => qb_add_int W _ _ _ _ (by omega) (by omega))) ?_
      refine WL.op rfl rfl rfl (Go.Proofs.YtoffbjfgledjfaaDoor.W.quiet_move rfl rfl) ?_
      refine WL.end ?_
      refine Xw.any (fun a k => ?_)
      have hst := after_succ (l, c) hj2
      first
        | (rw [if_pos (eq_of_beq e1)] at hst; exact ⟨j + 1, by omega, by omega, (by (repeat (refine Kn.cons k rfl ?_)); exact k.base), ff, by rw [hst]; exact bx1, bx2⟩)
        | (rw [if_neg (ne_of_beq_false e1)] at hst; exact ⟨j + 1, by omega, by omega, (by (repeat (refine Kn.cons k rfl ?_)); exact k.base), ff, by rw [hst]; exact bx1, bx2⟩)
  · skip
    have hje : s.length = j := by have := of_decide_eq_false b1; omega
    refine WL.nil ?_
    refine TW.seq ?_
    refine TW.cond rfl (fun hb => by cases hb) (fun _ => ?_)
    refine TW.exit ?_
    refine Xw.thn (by simp) ?_
    refine Xw.thn (by simp) ?_
    refine Xw.hit ?_
    refine Xw.nrm ?_
    refine TW.sreg ?_
    refine WL.ld rfl rfl rfl rfl rfl (qlB_api_Pos _ _ _ _ _ bx1) ?_
    refine O.storeR rfl rfl rfl rfl rfl (qsA_api_Pos wl _ _ _ _ _ bx2) ?_
    rintro wa5 ⟨fa5, bx2x⟩
    replace bx1 := bx1.fr fa5 (fun e => by omega)
    replace ff := ff.trans' fa5 (fun q hq e => by omega)
    clear bx2
    have bx2 := bx2x
    clear bx2x
    refine WL.nil ?_
    refine TW.rt ?_
    refine O.retc1 rfl rfl (run_loadVar_row _ _ _ 25 _ _ _ bx2 Tryd.underlying25 rfl (by kernel_rfl)) ?_
    exact ⟨by show Ending.returned (PV (afterF (l, c) (s.take j))) = _; rw [← hje, List.take_of_length_le (Nat.le_refl _)], ff⟩
end Go.Proofs.YtoffbjfgledjfaaDoor
