/-
  Flow (layer 16): how much there may be.
-/
import Derived.Test.YtobibplilbchfaaFlO
namespace Go.Proofs.Ytobibplilbchfaa
open Go.RowKit
set_option linter.unusedVariables false
set_option linter.unusedSimpArgs false
theorem qxR_api_Ins (w : World) (um0 : Int) (um1 : Int) (um2 : Int) (um3 : Int) (um4 : Int) (um5 : Int) (um6 : Int) (um7 : Int) (um8 : Int) (up9 : Option Addr) (uk9 ul9 : Nat) (up10 : Bool) : ∃ w', (Instr.box 69 (.agg #[.int .i64 um0, .int .i64 um1, .int .i64 um2, .int .i64 um3, .int .i64 um4, .int .i64 um5, .int .i64 um6, .int .i64 um7, .int .u32 um8, .slice up9 uk9 ul9, .bool up10])).run Try.prog w = .ok (.pointer (some ⟨w.heap.size, 0, none⟩)) w' ∧ (Fr (fun _ => False) w w' ∧ Bx w' w.heap.size #[.int .i64 um0, .int .i64 um1, .int .i64 um2, .int .i64 um3, .int .i64 um4, .int .i64 um5, .int .i64 um6, .int .i64 um7, .int .u32 um8, .slice up9 uk9 ul9, .bool up10] 69) := ⟨w.alloc (.cells #[.int .i64 um0, .int .i64 um1, .int .i64 um2, .int .i64 um3, .int .i64 um4, .int .i64 um5, .int .i64 um6, .int .i64 um7, .int .u32 um8, .slice up9 uk9 ul9, .bool up10] 69), by simp [go_sem], fr_al (Fr.refl _ _) _, Bx.new _ _ _⟩
theorem qa_api_Ins_0 (w : World) (b o : Nat) : (Instr.fieldAt 69 (.pointer (some ⟨b, o, none⟩)) 0).run Try.prog w = .ok (.pointer (some ⟨b, o, none⟩)) w := by simp [go_sem]
theorem qa_api_Ins_1 (w : World) (b o : Nat) : (Instr.fieldAt 69 (.pointer (some ⟨b, o, none⟩)) 1).run Try.prog w = .ok (.pointer (some ⟨b, o + 1, none⟩)) w := by simp [go_sem]
theorem qa_api_Ins_2 (w : World) (b o : Nat) : (Instr.fieldAt 69 (.pointer (some ⟨b, o, none⟩)) 2).run Try.prog w = .ok (.pointer (some ⟨b, o + 2, none⟩)) w := by simp [go_sem]
theorem qa_api_Ins_3 (w : World) (b o : Nat) : (Instr.fieldAt 69 (.pointer (some ⟨b, o, none⟩)) 3).run Try.prog w = .ok (.pointer (some ⟨b, o + 3, none⟩)) w := by simp [go_sem]
theorem qa_api_Ins_4 (w : World) (b o : Nat) : (Instr.fieldAt 69 (.pointer (some ⟨b, o, none⟩)) 4).run Try.prog w = .ok (.pointer (some ⟨b, o + 4, none⟩)) w := by simp [go_sem]
theorem qa_api_Ins_5 (w : World) (b o : Nat) : (Instr.fieldAt 69 (.pointer (some ⟨b, o, none⟩)) 5).run Try.prog w = .ok (.pointer (some ⟨b, o + 5, none⟩)) w := by simp [go_sem]
theorem qa_api_Ins_6 (w : World) (b o : Nat) : (Instr.fieldAt 69 (.pointer (some ⟨b, o, none⟩)) 6).run Try.prog w = .ok (.pointer (some ⟨b, o + 6, none⟩)) w := by simp [go_sem]
theorem qa_api_Ins_7 (w : World) (b o : Nat) : (Instr.fieldAt 69 (.pointer (some ⟨b, o, none⟩)) 7).run Try.prog w = .ok (.pointer (some ⟨b, o + 7, none⟩)) w := by simp [go_sem]
theorem qv_s_int_8 (w : World) (u0_m0 : Int) (u1_m0 : Int) (u2_m0 : Int) (u3_m0 : Int) (u4_m0 : Int) (u5_m0 : Int) (u6_m0 : Int) (u7_m0 : Int) : (Instr.buildSlice 34 8 #[(0, .int .i64 u0_m0), (1, .int .i64 u1_m0), (2, .int .i64 u2_m0), (3, .int .i64 u3_m0), (4, .int .i64 u4_m0), (5, .int .i64 u5_m0), (6, .int .i64 u6_m0), (7, .int .i64 u7_m0)]).run Try.prog w = .ok (.slice (some ⟨w.heap.size, 0, none⟩) 8 8) (w.alloc (.cells #[.int .i64 u0_m0, .int .i64 u1_m0, .int .i64 u2_m0, .int .i64 u3_m0, .int .i64 u4_m0, .int .i64 u5_m0, .int .i64 u6_m0, .int .i64 u7_m0] 3)) := by simp [go_sem]
theorem qa_api_Ins_9 (w : World) (b o : Nat) : (Instr.fieldAt 69 (.pointer (some ⟨b, o, none⟩)) 9).run Try.prog w = .ok (.pointer (some ⟨b, o + 9, none⟩)) w := by simp [go_sem]
theorem qb_leq_int (w : World) (x y : Operand) (m n : Int) : ((do eqGuard .leq 3 x y (.int .i64 m) (.int .i64 n); binOp .leq 3 (.int .i64 m) (.int .i64 n) : Sem Value)).run Try.prog w = .ok (.bool (decide (m ≤ n))) w := by simp [go_sem]
def Mst (x : Int) : Prop := -1099511627776 ≤ x ∧ x ≤ 1099511627776
structure InOk (i : Inn) : Prop where
  l : ∀ x ∈ i.l8, Mst x
  a : ∀ x ∈ i.args, Mst x
  n : i.args.length ≤ 12
def FewP (R : Int) (bs : List Bk) : Prop := R ≤ 30 ∧ bs.length ≤ 40 ∧ ∀ b ∈ bs, b.ins.length ≤ 60 ∧ ∀ i ∈ b.ins, InOk i
def FewB (bs : List Bk) : Prop := bs.length ≤ 40 ∧ ∀ b ∈ bs, b.ins.length ≤ 60 ∧ ∀ i ∈ b.ins, InOk i
theorem mem_of_getD {l : List Int} {x : Int} (h : x ∈ l) : ∃ k, k < l.length ∧ l.getD k 0 = x := by
  obtain ⟨k, hk, e⟩ := List.getElem_of_mem h
  exact ⟨k, hk, by rw [List.getD_eq_getElem?_getD, List.getElem?_eq_getElem hk]; exact e⟩
theorem mem_of_getDb {l : List Bk} {x : Bk} (h : x ∈ l) : ∃ k, k < l.length ∧ l.getD k bk0 = x := by
  obtain ⟨k, hk, e⟩ := List.getElem_of_mem h
  exact ⟨k, hk, by rw [List.getD_eq_getElem?_getD, List.getElem?_eq_getElem hk]; exact e⟩
theorem mem_of_getDi {l : List Inn} {x : Inn} (h : x ∈ l) : ∃ k, k < l.length ∧ l.getD k inn0 = x := by
  obtain ⟨k, hk, e⟩ := List.getElem_of_mem h
  exact ⟨k, hk, by rw [List.getD_eq_getElem?_getD, List.getElem?_eq_getElem hk]; exact e⟩
theorem ints8 {w : World} {g : Nat} {i : Inn} (h : Bx w g #[.int .i64 i.x0, .int .i64 i.x1, .int .i64 i.x2, .int .i64 i.x3, .int .i64 i.x4, .int .i64 i.x5, .int .i64 i.x6, .int .i64 i.x7] 3) : IntsAt w (some ⟨g, 0, none⟩) i.l8 := fun k hk => by
  have hk : k < 8 := hk
  refine ⟨g, 0, rfl, ?_⟩
  match k, hk with
  | 0, _ => exact h.cell (j := 0) rfl
  | 1, _ => exact h.cell (j := 1) rfl
  | 2, _ => exact h.cell (j := 2) rfl
  | 3, _ => exact h.cell (j := 3) rfl
  | 4, _ => exact h.cell (j := 4) rfl
  | 5, _ => exact h.cell (j := 5) rfl
  | 6, _ => exact h.cell (j := 6) rfl
  | 7, _ => exact h.cell (j := 7) rfl
set_option maxRecDepth 100000 in
theorem t_insok (i : Inn) (aa : Option Addr) (ac : Nat) (w : World) (hA : IntsAt w aa i.args) (hal : i.args.length ≤ maxLen) : Calls Try.prog 36 #[.agg #[.int .i64 i.x0, .int .i64 i.x1, .int .i64 i.x2, .int .i64 i.x3, .int .i64 i.x4, .int .i64 i.x5, .int .i64 i.x6, .int .i64 i.x7, .int .u32 i.u, .slice aa i.args.length ac, .bool i.lg]] w fun e w' => ∃ b, e = .returned (.bool b) ∧ (b = true → InOk i) ∧ Fr (fun _ => False) w w' := by
  have ff := Fr.refl (fun _ => False) w
  refine calls_tw Try.func36 rfl rfl (Nat.le_of_ble_eq_true rfl) ?_
  refine TW.sreg ?_
  have lw1 := ff.size
  refine O.boxR rfl rfl rfl rfl rfl (qxR_api_Ins w _ _ _ _ _ _ _ _ _ _ _ _ _) ?_
  rintro wa1 ⟨fa1, bx1⟩
  replace ff := ff.trans fa1
  replace hA := hA.fr fa1
  refine WL.op rfl rfl rfl (Go.Proofs.Ytobibplilbchfaa.W.quiet_assign rfl rfl) ?_
  refine WL.nil ?_
  refine TW.sreg ?_
  refine WL.op rfl rfl rfl (Go.Proofs.Ytobibplilbchfaa.W.quiet_field rfl rfl (fun W => (qa_api_Ins_0 W _ _))) ?_
  refine WL.ld rfl rfl rfl rfl rfl (ql_int _ _ _ (bx1.cell (j := 0) rfl)) ?_
  refine WL.op rfl rfl rfl (Go.Proofs.Ytobibplilbchfaa.W.quiet_field rfl rfl (fun W => (qa_api_Ins_1 W _ _))) ?_
  refine WL.ld rfl rfl rfl rfl rfl (ql_int _ _ _ (bx1.cell (j := 1) rfl)) ?_
  refine WL.op rfl rfl rfl (Go.Proofs.Ytobibplilbchfaa.W.quiet_field rfl rfl (fun W => (qa_api_Ins_2 W _ _))) ?_
  refine WL.ld rfl rfl rfl rfl rfl (ql_int _ _ _ (bx1.cell (j := 2) rfl)) ?_
  refine WL.op rfl rfl rfl (Go.Proofs.Ytobibplilbchfaa.W.quiet_field rfl rfl (fun W => (qa_api_Ins_3 W _ _))) ?_
  refine WL.ld rfl rfl rfl rfl rfl (ql_int _ _ _ (bx1.cell (j := 3) rfl)) ?_
  refine WL.op rfl rfl rfl (Go.Proofs.Ytobibplilbchfaa.W.quiet_field rfl rfl (fun W => (qa_api_Ins_4 W _ _))) ?_
  refine WL.ld rfl rfl rfl rfl rfl (ql_int _ _ _ (bx1.cell (j := 4) rfl)) ?_
  refine WL.op rfl rfl rfl (Go.Proofs.Ytobibplilbchfaa.W.quiet_field rfl rfl (fun W => (qa_api_Ins_5 W _ _))) ?_
  refine WL.ld rfl rfl rfl rfl rfl (ql_int _ _ _ (bx1.cell (j := 5) rfl)) ?_
  refine WL.op rfl rfl rfl (Go.Proofs.Ytobibplilbchfaa.W.quiet_field rfl rfl (fun W => (qa_api_Ins_6 W _ _))) ?_
  refine WL.ld rfl rfl rfl rfl rfl (ql_int _ _ _ (bx1.cell (j := 6) rfl)) ?_
  refine WL.op rfl rfl rfl (Go.Proofs.Ytobibplilbchfaa.W.quiet_field rfl rfl (fun W => (qa_api_Ins_7 W _ _))) ?_
  refine WL.ld rfl rfl rfl rfl rfl (ql_int _ _ _ (bx1.cell (j := 7) rfl)) ?_
  have lt2_bx1 := bx1.lt
  have lw2 := ff.size
  refine O.bslR rfl rfl rfl rfl rfl (qv_s_int_8 wa1 _ _ _ _ _ _ _ _) ?_
  rintro wa2 ⟨fa2, bx2⟩
  replace bx1 := bx1.fr fa2 id
  replace ff := ff.trans fa2
  replace hA := hA.fr fa2
  have hl8 : i.l8.length = 8 := rfl
  unfold maxLen at hal
  refine WL.op rfl rfl rfl (Go.Proofs.Ytobibplilbchfaa.W.quiet_assign rfl rfl) ?_
  refine WL.nil ?_
  refine TW.seq ?_
  refine TW.sreg ?_
  refine WL.op rfl rfl rfl (Go.Proofs.Ytobibplilbchfaa.W.quiet_assign rfl rfl) ?_
  refine WL.nil ?_
  refine TW.block ?_
  refine O.loopG (n := 8) (fun a _ => (intOf (a.tmps.getD 4 undef)).toNat) (fun j a W => Kn Try.f36.ntmps [(1, .pointer (some ⟨w.heap.size, 0, none⟩)), (3, .slice (some ⟨wa1.heap.size, 0, none⟩) 8 8), (4, .int .i64 (j : Int))] a ∧ Fr (fun _ => False) w W ∧ Bx W w.heap.size #[.int .i64 i.x0, .int .i64 i.x1, .int .i64 i.x2, .int .i64 i.x3, .int .i64 i.x4, .int .i64 i.x5, .int .i64 i.x6, .int .i64 i.x7, .int .u32 i.u, .slice aa i.args.length ac, .bool i.lg] 69 ∧ IntsAt W (some ⟨wa1.heap.size, 0, none⟩) i.l8 ∧ IntsAt W aa i.args ∧ ∀ k, k < j → Mst (i.l8.getD k 0)) (fun j a W h => O.slotv h.1 rfl) 0 (Nat.zero_le _) (fun a k => ⟨(by (repeat (refine Kn.cons k rfl ?_)); exact k.base), ff, bx1, ints8 bx2, hA, fun k hk => absurd hk (by omega)⟩) ?_
  rintro j a wg hj ⟨k, ff, bx1, hO, hA, hle⟩
  refine TW.app (s := [(1, .pointer (some ⟨w.heap.size, 0, none⟩)), (3, .slice (some ⟨wa1.heap.size, 0, none⟩) 8 8), (4, .int .i64 (j : Int))]) ?_ k
  refine TW.seq ?_
  refine TW.sreg ?_
  refine WL.op rfl rfl rfl (Go.Proofs.Ytobibplilbchfaa.W.quiet_move rfl rfl) ?_
  refine WL.op rfl rfl rfl (Go.Proofs.Ytobibplilbchfaa.W.quiet_move rfl rfl) ?_
  refine O.len rfl rfl rfl rfl rfl (qn_s_int _ _ _ _) ?_
  refine WL.op rfl rfl rfl (Go.Proofs.Ytobibplilbchfaa.W.quiet_bin rfl rfl rfl (fun W => qb_lss_int W _ _ _ _)) ?_
  refine O.split (fun gj => ?_) (fun gj => ?_)
  · skip
    have hj2 : j < i.l8.length := by have := of_decide_eq_true gj; show j < 8; omega
    obtain ⟨g, o, hga, hc⟩ := hO j hj2
    cases hga
    refine WL.nil ?_
    refine TW.cond rfl (fun _ => ?_) (fun hb => by cases hb)
    refine TW.skip ?_
    refine TW.seq ?_
    refine TW.block ?_
    refine TW.sreg ?_
    refine WL.op rfl rfl rfl (Go.Proofs.Ytobibplilbchfaa.W.quiet_move rfl rfl) ?_
    refine WL.op rfl rfl rfl (Go.Proofs.Ytobibplilbchfaa.W.quiet_move rfl rfl) ?_
    refine O.ixa rfl rfl rfl rfl rfl rfl (qi_s_int _ _ _ _ _ _ (by omega)) ?_
    refine WL.ld rfl rfl rfl rfl rfl (ql_int _ _ _ hc) ?_
    refine WL.op rfl rfl rfl (Go.Proofs.Ytobibplilbchfaa.W.quiet_bin rfl rfl rfl (fun W => qb_gtr_int W _ _ _ _)) ?_
    refine O.split (fun g5 => ?_) (fun g5 => ?_)
    · skip
      refine WL.op rfl rfl rfl (Go.Proofs.Ytobibplilbchfaa.W.quiet_move rfl rfl) ?_
      refine WL.skip rfl rfl rfl ?_
      refine WL.skip rfl rfl rfl ?_
      refine WL.skip rfl rfl rfl ?_
      refine WL.skip rfl rfl rfl ?_
      refine WL.skip rfl rfl rfl ?_
      refine WL.op rfl rfl rfl (Go.Proofs.Ytobibplilbchfaa.W.quiet_pick rfl rfl rfl) ?_
      refine WL.nil ?_
      refine TW.cond rfl (fun _ => ?_) (fun hb => by cases hb)
      refine TW.sreg ?_
      refine WL.op rfl rfl rfl (Go.Proofs.Ytobibplilbchfaa.W.quiet_assign rfl rfl) ?_
      refine WL.nil ?_
      refine TW.rt ?_
      refine Xw.rblk ?_
      refine Xw.thn (by simp) ?_
      refine Xw.thn (by simp) ?_
      refine Xw.rblk ?_
      refine Xw.thn (by simp) ?_
      refine bodyw_ret rfl rfl ?_
      exact ⟨false, rfl, fun h => (by cases h), ff⟩
    · skip
      refine WL.op rfl rfl rfl (Go.Proofs.Ytobibplilbchfaa.W.quiet_move rfl rfl) ?_
      refine WL.op rfl rfl rfl (Go.Proofs.Ytobibplilbchfaa.W.quiet_move rfl rfl) ?_
      refine WL.op rfl rfl rfl (Go.Proofs.Ytobibplilbchfaa.W.quiet_move rfl rfl) ?_
      refine O.ixa rfl rfl rfl rfl rfl rfl (qi_s_int _ _ _ _ _ _ (by omega)) ?_
      refine WL.ld rfl rfl rfl rfl rfl (ql_int _ _ _ hc) ?_
      refine WL.op rfl rfl rfl (Go.Proofs.Ytobibplilbchfaa.W.quiet_bin rfl rfl rfl (fun W => qb_lss_int W _ _ _ _)) ?_
      refine O.split (fun g6 => ?_) (fun g6 => ?_)
      · skip
        refine WL.op rfl rfl rfl (Go.Proofs.Ytobibplilbchfaa.W.quiet_pick rfl rfl rfl) ?_
        refine WL.nil ?_
        refine TW.cond rfl (fun _ => ?_) (fun hb => by cases hb)
        refine TW.sreg ?_
        refine WL.op rfl rfl rfl (Go.Proofs.Ytobibplilbchfaa.W.quiet_assign rfl rfl) ?_
        refine WL.nil ?_
        refine TW.rt ?_
        refine Xw.rblk ?_
        refine Xw.thn (by simp) ?_
        refine Xw.thn (by simp) ?_
        refine Xw.rblk ?_
        refine Xw.thn (by simp) ?_
        refine bodyw_ret rfl rfl ?_
        exact ⟨false, rfl, fun h => (by cases h), ff⟩
      · skip
        refine WL.op rfl rfl rfl (Go.Proofs.Ytobibplilbchfaa.W.quiet_pick rfl rfl rfl) ?_
        refine WL.nil ?_
        refine TW.cond rfl (fun hb => by cases hb) (fun _ => ?_)
        refine TW.skipx ?_
        refine Xw.nblk ?_
        refine Xw.nrm ?_
        refine TW.reg ?_
        refine WL.op rfl rfl rfl (Go.Proofs.Ytobibplilbchfaa.W.quiet_move rfl rfl) ?_
        refine WL.op rfl rfl rfl (Go.Proofs.Ytobibplilbchfaa.W.quiet_bin rfl rfl rfl (fun W => qb_add_int W _ _ _ _ (by omega) (by omega))) ?_
        refine WL.op rfl rfl rfl (Go.Proofs.Ytobibplilbchfaa.W.quiet_assign rfl rfl) ?_
        refine WL.end ?_
        refine Xw.any (fun a k => ?_)
        refine ⟨j + 1, by omega, by omega, (by (repeat (refine Kn.cons k rfl ?_)); exact k.base), ff, bx1, hO, hA, fun q hq => ?_⟩
        by_cases e : q = j
        · rw [e]; have := of_decide_eq_false g5; have := of_decide_eq_false g6; unfold Mst; omega
        · exact hle q (by omega)
  · skip
    have hje : i.l8.length = j := by have := of_decide_eq_false gj; show 8 = j; omega
    subst hje
    have hgall : ∀ x ∈ i.l8, Mst x := fun x hx => by obtain ⟨q, hq, rfl⟩ := mem_of_getD hx; exact hle q hq
    refine WL.nil ?_
    refine TW.cond rfl (fun hb => by cases hb) (fun _ => ?_)
    refine TW.exit ?_
    refine Xw.thn (by simp) ?_
    refine Xw.thn (by simp) ?_
    refine Xw.hit ?_
    refine Xw.nrm ?_
    refine TW.seq ?_
    refine TW.sreg ?_
    refine WL.op rfl rfl rfl (Go.Proofs.Ytobibplilbchfaa.W.quiet_assign rfl rfl) ?_
    refine WL.nil ?_
    refine TW.block ?_
    refine O.loopG (n := i.args.length) (fun a _ => (intOf (a.tmps.getD 5 undef)).toNat) (fun j a W => Kn Try.f36.ntmps [(1, .pointer (some ⟨w.heap.size, 0, none⟩)), (5, .int .i64 (j : Int))] a ∧ Fr (fun _ => False) w W ∧ Bx W w.heap.size #[.int .i64 i.x0, .int .i64 i.x1, .int .i64 i.x2, .int .i64 i.x3, .int .i64 i.x4, .int .i64 i.x5, .int .i64 i.x6, .int .i64 i.x7, .int .u32 i.u, .slice aa i.args.length ac, .bool i.lg] 69 ∧ IntsAt W aa i.args ∧ IntsAt W aa i.args ∧ ∀ k, k < j → Mst (i.args.getD k 0)) (fun j a W h => O.slotv h.1 rfl) 0 (Nat.zero_le _) (fun a k => ⟨(by (repeat (refine Kn.cons k rfl ?_)); exact k.base), ff, bx1, hA, hA, fun k hk => absurd hk (by omega)⟩) ?_
    rintro j a wh hj ⟨k, ff, bx1, hO, hA, hle⟩
    refine TW.app (s := [(1, .pointer (some ⟨w.heap.size, 0, none⟩)), (5, .int .i64 (j : Int))]) ?_ k
    refine TW.seq ?_
    refine TW.sreg ?_
    refine WL.op rfl rfl rfl (Go.Proofs.Ytobibplilbchfaa.W.quiet_move rfl rfl) ?_
    refine WL.op rfl rfl rfl (Go.Proofs.Ytobibplilbchfaa.W.quiet_field rfl rfl (fun W => (qa_api_Ins_9 W _ _))) ?_
    refine WL.ld rfl rfl rfl rfl rfl (ql_s_int _ _ _ _ _ (bx1.cell (j := 9) rfl)) ?_
    refine O.len rfl rfl rfl rfl rfl (qn_s_int _ _ _ _) ?_
    refine WL.op rfl rfl rfl (Go.Proofs.Ytobibplilbchfaa.W.quiet_bin rfl rfl rfl (fun W => qb_lss_int W _ _ _ _)) ?_
    refine O.split (fun hj => ?_) (fun hj => ?_)
    · skip
      have hj2 : j < i.args.length := by have := of_decide_eq_true hj; show j < i.args.length; omega
      obtain ⟨g, o, hga, hc⟩ := hO j hj2
      refine WL.nil ?_
      refine TW.cond rfl (fun _ => ?_) (fun hb => by cases hb)
      refine TW.skip ?_
      refine TW.seq ?_
      refine TW.block ?_
      refine TW.sreg ?_
      refine WL.op rfl rfl rfl (Go.Proofs.Ytobibplilbchfaa.W.quiet_field rfl rfl (fun W => (qa_api_Ins_9 W _ _))) ?_
      refine WL.ld rfl rfl rfl rfl rfl (ql_s_int _ _ _ _ _ (bx1.cell (j := 9) rfl)) ?_
      subst hga
      refine WL.op rfl rfl rfl (Go.Proofs.Ytobibplilbchfaa.W.quiet_move rfl rfl) ?_
      refine O.ixa rfl rfl rfl rfl rfl rfl (qi_s_int _ _ _ _ _ _ (by omega)) ?_
      refine WL.ld rfl rfl rfl rfl rfl (ql_int _ _ _ hc) ?_
      refine WL.op rfl rfl rfl (Go.Proofs.Ytobibplilbchfaa.W.quiet_bin rfl rfl rfl (fun W => qb_gtr_int W _ _ _ _)) ?_
      refine O.split (fun h5 => ?_) (fun h5 => ?_)
      · skip
        refine WL.op rfl rfl rfl (Go.Proofs.Ytobibplilbchfaa.W.quiet_move rfl rfl) ?_
        refine WL.skip rfl rfl rfl ?_
        refine WL.skip rfl rfl rfl ?_
        refine WL.skip rfl rfl rfl ?_
        refine WL.skip rfl rfl rfl ?_
        refine WL.skip rfl rfl rfl ?_
        refine WL.skip rfl rfl rfl ?_
        refine WL.op rfl rfl rfl (Go.Proofs.Ytobibplilbchfaa.W.quiet_pick rfl rfl rfl) ?_
        refine WL.nil ?_
        refine TW.cond rfl (fun _ => ?_) (fun hb => by cases hb)
        refine TW.sreg ?_
        refine WL.op rfl rfl rfl (Go.Proofs.Ytobibplilbchfaa.W.quiet_assign rfl rfl) ?_
        refine WL.nil ?_
        refine TW.rt ?_
        refine Xw.rblk ?_
        refine Xw.thn (by simp) ?_
        refine Xw.thn (by simp) ?_
        refine Xw.rblk ?_
        refine Xw.thn (by simp) ?_
        refine bodyw_ret rfl rfl ?_
        exact ⟨false, rfl, fun h => (by cases h), ff⟩
      · skip
        refine WL.op rfl rfl rfl (Go.Proofs.Ytobibplilbchfaa.W.quiet_move rfl rfl) ?_
        refine WL.op rfl rfl rfl (Go.Proofs.Ytobibplilbchfaa.W.quiet_field rfl rfl (fun W => (qa_api_Ins_9 W _ _))) ?_
        refine WL.ld rfl rfl rfl rfl rfl (ql_s_int _ _ _ _ _ (bx1.cell (j := 9) rfl)) ?_
        refine WL.op rfl rfl rfl (Go.Proofs.Ytobibplilbchfaa.W.quiet_move rfl rfl) ?_
        refine O.ixa rfl rfl rfl rfl rfl rfl (qi_s_int _ _ _ _ _ _ (by omega)) ?_
        refine WL.ld rfl rfl rfl rfl rfl (ql_int _ _ _ hc) ?_
        refine WL.op rfl rfl rfl (Go.Proofs.Ytobibplilbchfaa.W.quiet_bin rfl rfl rfl (fun W => qb_lss_int W _ _ _ _)) ?_
        refine O.split (fun h6 => ?_) (fun h6 => ?_)
        · skip
          refine WL.op rfl rfl rfl (Go.Proofs.Ytobibplilbchfaa.W.quiet_pick rfl rfl rfl) ?_
          refine WL.nil ?_
          refine TW.cond rfl (fun _ => ?_) (fun hb => by cases hb)
          refine TW.sreg ?_
          refine WL.op rfl rfl rfl (Go.Proofs.Ytobibplilbchfaa.W.quiet_assign rfl rfl) ?_
          refine WL.nil ?_
          refine TW.rt ?_
          refine Xw.rblk ?_
          refine Xw.thn (by simp) ?_
          refine Xw.thn (by simp) ?_
          refine Xw.rblk ?_
          refine Xw.thn (by simp) ?_
          refine bodyw_ret rfl rfl ?_
          exact ⟨false, rfl, fun h => (by cases h), ff⟩
        · skip
          refine WL.op rfl rfl rfl (Go.Proofs.Ytobibplilbchfaa.W.quiet_pick rfl rfl rfl) ?_
          refine WL.nil ?_
          refine TW.cond rfl (fun hb => by cases hb) (fun _ => ?_)
          refine TW.skipx ?_
          refine Xw.nblk ?_
          refine Xw.nrm ?_
          refine TW.reg ?_
          refine WL.op rfl rfl rfl (Go.Proofs.Ytobibplilbchfaa.W.quiet_move rfl rfl) ?_
          refine WL.op rfl rfl rfl (Go.Proofs.Ytobibplilbchfaa.W.quiet_bin rfl rfl rfl (fun W => qb_add_int W _ _ _ _ (by omega) (by omega))) ?_
          refine WL.op rfl rfl rfl (Go.Proofs.Ytobibplilbchfaa.W.quiet_assign rfl rfl) ?_
          refine WL.end ?_
          refine Xw.any (fun a k => ?_)
          refine ⟨j + 1, by omega, by omega, (by (repeat (refine Kn.cons k rfl ?_)); exact k.base), ff, bx1, hO, hA, fun q hq => ?_⟩
          by_cases e : q = j
          · rw [e]; have := of_decide_eq_false h5; have := of_decide_eq_false h6; unfold Mst; omega
          · exact hle q (by omega)
    · skip
      have hje : i.args.length = j := by have := of_decide_eq_false hj; show i.args.length = j; omega
      subst hje
      have hhall : ∀ x ∈ i.args, Mst x := fun x hx => by obtain ⟨q, hq, rfl⟩ := mem_of_getD hx; exact hle q hq
      refine WL.nil ?_
      refine TW.cond rfl (fun hb => by cases hb) (fun _ => ?_)
      refine TW.exit ?_
      refine Xw.thn (by simp) ?_
      refine Xw.thn (by simp) ?_
      refine Xw.hit ?_
      refine Xw.nrm ?_
      refine TW.sreg ?_
      refine WL.op rfl rfl rfl (Go.Proofs.Ytobibplilbchfaa.W.quiet_field rfl rfl (fun W => (qa_api_Ins_9 W _ _))) ?_
      refine WL.ld rfl rfl rfl rfl rfl (ql_s_int _ _ _ _ _ (bx1.cell (j := 9) rfl)) ?_
      refine O.len rfl rfl rfl rfl rfl (qn_s_int _ _ _ _) ?_
      refine WL.op rfl rfl rfl (Go.Proofs.Ytobibplilbchfaa.W.quiet_bin rfl rfl rfl (fun W => qb_leq_int W _ _ _ _)) ?_
      refine O.split (fun hl5 => ?_) (fun hl5 => ?_)
      · skip
        refine WL.op rfl rfl rfl (Go.Proofs.Ytobibplilbchfaa.W.quiet_assign rfl rfl) ?_
        refine WL.nil ?_
        refine TW.rt ?_
        refine bodyw_ret rfl rfl ?_
        exact ⟨true, rfl, fun _ => ⟨hgall, hhall, by have := of_decide_eq_true hl5; omega⟩, ff⟩
      · skip
        refine WL.op rfl rfl rfl (Go.Proofs.Ytobibplilbchfaa.W.quiet_assign rfl rfl) ?_
        refine WL.nil ?_
        refine TW.rt ?_
        refine bodyw_ret rfl rfl ?_
        exact ⟨false, rfl, fun h => (by cases h), ff⟩
end Go.Proofs.Ytobibplilbchfaa
