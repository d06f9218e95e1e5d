/-
  Frames (layer 25): few, same, Kept, Slot.
-/
import Derived.Test.YtbldglnfadnkeaaFaF
namespace Go.Proofs.Ytbldglnfadnkeaa
open Go.RowKit
set_option linter.unusedVariables false
set_option linter.unusedSimpArgs false
theorem qxR_api_Frame (w : World) (um0 : Int) (up1 : Option Addr) (uk1 ul1 : Nat) (um2 : Int) (up3 : Option Addr) (uk3 ul3 : Nat) : ∃ w', (Instr.box 31 (.agg #[.int .i64 um0, .slice up1 uk1 ul1, .int .i64 um2, .slice up3 uk3 ul3])).run Try.prog w = .ok (.pointer (some ⟨w.heap.size, 0, none⟩)) w' ∧ (Fr (fun _ => False) w w' ∧ Bx w' w.heap.size #[.int .i64 um0, .slice up1 uk1 ul1, .int .i64 um2, .slice up3 uk3 ul3] 31) := ⟨w.alloc (.cells #[.int .i64 um0, .slice up1 uk1 ul1, .int .i64 um2, .slice up3 uk3 ul3] 31), by simp [go_sem], fr_al (Fr.refl _ _) _, Bx.new _ _ _⟩
/-- A register is none, or among the first so many names. -/
def okR (x : Int) (i : Nat) : Bool := x == 0 || (NM.take i).any fun y => x == y
theorem okR_zero (x : Int) : okR x 0 = (x == 0) := by simp [okR]
theorem okR_succ (x : Int) (i : Nat) (hi : i < 12) : okR x (i + 1) = (okR x i || x == NM.getD i 0) := by
  have h : NM[i]? = some (NM.getD i 0) := nm_get ⟨i, hi⟩
  unfold okR
  rw [List.take_add_one, h, Option.toList_some, List.any_append]
  simp [Bool.or_assoc]
theorem okR_end {x : Int} (h : okR x 12 = true) : x = 0 ∨ x ∈ NM := by
  unfold okR at h
  rw [List.take_of_length_le (show NM.length ≤ 12 by decide)] at h
  simp only [Bool.or_eq_true, beq_iff_eq, List.any_eq_true] at h
  rcases h with h | ⟨y, hy, rfl⟩
  · exact .inl h
  · exact .inr hy
def Slm (s : List Int) : Prop := ∀ k, k < s.length → 1 ≤ s.getD k 0 ∧ s.getD k 0 ≤ 40000
def FewP (s : List Int) (l : List (Int × Int)) (w : World) (e : Ending) (w' : World) : Prop := ∃ b, e = .returned (.bool b) ∧ (b = true → s.length ≤ 60 ∧ l.length ≤ 60 ∧ Slm s ∧ SeatsOk l) ∧ Fr (fun _ => False) w w'
theorem few_no {s : List Int} {l : List (Int × Int)} {w w' : World} (h : Fr (fun _ => False) w w') : FewP s l w (.returned (.bool false)) w' := ⟨false, rfl, fun h => (by cases h), h⟩
theorem seats_ok {l : List (Int × Int)} (h : ∀ k, k < l.length → okR (l.getD k (0, 0)).1 12 = true) : SeatsOk l := fun y hy => by
  obtain ⟨k, hk, rfl⟩ := List.getElem_of_mem hy
  have := okR_end (h k hk)
  simpa [List.getD_eq_getElem?_getD, hk] using this
set_option maxRecDepth 100000 in
theorem t_few (nm : ByteArray) (vd : Bool) (pr R : Int) (oa : Option Addr) (oc : Nat) (s : List Int) (qa : Option Addr) (qn qc : Nat) (ad : Option Addr) (c : Nat) (l : List (Int × Int)) (w : World) (hso : SlotsAt w oa s) (hse : SeatsAt w ad l) : Calls Try.prog 5 #[.agg #[.string nm, .bool vd, .int .i64 pr, .int .i64 R, .slice oa s.length oc, .slice qa qn qc], .slice ad l.length c] w (FewP s l w) := by
  have ff := Fr.refl (fun _ => False) w
  refine calls_tw Try.func5 rfl rfl (Nat.le_of_ble_eq_true rfl) ?_
  refine TW.sreg ?_
  have lw1 := ff.size
  refine O.boxR rfl rfl rfl rfl rfl (qxR_api_Proc w _ _ _ _ _ _ _ _ _ _) ?_
  rintro wa1 ⟨fa1, bx1⟩
  replace ff := ff.trans fa1
  refine WL.op rfl rfl rfl (Go.Proofs.Ytbldglnfadnkeaa.W.quiet_assign rfl rfl) ?_
  refine WL.nil ?_
  refine TW.seq ?_
  refine TW.sreg ?_
  refine WL.op rfl rfl rfl (Go.Proofs.Ytbldglnfadnkeaa.W.quiet_field rfl rfl (fun W => (qa_api_Proc_4 W _ _))) ?_
  refine WL.ld rfl rfl rfl rfl rfl (ql_s_api_Slot _ _ _ _ _ (bx1.cell (j := 4) rfl)) ?_
  refine O.len rfl rfl rfl rfl rfl (qn_s_api_Slot _ _ _ _) ?_
  refine WL.op rfl rfl rfl (Go.Proofs.Ytbldglnfadnkeaa.W.quiet_bin rfl rfl rfl (fun W => qb_gtr_int W _ _ _ _)) ?_
  refine O.split (fun ha1 => ?_) (fun ha1 => ?_)
  · skip
    refine WL.op rfl rfl rfl (Go.Proofs.Ytbldglnfadnkeaa.W.quiet_move rfl rfl) ?_
    refine WL.skip rfl rfl rfl ?_
    refine WL.skip rfl rfl rfl ?_
    refine WL.skip rfl rfl rfl ?_
    refine WL.op rfl rfl rfl (Go.Proofs.Ytbldglnfadnkeaa.W.quiet_pick rfl rfl rfl) ?_
    refine WL.nil ?_
    refine TW.cond rfl (fun _ => ?_) (fun hb => by cases hb)
    refine TW.sreg ?_
    refine WL.op rfl rfl rfl (Go.Proofs.Ytbldglnfadnkeaa.W.quiet_assign rfl rfl) ?_
    refine WL.nil ?_
    refine TW.rt ?_
    refine Xw.thn (by simp) ?_
    refine bodyw_ret rfl rfl ?_
    exact few_no ff
  · skip
    refine WL.op rfl rfl rfl (Go.Proofs.Ytbldglnfadnkeaa.W.quiet_move rfl rfl) ?_
    refine WL.op rfl rfl rfl (Go.Proofs.Ytbldglnfadnkeaa.W.quiet_move rfl rfl) ?_
    refine O.len rfl rfl rfl rfl rfl (qn_s_api_Seat _ _ _ _) ?_
    refine WL.op rfl rfl rfl (Go.Proofs.Ytbldglnfadnkeaa.W.quiet_bin rfl rfl rfl (fun W => qb_gtr_int W _ _ _ _)) ?_
    refine O.split (fun ha2 => ?_) (fun ha2 => ?_)
    · skip
      refine WL.op rfl rfl rfl (Go.Proofs.Ytbldglnfadnkeaa.W.quiet_pick rfl rfl rfl) ?_
      refine WL.nil ?_
      refine TW.cond rfl (fun _ => ?_) (fun hb => by cases hb)
      refine TW.sreg ?_
      refine WL.op rfl rfl rfl (Go.Proofs.Ytbldglnfadnkeaa.W.quiet_assign rfl rfl) ?_
      refine WL.nil ?_
      refine TW.rt ?_
      refine Xw.thn (by simp) ?_
      refine bodyw_ret rfl rfl ?_
      exact few_no ff
    · skip
      have hn1 : s.length ≤ 60 := by have := of_decide_eq_false ha1; omega
      have hn2 : l.length ≤ 60 := by have := of_decide_eq_false ha2; omega
      refine WL.op rfl rfl rfl (Go.Proofs.Ytbldglnfadnkeaa.W.quiet_pick rfl rfl rfl) ?_
      refine WL.nil ?_
      refine TW.cond rfl (fun hb => by cases hb) (fun _ => ?_)
      refine TW.skip ?_
      refine TW.seq ?_
      refine TW.sreg ?_
      refine WL.op rfl rfl rfl (Go.Proofs.Ytbldglnfadnkeaa.W.quiet_assign rfl rfl) ?_
      refine WL.nil ?_
      refine TW.block ?_
      refine O.loopG (n := s.length) (fun a _ => (intOf (a.tmps.getD 5 undef)).toNat) (fun j a W => Kn Try.f5.ntmps [(1, .slice ad l.length c), (2, .pointer (some ⟨w.heap.size, 0, none⟩)), (5, .int .i64 (j : Int))] a ∧ Fr (fun _ => False) w W ∧ Bx W w.heap.size #[.string nm, .bool vd, .int .i64 pr, .int .i64 R, .slice oa s.length oc, .slice qa qn qc] 25 ∧ ∀ k, k < j → 1 ≤ s.getD k 0 ∧ s.getD k 0 ≤ 40000) (fun j a W h => O.slotv h.1 rfl) 0 (Nat.zero_le _) (fun a k => ⟨(by (repeat (refine Kn.cons k rfl ?_)); exact k.base), ff, bx1, fun q hq => absurd hq (by omega)⟩) ?_
      rintro j a w1 hj ⟨k, ff, bx1, hle⟩
      refine TW.app (s := [(1, .slice ad l.length c), (2, .pointer (some ⟨w.heap.size, 0, none⟩)), (5, .int .i64 (j : Int))]) ?_ k
      refine TW.seq ?_
      refine TW.sreg ?_
      refine WL.op rfl rfl rfl (Go.Proofs.Ytbldglnfadnkeaa.W.quiet_move rfl rfl) ?_
      refine WL.op rfl rfl rfl (Go.Proofs.Ytbldglnfadnkeaa.W.quiet_field rfl rfl (fun W => (qa_api_Proc_4 W _ _))) ?_
      refine WL.ld rfl rfl rfl rfl rfl (ql_s_api_Slot _ _ _ _ _ (bx1.cell (j := 4) rfl)) ?_
      refine O.len rfl rfl rfl rfl rfl (qn_s_api_Slot _ _ _ _) ?_
      refine WL.op rfl rfl rfl (Go.Proofs.Ytbldglnfadnkeaa.W.quiet_bin rfl rfl rfl (fun W => qb_lss_int W _ _ _ _)) ?_
      refine O.split (fun hb1 => ?_) (fun hb1 => ?_)
      · skip
        have hj2 : j < s.length := by have := of_decide_eq_true hb1; omega
        obtain ⟨g, o, nm2, al, ce, rfl, h1, h2, h3, h4⟩ := (hso.fr ff) j hj2
        refine WL.nil ?_
        refine TW.cond rfl (fun _ => ?_) (fun hb => by cases hb)
        refine TW.skip ?_
        refine TW.seq ?_
        refine TW.block ?_
        refine TW.sreg ?_
        refine WL.op rfl rfl rfl (Go.Proofs.Ytbldglnfadnkeaa.W.quiet_field rfl rfl (fun W => (qa_api_Proc_4 W _ _))) ?_
        refine WL.ld rfl rfl rfl rfl rfl (ql_s_api_Slot _ _ _ _ _ (bx1.cell (j := 4) rfl)) ?_
        refine WL.op rfl rfl rfl (Go.Proofs.Ytbldglnfadnkeaa.W.quiet_move rfl rfl) ?_
        refine O.ixa rfl rfl rfl rfl rfl rfl (qi_s_api_Slot _ _ _ _ _ _ (by omega)) ?_
        refine WL.op rfl rfl rfl (Go.Proofs.Ytbldglnfadnkeaa.W.quiet_field rfl rfl (fun W => (qa_api_Slot_1 W _ _))) ?_
        refine WL.ld rfl rfl rfl rfl rfl (ql_int _ _ _ h2) ?_
        refine WL.op rfl rfl rfl (Go.Proofs.Ytbldglnfadnkeaa.W.quiet_bin rfl rfl rfl (fun W => qb_lss_int W _ _ _ _)) ?_
        refine O.split (fun hb5 => ?_) (fun hb5 => ?_)
        · skip
          refine WL.op rfl rfl rfl (Go.Proofs.Ytbldglnfadnkeaa.W.quiet_move rfl rfl) ?_
          refine WL.skip rfl rfl rfl ?_
          refine WL.skip rfl rfl rfl ?_
          refine WL.skip rfl rfl rfl ?_
          refine WL.skip rfl rfl rfl ?_
          refine WL.skip rfl rfl rfl ?_
          refine WL.skip rfl rfl rfl ?_
          refine WL.skip rfl rfl rfl ?_
          refine WL.op rfl rfl rfl (Go.Proofs.Ytbldglnfadnkeaa.W.quiet_pick rfl rfl rfl) ?_
          refine WL.nil ?_
          refine TW.cond rfl (fun _ => ?_) (fun hb => by cases hb)
          refine TW.sreg ?_
          refine WL.op rfl rfl rfl (Go.Proofs.Ytbldglnfadnkeaa.W.quiet_assign rfl rfl) ?_
          refine WL.nil ?_
          refine TW.rt ?_
          refine Xw.rblk ?_
          refine Xw.thn (by simp) ?_
          refine Xw.thn (by simp) ?_
          refine Xw.rblk ?_
          refine Xw.thn (by simp) ?_
          refine bodyw_ret rfl rfl ?_
          exact few_no ff
        · skip
          refine WL.op rfl rfl rfl (Go.Proofs.Ytbldglnfadnkeaa.W.quiet_move rfl rfl) ?_
          refine WL.op rfl rfl rfl (Go.Proofs.Ytbldglnfadnkeaa.W.quiet_field rfl rfl (fun W => (qa_api_Proc_4 W _ _))) ?_
          refine WL.ld rfl rfl rfl rfl rfl (ql_s_api_Slot _ _ _ _ _ (bx1.cell (j := 4) rfl)) ?_
          refine WL.op rfl rfl rfl (Go.Proofs.Ytbldglnfadnkeaa.W.quiet_move rfl rfl) ?_
          refine O.ixa rfl rfl rfl rfl rfl rfl (qi_s_api_Slot _ _ _ _ _ _ (by omega)) ?_
          refine WL.op rfl rfl rfl (Go.Proofs.Ytbldglnfadnkeaa.W.quiet_field rfl rfl (fun W => (qa_api_Slot_1 W _ _))) ?_
          refine WL.ld rfl rfl rfl rfl rfl (ql_int _ _ _ h2) ?_
          refine WL.op rfl rfl rfl (Go.Proofs.Ytbldglnfadnkeaa.W.quiet_bin rfl rfl rfl (fun W => qb_gtr_int W _ _ _ _)) ?_
          refine O.split (fun hb6 => ?_) (fun hb6 => ?_)
          · skip
            refine WL.op rfl rfl rfl (Go.Proofs.Ytbldglnfadnkeaa.W.quiet_pick rfl rfl rfl) ?_
            refine WL.nil ?_
            refine TW.cond rfl (fun _ => ?_) (fun hb => by cases hb)
            refine TW.sreg ?_
            refine WL.op rfl rfl rfl (Go.Proofs.Ytbldglnfadnkeaa.W.quiet_assign rfl rfl) ?_
            refine WL.nil ?_
            refine TW.rt ?_
            refine Xw.rblk ?_
            refine Xw.thn (by simp) ?_
            refine Xw.thn (by simp) ?_
            refine Xw.rblk ?_
            refine Xw.thn (by simp) ?_
            refine bodyw_ret rfl rfl ?_
            exact few_no ff
          · skip
            refine WL.op rfl rfl rfl (Go.Proofs.Ytbldglnfadnkeaa.W.quiet_pick rfl rfl rfl) ?_
            refine WL.nil ?_
            refine TW.cond rfl (fun hb => by cases hb) (fun _ => ?_)
            refine TW.skipx ?_
            refine Xw.nblk ?_
            refine Xw.nrm ?_
            refine TW.reg ?_
            refine WL.op rfl rfl rfl (Go.Proofs.Ytbldglnfadnkeaa.W.quiet_move rfl rfl) ?_
            refine WL.op rfl rfl rfl (Go.Proofs.Ytbldglnfadnkeaa.W.quiet_bin rfl rfl rfl (fun W => qb_add_int W _ _ _ _ (by omega) (by omega))) ?_
            refine WL.op rfl rfl rfl (Go.Proofs.Ytbldglnfadnkeaa.W.quiet_assign rfl rfl) ?_
            refine WL.end ?_
            refine Xw.any (fun a k => ?_)
            refine ⟨j + 1, by omega, by omega, (by (repeat (refine Kn.cons k rfl ?_)); exact k.base), ff, bx1, fun q hq => ?_⟩
            have z1 := of_decide_eq_false hb5
            have z2 := of_decide_eq_false hb6
            by_cases e : q = j
            · subst e; omega
            · exact hle q (by omega)
      · skip
        have hje : j = s.length := by have := of_decide_eq_false hb1; omega
        subst hje
        have hsl : Slm s := hle
        refine WL.nil ?_
        refine TW.cond rfl (fun hb => by cases hb) (fun _ => ?_)
        refine TW.exit ?_
        refine Xw.thn (by simp) ?_
        refine Xw.thn (by simp) ?_
        refine Xw.hit ?_
        refine Xw.nrm ?_
        refine TW.seq ?_
        refine TW.sreg ?_
        refine WL.op rfl rfl rfl (Go.Proofs.Ytbldglnfadnkeaa.W.quiet_assign rfl rfl) ?_
        refine WL.nil ?_
        refine TW.block ?_
        refine O.loopG (n := l.length) (fun a _ => (intOf (a.tmps.getD 6 undef)).toNat) (fun j a W => Kn Try.f5.ntmps [(1, .slice ad l.length c), (2, .pointer (some ⟨w.heap.size, 0, none⟩)), (6, .int .i64 (j : Int))] a ∧ Fr (fun _ => False) w W ∧ Bx W w.heap.size #[.string nm, .bool vd, .int .i64 pr, .int .i64 R, .slice oa s.length oc, .slice qa qn qc] 25 ∧ ∀ k, k < j → okR (l.getD k (0, 0)).1 12 = true) (fun j a W h => O.slotv h.1 rfl) 0 (Nat.zero_le _) (fun a k => ⟨(by (repeat (refine Kn.cons k rfl ?_)); exact k.base), ff, bx1, fun q hq => absurd hq (by omega)⟩) ?_
        rintro j a w2 hj ⟨k, ff, bx1, hso2⟩
        refine TW.app (s := [(1, .slice ad l.length c), (2, .pointer (some ⟨w.heap.size, 0, none⟩)), (6, .int .i64 (j : Int))]) ?_ k
        refine TW.seq ?_
        refine TW.sreg ?_
        refine WL.op rfl rfl rfl (Go.Proofs.Ytbldglnfadnkeaa.W.quiet_move rfl rfl) ?_
        refine WL.op rfl rfl rfl (Go.Proofs.Ytbldglnfadnkeaa.W.quiet_move rfl rfl) ?_
        refine O.len rfl rfl rfl rfl rfl (qn_s_api_Seat _ _ _ _) ?_
        refine WL.op rfl rfl rfl (Go.Proofs.Ytbldglnfadnkeaa.W.quiet_bin rfl rfl rfl (fun W => qb_lss_int W _ _ _ _)) ?_
        refine O.split (fun hb2 => ?_) (fun hb2 => ?_)
        · skip
          have hj2 : j < l.length := by have := of_decide_eq_true hb2; omega
          obtain ⟨g, o, rfl, h1, _⟩ := (hse.fr ff) j hj2
          have ff0 := Fr.refl (fun _ => False) w2
          refine WL.nil ?_
          refine TW.cond rfl (fun _ => ?_) (fun hb => by cases hb)
          refine TW.skip ?_
          refine TW.seq ?_
          refine TW.block ?_
          refine TW.sreg ?_
          refine WL.op rfl rfl rfl (Go.Proofs.Ytbldglnfadnkeaa.W.quiet_move rfl rfl) ?_
          refine WL.op rfl rfl rfl (Go.Proofs.Ytbldglnfadnkeaa.W.quiet_move rfl rfl) ?_
          refine O.ixa rfl rfl rfl rfl rfl rfl (qi_s_api_Seat _ _ _ _ _ _ (by omega)) ?_
          refine WL.op rfl rfl rfl (Go.Proofs.Ytbldglnfadnkeaa.W.quiet_field rfl rfl (fun W => (qa_api_Seat_0 W _ _))) ?_
          refine WL.ld rfl rfl rfl rfl rfl (ql_int _ _ _ (by first | exact h1 | exact (by rw [Nat.add_zero]; exact h1))) ?_
          refine WL.op rfl rfl rfl (Go.Proofs.Ytbldglnfadnkeaa.W.quiet_bin rfl rfl rfl (fun W => qb_eql_int W _ _ _ _)) ?_
          refine WL.op rfl rfl rfl (Go.Proofs.Ytbldglnfadnkeaa.W.quiet_assign rfl rfl) ?_
          refine WL.nil ?_
          refine TW.seq ?_
          refine TW.sreg ?_
          refine WL.op rfl rfl rfl (Go.Proofs.Ytbldglnfadnkeaa.W.quiet_assign rfl rfl) ?_
          refine WL.nil ?_
          refine TW.block ?_
          refine O.loopG (n := 12) (fun a _ => (intOf (a.tmps.getD 8 undef)).toNat) (fun i a W => Kn Try.f5.ntmps [(1, .slice (some ⟨g, o, none⟩) l.length c), (2, .pointer (some ⟨w.heap.size, 0, none⟩)), (6, .int .i64 (j : Int)), (7, .bool (okR (l.getD j (0, 0)).1 i)), (8, .int .i64 (i : Int))] a ∧ Fr (fun _ => False) w W ∧ Bx W w.heap.size #[.string nm, .bool vd, .int .i64 pr, .int .i64 R, .slice oa s.length oc, .slice qa qn qc] 25) (fun i a W h => O.slotv h.1 rfl) 0 (Nat.zero_le _) (fun a k => ⟨(by rw [okR_zero]; (repeat (refine Kn.cons k rfl ?_)); exact k.base), ff, bx1⟩) ?_
          rintro i a w3 hj ⟨k, ff, bx1⟩
          refine TW.app (s := [(1, .slice (some ⟨g, o, none⟩) l.length c), (2, .pointer (some ⟨w.heap.size, 0, none⟩)), (6, .int .i64 (j : Int)), (7, .bool (okR (l.getD j (0, 0)).1 i)), (8, .int .i64 (i : Int))]) ?_ k
          refine TW.seq ?_
          refine TW.sreg ?_
          refine WL.op rfl rfl rfl (Go.Proofs.Ytbldglnfadnkeaa.W.quiet_move rfl rfl) ?_
          refine WL.op rfl rfl rfl (Go.Proofs.Ytbldglnfadnkeaa.W.quiet_bin rfl rfl rfl (fun W => qb_lss_int W _ _ _ _)) ?_
          refine O.split (fun hb3 => ?_) (fun hb3 => ?_)
          · skip
            have hi2 : i < 12 := by have := of_decide_eq_true hb3; omega
            obtain ⟨g3, o3, e3, h3, _⟩ := (hse.fr ff) j hj2
            cases e3
            generalize hho : okR (l.getD j (0, 0)).1 i = bh at *
            refine WL.nil ?_
            cases bh
            · skip
              refine TW.cond rfl (fun _ => ?_) (fun hb => by cases hb)
              refine TW.skip ?_
              refine TW.seq ?_
              refine TW.block ?_
              refine Q.reg (C := fun W => Fr (fun _ => False) w3 W) (by kernel_rfl) (by kernel_rfl) (fun W h => h.drewN 1) (Fr.refl _ _) ?_
              refine W.op rfl rfl rfl (Go.Proofs.Ytbldglnfadnkeaa.W.quiet_move rfl rfl) ?_
              refine W.op rfl rfl rfl (Go.Proofs.Ytbldglnfadnkeaa.W.quiet_move rfl rfl) ?_
              refine W.op rfl rfl rfl (Go.Proofs.Ytbldglnfadnkeaa.W.quiet_move rfl rfl) ?_
              refine W.op rfl rfl rfl (Go.Proofs.Ytbldglnfadnkeaa.W.quiet_move rfl rfl) ?_
              refine W.op rfl rfl rfl (Go.Proofs.Ytbldglnfadnkeaa.W.quiet_index rfl rfl rfl (fun W => (qi_s_api_Seat _ _ _ _ _ _ (by omega)))) ?_
              refine W.op rfl rfl rfl (Go.Proofs.Ytbldglnfadnkeaa.W.quiet_field rfl rfl (fun W => (qa_api_Seat_0 W _ _))) ?_
              refine W.op rfl rfl rfl (Go.Proofs.Ytbldglnfadnkeaa.W.quiet_load rfl rfl (fun W hW => (ql_int _ _ _ (hW.cell h3 id)))) ?_
              refine W.op rfl rfl rfl (Go.Proofs.Ytbldglnfadnkeaa.W.quiet_move rfl rfl) ?_
              refine W.op rfl rfl rfl (Go.Proofs.Ytbldglnfadnkeaa.W.quiet_call (hr := fun W hW => (t_name i (by omega) W).mono fun e w' z => ⟨z.1, hW.trans z.2⟩) rfl rfl (fun W => qk_rushlightref24_Name W _)) ?_
              refine W.op rfl rfl rfl (Go.Proofs.Ytbldglnfadnkeaa.W.quiet_bin rfl rfl rfl (fun W => qb_eql_int W _ _ _ _)) ?_
              refine W.op rfl rfl rfl (Go.Proofs.Ytbldglnfadnkeaa.W.quiet_pick rfl rfl rfl) ?_
              refine W.op rfl rfl rfl (Go.Proofs.Ytbldglnfadnkeaa.W.quiet_assign rfl rfl) ?_
              refine Q.end (fun wq1 fq1 => ?_)
              replace bx1 := bx1.fr fq1 id
              replace ff := ff.trans fq1
              refine Xw.nblk ?_
              refine Xw.nrm ?_
              refine TW.reg ?_
              refine WL.op rfl rfl rfl (Go.Proofs.Ytbldglnfadnkeaa.W.quiet_move rfl rfl) ?_
              refine WL.op rfl rfl rfl (Go.Proofs.Ytbldglnfadnkeaa.W.quiet_bin rfl rfl rfl (fun W => qb_add_int W _ _ _ _ (by omega) (by omega))) ?_
              refine WL.op rfl rfl rfl (Go.Proofs.Ytbldglnfadnkeaa.W.quiet_assign rfl rfl) ?_
              refine WL.end ?_
              refine Xw.any (fun a k => ?_)
              refine ⟨i + 1, by omega, by omega, ?_, ff, bx1⟩
              rw [okR_succ _ i hi2]; rw [hho, Bool.false_or]
              repeat (refine Kn.cons k rfl ?_)
              exact k.base
            · skip
              refine TW.cond rfl (fun _ => ?_) (fun hb => by cases hb)
              refine TW.skip ?_
              refine TW.seq ?_
              refine TW.block ?_
              refine Q.reg (C := fun W => Fr (fun _ => False) w3 W) (by kernel_rfl) (by kernel_rfl) (fun W h => h.drewN 1) (Fr.refl _ _) ?_
              refine W.op rfl rfl rfl (Go.Proofs.Ytbldglnfadnkeaa.W.quiet_move rfl rfl) ?_
              refine W.op rfl rfl rfl (Go.Proofs.Ytbldglnfadnkeaa.W.quiet_move rfl rfl) ?_
              refine W.skip rfl rfl rfl ?_
              refine W.skip rfl rfl rfl ?_
              refine W.skip rfl rfl rfl ?_
              refine W.skip rfl rfl rfl ?_
              refine W.skip rfl rfl rfl ?_
              refine W.skip rfl rfl rfl ?_
              refine W.skip rfl rfl rfl ?_
              refine W.skip rfl rfl rfl ?_
              refine W.op rfl rfl rfl (Go.Proofs.Ytbldglnfadnkeaa.W.quiet_pick rfl rfl rfl) ?_
              refine W.op rfl rfl rfl (Go.Proofs.Ytbldglnfadnkeaa.W.quiet_assign rfl rfl) ?_
              refine Q.end (fun wq2 fq2 => ?_)
              replace bx1 := bx1.fr fq2 id
              replace ff := ff.trans fq2
              refine Xw.nblk ?_
              refine Xw.nrm ?_
              refine TW.reg ?_
              refine WL.op rfl rfl rfl (Go.Proofs.Ytbldglnfadnkeaa.W.quiet_move rfl rfl) ?_
              refine WL.op rfl rfl rfl (Go.Proofs.Ytbldglnfadnkeaa.W.quiet_bin rfl rfl rfl (fun W => qb_add_int W _ _ _ _ (by omega) (by omega))) ?_
              refine WL.op rfl rfl rfl (Go.Proofs.Ytbldglnfadnkeaa.W.quiet_assign rfl rfl) ?_
              refine WL.end ?_
              refine Xw.any (fun a k => ?_)
              refine ⟨i + 1, by omega, by omega, ?_, ff, bx1⟩
              rw [okR_succ _ i hi2]; rw [hho, Bool.true_or]
              repeat (refine Kn.cons k rfl ?_)
              exact k.base
          · skip
            have hie : i = 12 := by have := of_decide_eq_false hb3; omega
            subst hie
            refine WL.nil ?_
            refine TW.cond rfl (fun hb => by cases hb) (fun _ => ?_)
            refine TW.exit ?_
            refine Xw.thn (by simp) ?_
            refine Xw.thn (by simp) ?_
            refine Xw.hit ?_
            refine Xw.nrm ?_
            refine TW.sreg ?_
            refine WL.op rfl rfl rfl (Go.Proofs.Ytbldglnfadnkeaa.W.quiet_move rfl rfl) ?_
            refine WL.op rfl rfl rfl (Go.Proofs.Ytbldglnfadnkeaa.W.quiet_not rfl rfl) ?_
            refine O.split (fun hb4 => ?_) (fun hb4 => ?_)
            · skip
              refine WL.nil ?_
              refine TW.cond rfl (fun _ => ?_) (fun hb => by cases hb)
              refine TW.sreg ?_
              refine WL.op rfl rfl rfl (Go.Proofs.Ytbldglnfadnkeaa.W.quiet_assign rfl rfl) ?_
              refine WL.nil ?_
              refine TW.rt ?_
              refine Xw.rblk ?_
              refine Xw.thn (by simp) ?_
              refine Xw.thn (by simp) ?_
              refine Xw.rblk ?_
              refine Xw.thn (by simp) ?_
              refine bodyw_ret rfl rfl ?_
              exact few_no ff
            · skip
              refine WL.nil ?_
              refine TW.cond rfl (fun hb => by cases hb) (fun _ => ?_)
              refine TW.skipx ?_
              refine Xw.nblk ?_
              refine Xw.nrm ?_
              refine TW.reg ?_
              refine WL.op rfl rfl rfl (Go.Proofs.Ytbldglnfadnkeaa.W.quiet_move rfl rfl) ?_
              refine WL.op rfl rfl rfl (Go.Proofs.Ytbldglnfadnkeaa.W.quiet_bin rfl rfl rfl (fun W => qb_add_int W _ _ _ _ (by omega) (by omega))) ?_
              refine WL.op rfl rfl rfl (Go.Proofs.Ytbldglnfadnkeaa.W.quiet_assign rfl rfl) ?_
              refine WL.end ?_
              refine Xw.any (fun a k => ?_)
              refine ⟨j + 1, by omega, by omega, (by (repeat (refine Kn.cons k rfl ?_)); exact k.base), ff, bx1, fun q hq => ?_⟩
              by_cases e : q = j
              · subst e; simpa using hb4
              · exact hso2 q (by omega)
        · skip
          refine WL.nil ?_
          refine TW.cond rfl (fun hb => by cases hb) (fun _ => ?_)
          refine TW.exit ?_
          refine Xw.thn (by simp) ?_
          refine Xw.thn (by simp) ?_
          refine Xw.hit ?_
          refine Xw.nrm ?_
          refine TW.sreg ?_
          refine WL.op rfl rfl rfl (Go.Proofs.Ytbldglnfadnkeaa.W.quiet_assign rfl rfl) ?_
          refine WL.nil ?_
          refine TW.rt ?_
          refine bodyw_ret rfl rfl ?_
          have hje : j = l.length := by have := of_decide_eq_false hb2; omega
          subst hje
          exact ⟨true, rfl, fun _ => ⟨hn1, hn2, hsl, seats_ok hso2⟩, ff⟩
set_option maxRecDepth 100000 in
theorem t_same (a1 a2 : Option Addr) (c1 c2 : Nat) (x y : List Int) (hlx : x.length ≤ 1000000) (w : World) (hx : IntsAt w a1 x) (hy : IntsAt w a2 y) : Calls Try.prog 9 #[.slice a1 x.length c1, .slice a2 y.length c2] w fun e w' => ∃ b : Bool, e = .returned (.bool b) ∧ (b = true ↔ x = y) ∧ Fr (fun _ => False) w w' := by
  have ff := Fr.refl (fun _ => False) w
  refine calls_tw Try.func9 rfl rfl (Nat.le_of_ble_eq_true rfl) ?_
  refine TW.sreg ?_
  refine WL.op rfl rfl rfl (Go.Proofs.Ytbldglnfadnkeaa.W.quiet_assign rfl rfl) ?_
  refine WL.nil ?_
  refine TW.seq ?_
  refine TW.sreg ?_
  refine WL.op rfl rfl rfl (Go.Proofs.Ytbldglnfadnkeaa.W.quiet_move rfl rfl) ?_
  refine O.len rfl rfl rfl rfl rfl (qn_s_int _ _ _ _) ?_
  refine WL.op rfl rfl rfl (Go.Proofs.Ytbldglnfadnkeaa.W.quiet_move rfl rfl) ?_
  refine O.len rfl rfl rfl rfl rfl (qn_s_int _ _ _ _) ?_
  refine WL.op rfl rfl rfl (Go.Proofs.Ytbldglnfadnkeaa.W.quiet_bin rfl rfl rfl (fun W => qb_neq_int W _ _ _ _)) ?_
  refine O.split (fun hb0 => ?_) (fun hb0 => ?_)
  · skip
    refine WL.nil ?_
    refine TW.cond rfl (fun _ => ?_) (fun hb => by cases hb)
    refine TW.sreg ?_
    refine WL.op rfl rfl rfl (Go.Proofs.Ytbldglnfadnkeaa.W.quiet_assign rfl rfl) ?_
    refine WL.nil ?_
    refine TW.rt ?_
    refine Xw.thn (by simp) ?_
    refine bodyw_ret rfl rfl ?_
    refine ⟨false, rfl, ⟨fun e => (by cases e), fun e => ?_⟩, ff⟩
    subst e
    exact absurd hb0 (by simp)
  · skip
    have hxz : (x.length : Int) = (y.length : Int) := by simpa using hb0
    have hxy : x.length = y.length := by omega
    refine WL.nil ?_
    refine TW.cond rfl (fun hb => by cases hb) (fun _ => ?_)
    refine TW.skip ?_
    refine TW.seq ?_
    refine TW.sreg ?_
    refine WL.op rfl rfl rfl (Go.Proofs.Ytbldglnfadnkeaa.W.quiet_assign rfl rfl) ?_
    refine WL.nil ?_
    refine TW.block ?_
    refine O.loopG (n := x.length) (fun a _ => (intOf (a.tmps.getD 5 undef)).toNat) (fun j a W => Kn Try.f9.ntmps [(0, .slice a1 x.length c1), (1, .slice a2 y.length c2), (5, .int .i64 (j : Int))] a ∧ Fr (fun _ => False) w W ∧ ∀ k, k < j → x.getD k 0 = y.getD k 0) (fun j a W h => O.slotv h.1 rfl) 0 (Nat.zero_le _) (fun a k => ⟨(by (repeat (refine Kn.cons k rfl ?_)); exact k.base), ff, fun q hq => absurd hq (by omega)⟩) ?_
    rintro j a w1 hj ⟨k, ff, hle⟩
    refine TW.app (s := [(0, .slice a1 x.length c1), (1, .slice a2 y.length c2), (5, .int .i64 (j : Int))]) ?_ k
    refine TW.seq ?_
    refine TW.sreg ?_
    refine WL.op rfl rfl rfl (Go.Proofs.Ytbldglnfadnkeaa.W.quiet_move rfl rfl) ?_
    refine WL.op rfl rfl rfl (Go.Proofs.Ytbldglnfadnkeaa.W.quiet_move rfl rfl) ?_
    refine O.len rfl rfl rfl rfl rfl (qn_s_int _ _ _ _) ?_
    refine WL.op rfl rfl rfl (Go.Proofs.Ytbldglnfadnkeaa.W.quiet_bin rfl rfl rfl (fun W => qb_lss_int W _ _ _ _)) ?_
    refine O.split (fun hb1 => ?_) (fun hb1 => ?_)
    · skip
      have hj2 : j < x.length := by have := of_decide_eq_true hb1; omega
      obtain ⟨g, o, rfl, h1⟩ := (hx.fr ff) j hj2
      obtain ⟨g2, o2, rfl, h2⟩ := (hy.fr ff) j (by omega)
      refine WL.nil ?_
      refine TW.cond rfl (fun _ => ?_) (fun hb => by cases hb)
      refine TW.skip ?_
      refine TW.seq ?_
      refine TW.block ?_
      refine Q.sreg (C := fun W => Fr (fun _ => False) w1 W) (by kernel_rfl) (by kernel_rfl) (fun W h => h.drewN 1) (Fr.refl _ _) ?_
      refine W.op rfl rfl rfl (Go.Proofs.Ytbldglnfadnkeaa.W.quiet_move rfl rfl) ?_
      refine W.op rfl rfl rfl (Go.Proofs.Ytbldglnfadnkeaa.W.quiet_move rfl rfl) ?_
      refine W.op rfl rfl rfl (Go.Proofs.Ytbldglnfadnkeaa.W.quiet_index rfl rfl rfl (fun W => (qi_s_int _ _ _ _ _ _ (by omega)))) ?_
      refine W.op rfl rfl rfl (Go.Proofs.Ytbldglnfadnkeaa.W.quiet_load rfl rfl (fun W hW => (ql_int _ _ _ (hW.cell h1 id)))) ?_
      refine W.op rfl rfl rfl (Go.Proofs.Ytbldglnfadnkeaa.W.quiet_move rfl rfl) ?_
      refine W.op rfl rfl rfl (Go.Proofs.Ytbldglnfadnkeaa.W.quiet_move rfl rfl) ?_
      refine W.op rfl rfl rfl (Go.Proofs.Ytbldglnfadnkeaa.W.quiet_index rfl rfl rfl (fun W => (qi_s_int _ _ _ _ _ _ (by omega)))) ?_
      refine W.op rfl rfl rfl (Go.Proofs.Ytbldglnfadnkeaa.W.quiet_load rfl rfl (fun W hW => (ql_int _ _ _ (hW.cell h2 id)))) ?_
      refine W.op rfl rfl rfl (Go.Proofs.Ytbldglnfadnkeaa.W.quiet_bin rfl rfl rfl (fun W => qb_neq_int W _ _ _ _)) ?_
      refine Q.split (fun hb5 => ?_) (fun hb5 => ?_)
      · skip
        refine Q.nil (T.tw fun wq1 fq1 => ?_)
        replace ff := ff.trans fq1
        refine TW.cond rfl (fun _ => ?_) (fun hb => by cases hb)
        refine TW.sreg ?_
        refine WL.op rfl rfl rfl (Go.Proofs.Ytbldglnfadnkeaa.W.quiet_assign rfl rfl) ?_
        refine WL.nil ?_
        refine TW.rt ?_
        refine Xw.rblk ?_
        refine Xw.thn (by simp) ?_
        refine Xw.thn (by simp) ?_
        refine Xw.rblk ?_
        refine Xw.thn (by simp) ?_
        refine bodyw_ret rfl rfl ?_
        refine ⟨false, rfl, ⟨fun e => (by cases e), fun e => ?_⟩, ff⟩
        subst e
        exact absurd hb5 (by simp)
      · skip
        refine Q.nil (T.tw fun wq2 fq2 => ?_)
        replace ff := ff.trans fq2
        refine TW.cond rfl (fun hb => by cases hb) (fun _ => ?_)
        refine TW.skipx ?_
        refine Xw.nblk ?_
        refine Xw.nrm ?_
        refine TW.reg ?_
        refine WL.op rfl rfl rfl (Go.Proofs.Ytbldglnfadnkeaa.W.quiet_move rfl rfl) ?_
        refine WL.op rfl rfl rfl (Go.Proofs.Ytbldglnfadnkeaa.W.quiet_bin rfl rfl rfl (fun W => qb_add_int W _ _ _ _ (by omega) (by omega))) ?_
        refine WL.op rfl rfl rfl (Go.Proofs.Ytbldglnfadnkeaa.W.quiet_assign rfl rfl) ?_
        refine WL.end ?_
        refine Xw.any (fun a k => ?_)
        refine ⟨j + 1, by omega, by omega, (by (repeat (refine Kn.cons k rfl ?_)); exact k.base), ff, fun q hq => ?_⟩
        have z1 : x.getD j 0 = y.getD j 0 := by simpa using hb5
        by_cases e : q = j
        · subst e; exact z1
        · exact hle q (by omega)
    · skip
      refine WL.nil ?_
      refine TW.cond rfl (fun hb => by cases hb) (fun _ => ?_)
      refine TW.exit ?_
      refine Xw.thn (by simp) ?_
      refine Xw.thn (by simp) ?_
      refine Xw.hit ?_
      refine Xw.nrm ?_
      refine TW.sreg ?_
      refine WL.op rfl rfl rfl (Go.Proofs.Ytbldglnfadnkeaa.W.quiet_assign rfl rfl) ?_
      refine WL.nil ?_
      refine TW.rt ?_
      refine bodyw_ret rfl rfl ?_
      have hje : j = x.length := by have := of_decide_eq_false hb1; omega
      subst hje
      refine ⟨true, rfl, ⟨fun _ => ?_, fun _ => rfl⟩, ff⟩
      refine List.ext_getElem hxy fun i h1 h2 => ?_
      have := hle i h1
      simpa [List.getD_eq_getElem?_getD, h1, h2] using this
set_option maxRecDepth 100000 in
theorem t_kept (sz : Int) (a : Option Addr) (n1 c1 : Nat) (sl : Int) (b : Option Addr) (n2 c2 : Nat) (m : Int) (h0 : -1000000 ≤ m) (h1 : m ≤ 1000000) (w : World) : Calls Try.prog 10 #[.agg #[.int .i64 sz, .slice a n1 c1, .int .i64 sl, .slice b n2 c2], .int .i64 m] w fun e w' => e = .returned (.int .i64 (4 + 4 * m)) ∧ Fr (fun _ => False) w w' := by
  have ff := Fr.refl (fun _ => False) w
  refine calls_tw Try.func10 rfl rfl (Nat.le_of_ble_eq_true rfl) ?_
  refine TW.sreg ?_
  have lw1 := ff.size
  refine O.boxR rfl rfl rfl rfl rfl (qxR_api_Frame w _ _ _ _ _ _ _ _) ?_
  rintro wa1 ⟨fa1, bx1⟩
  replace ff := ff.trans fa1
  refine WL.op rfl rfl rfl (Go.Proofs.Ytbldglnfadnkeaa.W.quiet_assign rfl rfl) ?_
  refine WL.nil ?_
  refine TW.sreg ?_
  refine WL.op rfl rfl rfl (Go.Proofs.Ytbldglnfadnkeaa.W.quiet_move rfl rfl) ?_
  refine WL.op rfl rfl rfl (Go.Proofs.Ytbldglnfadnkeaa.W.quiet_bin rfl rfl rfl (fun W => qb_mul_int W _ _ _ _ (by omega) (by omega))) ?_
  refine WL.op rfl rfl rfl (Go.Proofs.Ytbldglnfadnkeaa.W.quiet_bin rfl rfl rfl (fun W => qb_add_int W _ _ _ _ (by omega) (by omega))) ?_
  refine WL.op rfl rfl rfl (Go.Proofs.Ytbldglnfadnkeaa.W.quiet_assign rfl rfl) ?_
  refine WL.nil ?_
  refine TW.rt ?_
  refine bodyw_ret rfl rfl ?_
  exact ⟨rfl, ff⟩
set_option maxRecDepth 100000 in
theorem t_slot (sz : Int) (a : Option Addr) (n1 c1 : Nat) (sl : Int) (b : Option Addr) (n2 c2 : Nat) (m : Int) (h0 : -1000000 ≤ m) (h1 : m ≤ 1000000) (h2 : -1000000 ≤ sl) (h3 : sl ≤ 1000000) (w : World) : Calls Try.prog 11 #[.agg #[.int .i64 sz, .slice a n1 c1, .int .i64 sl, .slice b n2 c2], .int .i64 m] w fun e w' => e = .returned (.int .i64 (sl + 4 * m)) ∧ Fr (fun _ => False) w w' := by
  have ff := Fr.refl (fun _ => False) w
  refine calls_tw Try.func11 rfl rfl (Nat.le_of_ble_eq_true rfl) ?_
  refine TW.sreg ?_
  have lw1 := ff.size
  refine O.boxR rfl rfl rfl rfl rfl (qxR_api_Frame w _ _ _ _ _ _ _ _) ?_
  rintro wa1 ⟨fa1, bx1⟩
  replace ff := ff.trans fa1
  refine WL.op rfl rfl rfl (Go.Proofs.Ytbldglnfadnkeaa.W.quiet_assign rfl rfl) ?_
  refine WL.nil ?_
  refine TW.sreg ?_
  refine WL.op rfl rfl rfl (Go.Proofs.Ytbldglnfadnkeaa.W.quiet_field rfl rfl (fun W => (qa_api_Frame_2 W _ _))) ?_
  refine WL.ld rfl rfl rfl rfl rfl (ql_int _ _ _ (bx1.cell (j := 2) rfl)) ?_
  refine WL.op rfl rfl rfl (Go.Proofs.Ytbldglnfadnkeaa.W.quiet_move rfl rfl) ?_
  refine WL.op rfl rfl rfl (Go.Proofs.Ytbldglnfadnkeaa.W.quiet_bin rfl rfl rfl (fun W => qb_mul_int W _ _ _ _ (by omega) (by omega))) ?_
  refine WL.op rfl rfl rfl (Go.Proofs.Ytbldglnfadnkeaa.W.quiet_bin rfl rfl rfl (fun W => qb_add_int W _ _ _ _ (by omega) (by omega))) ?_
  refine WL.op rfl rfl rfl (Go.Proofs.Ytbldglnfadnkeaa.W.quiet_assign rfl rfl) ?_
  refine WL.nil ?_
  refine TW.rt ?_
  refine bodyw_ret rfl rfl ?_
  exact ⟨rfl, ff⟩
end Go.Proofs.Ytbldglnfadnkeaa
