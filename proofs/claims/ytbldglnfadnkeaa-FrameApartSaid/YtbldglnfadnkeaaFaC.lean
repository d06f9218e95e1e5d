/-
  Frames (layer 25): which registers are given, by the document.
-/
import Derived.Test.YtbldglnfadnkeaaFaB
namespace Go.Proofs.Ytbldglnfadnkeaa
open Go.RowKit
set_option linter.unusedVariables false
set_option linter.unusedSimpArgs false
theorem qk_rushlightref24_Name (w : World) (vs : Array Value) : (callFunc 12 vs).run Try.prog w = .ok (.enter 12 vs) w := by simp [go_sem]
theorem qb_eql_int (w : World) (x y : Operand) (m n : Int) : ((do eqGuard .eql 3 x y (.int .i64 m) (.int .i64 n); binOp .eql 3 (.int .i64 m) (.int .i64 n) : Sem Value)).run Try.prog w = .ok (.bool (m == n)) w := by simp [go_sem]
/-- Which of the first so many registers are among the seats' own. -/
def hasR (l : List (Int × Int)) (x : Int) (j : Nat) : Bool := (l.take j).any fun y => y.1 == x
theorem hasR_zero (l : List (Int × Int)) (x : Int) : hasR l x 0 = false := by simp [hasR]
theorem hasR_succ (l : List (Int × Int)) (x : Int) (j : Nat) (hj : j < l.length) : hasR l x (j + 1) = (hasR l x j || (l.getD j (0, 0)).1 == x) := by
  unfold hasR
  rw [List.take_add_one, List.getElem?_eq_getElem hj, Option.toList_some, List.any_append]
  simp [List.getD_eq_getElem?_getD, List.getElem?_eq_getElem hj]
def svd (l : List (Int × Int)) (k : Nat) : List Int := (NM.take k).filter fun x => hasR l x l.length
theorem svd_zero (l : List (Int × Int)) : svd l 0 = [] := by simp [svd]
theorem svd_succ (l : List (Int × Int)) (k : Nat) (hk : k < 12) : svd l (k + 1) = svd l k ++ (if hasR l (NM.getD k 0) l.length = true then [NM.getD k 0] else []) := by
  have h : NM[k]? = some (NM.getD k 0) := nm_get ⟨k, hk⟩
  unfold svd
  rw [List.take_add_one, h, Option.toList_some, List.filter_append]
  congr 1
  by_cases hh : hasR l (NM.getD k 0) l.length = true
  · rw [if_pos hh, List.filter_cons_of_pos (by exact hh)]; rfl
  · rw [if_neg hh, List.filter_cons_of_neg (by exact hh)]; rfl
theorem svd_le (l : List (Int × Int)) (k : Nat) : (svd l k).length ≤ 12 := by
  unfold svd
  refine Nat.le_trans (List.length_filter_le _ _) ?_
  rw [List.length_take]
  have : NM.length = 12 := rfl
  omega
set_option maxRecDepth 100000 in
theorem t_saved (ad : Option Addr) (c : Nat) (l : List (Int × Int)) (hl : l.length ≤ 1000) (w : World) (hat : SeatsAt w ad l) : Calls Try.prog 18 #[.slice ad l.length c] w fun e w' => ∃ v, e = .returned v ∧ Ints w.heap.size w' v (svd l 12) ∧ Fr (fun _ => False) w w' := by
  refine calls_tw Try.func18 rfl rfl (Nat.le_of_ble_eq_true rfl) ?_
  refine TW.sreg ?_
  refine WL.op rfl rfl rfl (Go.Proofs.Ytbldglnfadnkeaa.W.quiet_assign rfl rfl) ?_
  refine WL.nil ?_
  refine TW.sreg ?_
  refine WL.op rfl rfl rfl (Go.Proofs.Ytbldglnfadnkeaa.W.quiet_assign rfl rfl) ?_
  refine WL.nil ?_
  refine TW.seq ?_
  refine TW.sreg ?_
  refine WL.op rfl rfl rfl (Go.Proofs.Ytbldglnfadnkeaa.W.quiet_assign rfl rfl) ?_
  refine WL.nil ?_
  refine TW.block ?_
  refine O.loopG (n := 12) (fun a _ => (intOf (a.tmps.getD 4 undef)).toNat) (fun q a W => ∃ (v : Value), Kn Try.f18.ntmps [(0, .slice ad l.length c), (3, v), (4, .int .i64 (q : Int))] a ∧ Fr (fun _ => False) w W ∧ Ints w.heap.size W v (svd l q)) (fun q a W h => by obtain ⟨_, h⟩ := h; exact O.slotv h.1 rfl) 0 (Nat.zero_le _) (fun a k => ⟨.slice none 0 0, (by (repeat (refine Kn.cons k rfl ?_)); exact k.base), Fr.refl _ _, by rw [svd_zero]; exact Ints.nil _ _⟩) ?_
  rintro q a wl hj ⟨v, k, ff, hI⟩
  refine TW.app (s := [(0, .slice ad l.length c), (3, v), (4, .int .i64 (q : Int))]) ?_ k
  refine TW.seq ?_
  refine TW.sreg ?_
  refine WL.op rfl rfl rfl (Go.Proofs.Ytbldglnfadnkeaa.W.quiet_move rfl rfl) ?_
  refine WL.op rfl rfl rfl (Go.Proofs.Ytbldglnfadnkeaa.W.quiet_bin rfl rfl rfl (fun W => qb_lss_int W _ _ _ _)) ?_
  refine O.split (fun hb0 => ?_) (fun hb0 => ?_)
  · skip
    have hq : q < 12 := by have := of_decide_eq_true hb0; omega
    refine WL.nil ?_
    refine TW.cond rfl (fun _ => ?_) (fun hb => by cases hb)
    refine TW.skip ?_
    refine TW.seq ?_
    refine TW.block ?_
    refine TW.sreg ?_
    refine WL.op rfl rfl rfl (Go.Proofs.Ytbldglnfadnkeaa.W.quiet_assign rfl rfl) ?_
    refine WL.nil ?_
    refine TW.seq ?_
    refine TW.sreg ?_
    refine WL.op rfl rfl rfl (Go.Proofs.Ytbldglnfadnkeaa.W.quiet_assign rfl rfl) ?_
    refine WL.nil ?_
    refine TW.block ?_
    refine O.loopG (n := l.length) (fun a _ => (intOf (a.tmps.getD 6 undef)).toNat) (fun j a W => Kn Try.f18.ntmps [(0, .slice ad l.length c), (3, v), (4, .int .i64 (q : Int)), (5, .bool (hasR l (NM.getD q 0) j)), (6, .int .i64 (j : Int))] a ∧ Fr (fun _ => False) w W ∧ Ints w.heap.size W v (svd l q)) (fun j a W h => O.slotv h.1 rfl) 0 (Nat.zero_le _) (fun a k => ⟨by rw [hasR_zero]; exact (by (repeat (refine Kn.cons k rfl ?_)); exact k.base), ff, hI⟩) ?_
    rintro j a wm hj ⟨k, ff, hI⟩
    refine TW.app (s := [(0, .slice ad l.length c), (3, v), (4, .int .i64 (q : Int)), (5, .bool (hasR l (NM.getD q 0) j)), (6, .int .i64 (j : Int))]) ?_ k
    refine TW.seq ?_
    refine TW.sreg ?_
    refine WL.op rfl rfl rfl (Go.Proofs.Ytbldglnfadnkeaa.W.quiet_move rfl rfl) ?_
    refine WL.op rfl rfl rfl (Go.Proofs.Ytbldglnfadnkeaa.W.quiet_move rfl rfl) ?_
    refine O.len rfl rfl rfl rfl rfl (qn_s_api_Seat _ _ _ _) ?_
    refine WL.op rfl rfl rfl (Go.Proofs.Ytbldglnfadnkeaa.W.quiet_bin rfl rfl rfl (fun W => qb_lss_int W _ _ _ _)) ?_
    refine O.split (fun hb => ?_) (fun hb => ?_)
    · skip
      have hj2 : j < l.length := by have := of_decide_eq_true hb; omega
      obtain ⟨g, o, rfl, h1, h2⟩ := hat j hj2
      generalize hhb : hasR l (NM.getD q 0) j = bh at *
      refine WL.nil ?_
      cases bh
      · skip
        refine TW.cond rfl (fun _ => ?_) (fun hb => by cases hb)
        refine TW.skip ?_
        refine TW.seq ?_
        refine TW.block ?_
        refine Q.reg (C := fun W => Fr (fun _ => False) wm W) (by kernel_rfl) (by kernel_rfl) (fun W h => h.drewN 1) (Fr.refl _ _) ?_
        refine W.op rfl rfl rfl (Go.Proofs.Ytbldglnfadnkeaa.W.quiet_move rfl rfl) ?_
        refine W.op rfl rfl rfl (Go.Proofs.Ytbldglnfadnkeaa.W.quiet_move rfl rfl) ?_
        refine W.op rfl rfl rfl (Go.Proofs.Ytbldglnfadnkeaa.W.quiet_move rfl rfl) ?_
        refine W.op rfl rfl rfl (Go.Proofs.Ytbldglnfadnkeaa.W.quiet_move rfl rfl) ?_
        refine W.op rfl rfl rfl (Go.Proofs.Ytbldglnfadnkeaa.W.quiet_index rfl rfl rfl (fun W => (qi_s_api_Seat _ _ _ _ _ _ (by omega)))) ?_
        refine W.op rfl rfl rfl (Go.Proofs.Ytbldglnfadnkeaa.W.quiet_field rfl rfl (fun W => (qa_api_Seat_0 W _ _))) ?_
        refine W.op rfl rfl rfl (Go.Proofs.Ytbldglnfadnkeaa.W.quiet_load rfl rfl (fun W hW => (ql_int _ _ _ ((ff.trans hW).cell h1 id)))) ?_
        refine W.op rfl rfl rfl (Go.Proofs.Ytbldglnfadnkeaa.W.quiet_move rfl rfl) ?_
        refine W.op rfl rfl rfl (Go.Proofs.Ytbldglnfadnkeaa.W.quiet_call (hr := fun W hW => (t_name q (by omega) W).mono fun e w' z => ⟨z.1, hW.trans z.2⟩) rfl rfl (fun W => qk_rushlightref24_Name W _)) ?_
        refine W.op rfl rfl rfl (Go.Proofs.Ytbldglnfadnkeaa.W.quiet_bin rfl rfl rfl (fun W => qb_eql_int W _ _ _ _)) ?_
        refine W.op rfl rfl rfl (Go.Proofs.Ytbldglnfadnkeaa.W.quiet_pick rfl rfl rfl) ?_
        refine W.op rfl rfl rfl (Go.Proofs.Ytbldglnfadnkeaa.W.quiet_assign rfl rfl) ?_
        refine Q.end (fun wq1 fq1 => ?_)
        replace hI := hI.fr fq1 (fun _ _ => id)
        replace ff := ff.trans fq1
        refine Xw.nblk ?_
        refine Xw.nrm ?_
        refine TW.reg ?_
        refine WL.op rfl rfl rfl (Go.Proofs.Ytbldglnfadnkeaa.W.quiet_move rfl rfl) ?_
        refine WL.op rfl rfl rfl (Go.Proofs.Ytbldglnfadnkeaa.W.quiet_bin rfl rfl rfl (fun W => qb_add_int W _ _ _ _ (by omega) (by omega))) ?_
        refine WL.op rfl rfl rfl (Go.Proofs.Ytbldglnfadnkeaa.W.quiet_assign rfl rfl) ?_
        refine WL.end ?_
        refine Xw.any (fun a k => ?_)
        refine ⟨j + 1, by omega, by omega, ?_, ff, hI⟩
        rw [hasR_succ l _ j hj2, hhb, Bool.false_or]
        repeat (refine Kn.cons k rfl ?_)
        exact k.base
      · skip
        refine TW.cond rfl (fun _ => ?_) (fun hb => by cases hb)
        refine TW.skip ?_
        refine TW.seq ?_
        refine TW.block ?_
        refine Q.reg (C := fun W => Fr (fun _ => False) wm W) (by kernel_rfl) (by kernel_rfl) (fun W h => h.drewN 1) (Fr.refl _ _) ?_
        refine W.op rfl rfl rfl (Go.Proofs.Ytbldglnfadnkeaa.W.quiet_move rfl rfl) ?_
        refine W.op rfl rfl rfl (Go.Proofs.Ytbldglnfadnkeaa.W.quiet_move rfl rfl) ?_
        refine W.skip rfl rfl rfl ?_
        refine W.skip rfl rfl rfl ?_
        refine W.skip rfl rfl rfl ?_
        refine W.skip rfl rfl rfl ?_
        refine W.skip rfl rfl rfl ?_
        refine W.skip rfl rfl rfl ?_
        refine W.skip rfl rfl rfl ?_
        refine W.skip rfl rfl rfl ?_
        refine W.op rfl rfl rfl (Go.Proofs.Ytbldglnfadnkeaa.W.quiet_pick rfl rfl rfl) ?_
        refine W.op rfl rfl rfl (Go.Proofs.Ytbldglnfadnkeaa.W.quiet_assign rfl rfl) ?_
        refine Q.end (fun wq2 fq2 => ?_)
        replace hI := hI.fr fq2 (fun _ _ => id)
        replace ff := ff.trans fq2
        refine Xw.nblk ?_
        refine Xw.nrm ?_
        refine TW.reg ?_
        refine WL.op rfl rfl rfl (Go.Proofs.Ytbldglnfadnkeaa.W.quiet_move rfl rfl) ?_
        refine WL.op rfl rfl rfl (Go.Proofs.Ytbldglnfadnkeaa.W.quiet_bin rfl rfl rfl (fun W => qb_add_int W _ _ _ _ (by omega) (by omega))) ?_
        refine WL.op rfl rfl rfl (Go.Proofs.Ytbldglnfadnkeaa.W.quiet_assign rfl rfl) ?_
        refine WL.end ?_
        refine Xw.any (fun a k => ?_)
        refine ⟨j + 1, by omega, by omega, ?_, ff, hI⟩
        rw [hasR_succ l _ j hj2, hhb, Bool.true_or]
        repeat (refine Kn.cons k rfl ?_)
        exact k.base
    · skip
      have hje : j = l.length := by have := of_decide_eq_false hb; omega
      subst hje
      have hss := svd_succ l q (by omega)
      have hsl := svd_le l q
      generalize hhb : hasR l (NM.getD q 0) l.length = bh at *
      refine WL.nil ?_
      cases bh
      · skip
        refine TW.cond rfl (fun hb => by cases hb) (fun _ => ?_)
        refine TW.exit ?_
        refine Xw.thn (by simp) ?_
        refine Xw.thn (by simp) ?_
        refine Xw.hit ?_
        refine Xw.nrm ?_
        refine TW.sreg ?_
        refine WL.op rfl rfl rfl (Go.Proofs.Ytbldglnfadnkeaa.W.quiet_move rfl rfl) ?_
        refine WL.nil ?_
        refine TW.cond rfl (fun hb => by cases hb) (fun _ => ?_)
        refine TW.skipx ?_
        refine Xw.nblk ?_
        refine Xw.nrm ?_
        refine TW.reg ?_
        refine WL.op rfl rfl rfl (Go.Proofs.Ytbldglnfadnkeaa.W.quiet_move rfl rfl) ?_
        refine WL.op rfl rfl rfl (Go.Proofs.Ytbldglnfadnkeaa.W.quiet_bin rfl rfl rfl (fun W => qb_add_int W _ _ _ _ (by omega) (by omega))) ?_
        refine WL.op rfl rfl rfl (Go.Proofs.Ytbldglnfadnkeaa.W.quiet_assign rfl rfl) ?_
        refine WL.end ?_
        refine Xw.any (fun a k => ?_)
        refine ⟨q + 1, by omega, by omega, v, by (repeat (refine Kn.cons k rfl ?_)); exact k.base, ff, by rw [hss]; simpa using hI⟩
      · skip
        refine TW.cond rfl (fun hb => by cases hb) (fun _ => ?_)
        refine TW.exit ?_
        refine Xw.thn (by simp) ?_
        refine Xw.thn (by simp) ?_
        refine Xw.hit ?_
        refine Xw.nrm ?_
        refine TW.sreg ?_
        refine WL.op rfl rfl rfl (Go.Proofs.Ytbldglnfadnkeaa.W.quiet_move rfl rfl) ?_
        refine WL.nil ?_
        refine TW.cond rfl (fun _ => ?_) (fun hb => by cases hb)
        refine TW.reg ?_
        refine WL.op rfl rfl rfl (Go.Proofs.Ytbldglnfadnkeaa.W.quiet_move rfl rfl) ?_
        refine WL.op rfl rfl rfl (Go.Proofs.Ytbldglnfadnkeaa.W.quiet_move rfl rfl) ?_
        refine WL.call (hr := t_name q (by omega) _) rfl rfl rfl rfl rfl (fun W => qk_rushlightref24_Name W _) ?_
        rintro e w5 ⟨rfl, f5⟩
        refine ⟨_, rfl, ?_⟩
        replace hI := hI.fr f5 (fun _ _ => id)
        replace ff := ff.trans f5
        refine O.bsl rfl rfl rfl rfl rfl (qv_s_int_1 _ _) ?_
        refine WL.append rfl rfl rfl rfl rfl rfl (Ints.app _ _ hI ff (by omega)) ?_
        rintro v2 w6 ⟨hI2, hF2⟩
        -- world w6
        refine WL.op rfl rfl rfl (Go.Proofs.Ytbldglnfadnkeaa.W.quiet_assign rfl rfl) ?_
        refine WL.end ?_
        refine Xw.nblk ?_
        refine Xw.nrm ?_
        refine TW.reg ?_
        refine WL.op rfl rfl rfl (Go.Proofs.Ytbldglnfadnkeaa.W.quiet_move rfl rfl) ?_
        refine WL.op rfl rfl rfl (Go.Proofs.Ytbldglnfadnkeaa.W.quiet_bin rfl rfl rfl (fun W => qb_add_int W _ _ _ _ (by omega) (by omega))) ?_
        refine WL.op rfl rfl rfl (Go.Proofs.Ytbldglnfadnkeaa.W.quiet_assign rfl rfl) ?_
        refine WL.end ?_
        refine Xw.any (fun a k => ?_)
        refine ⟨q + 1, by omega, by omega, v2, by (repeat (refine Kn.cons k rfl ?_)); exact k.base, hF2, by rw [hss]; exact hI2⟩
  · skip
    have hqe : q = 12 := by have := of_decide_eq_false hb0; omega
    subst hqe
    refine WL.nil ?_
    refine TW.cond rfl (fun hb => by cases hb) (fun _ => ?_)
    refine TW.exit ?_
    refine Xw.thn (by simp) ?_
    refine Xw.thn (by simp) ?_
    refine Xw.hit ?_
    refine Xw.nrm ?_
    refine TW.sreg ?_
    refine WL.op rfl rfl rfl (Go.Proofs.Ytbldglnfadnkeaa.W.quiet_move rfl rfl) ?_
    refine WL.op rfl rfl rfl (Go.Proofs.Ytbldglnfadnkeaa.W.quiet_assign rfl rfl) ?_
    refine WL.nil ?_
    refine TW.rt ?_
    refine bodyw_ret rfl rfl ?_
    exact ⟨v, rfl, hI, ff⟩
end Go.Proofs.Ytbldglnfadnkeaa
