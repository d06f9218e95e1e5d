/-
  Listing (layer 6): the number of a name.
-/
import Derived.Test.YtlagdgkjpnocfaaGreatDoorLsK
namespace Go.Proofs.YtlagdgkjpnocfaaGreatDoor
open Go.RowKit
set_option linter.unusedVariables false
set_option linter.unusedSimpArgs false
theorem bn_eqs (w : World) (x y : Operand) (a b : List UInt8) : (do eqGuard .eql 9 x y (bts a) (bts b); binOp .eql 9 (bts a) (bts b) : Sem Value).run Tryz.prog w = .ok (.bool (decide (a = b))) w := by
  by_cases h : a = b
  · subst h; simp [go_sem]
  · simp [go_sem, h]
/-- The number of a name among those from k on. -/
def opF (s : List UInt8) (k : Nat) : Int := if k < 46 then (if nmT (k : Int) = s then (k : Int) else opF s (k + 1)) else 0
termination_by 46 - k
decreasing_by omega
theorem opF_step (s : List UInt8) (k : Nat) : opF s k = if k < 46 then (if nmT (k : Int) = s then (k : Int) else opF s (k + 1)) else 0 := by rw [opF]
theorem t_opNamed (s : List UInt8) (w : World) : Calls Tryz.prog 38 #[bts s] w fun e w' => e = .returned (.int .i64 (opF s 1)) ∧ Fr (fun _ => False) w w' := by
  refine calls_tw Tryz.func38 rfl rfl (Nat.le_of_ble_eq_true rfl) ?_
  refine TW.sreg ?_
  refine WL.op rfl rfl rfl (Go.Proofs.YtlagdgkjpnocfaaGreatDoor.W.quiet_assign rfl rfl) ?_
  refine WL.nil ?_
  refine TW.seq ?_
  refine TW.sreg ?_
  refine WL.op rfl rfl rfl (Go.Proofs.YtlagdgkjpnocfaaGreatDoor.W.quiet_assign rfl rfl) ?_
  refine WL.nil ?_
  refine TW.block ?_
  refine TW.loopG (n := 46) (fun a _ => (intOf (a.tmps.getD 3 undef)).toNat) (fun j b W => Kn Tryz.f38.ntmps [(3, .int .i64 ((j : Nat) : Int)), (0, bts s)] b ∧ Fr (fun _ => False) w W ∧ opF s 1 = opF s j) (fun j b W h => ?hval) 1 (by decide) (fun b h => ⟨(by (repeat (refine Kn.cons h rfl ?_)); exact h.base), Fr.refl _ _, rfl⟩) ?_
  case hval =>
    have := h.1.has 3 _ rfl
    simp [Array.getD_eq_getD_getElem?, this, intOf]
  rintro j b W hj ⟨hkn, hf, ho⟩
  refine TW.app ?_ hkn
  clear hkn b
  rw [opF_step s j] at ho
  refine TW.seq ?_
  refine TW.sreg ?_
  refine WL.op rfl rfl rfl (Go.Proofs.YtlagdgkjpnocfaaGreatDoor.W.quiet_move rfl rfl) ?_
  refine WL.op rfl rfl rfl (Go.Proofs.YtlagdgkjpnocfaaGreatDoor.W.quiet_bin rfl rfl rfl (fun W => bn_lei W _ _ _ _)) ?_
  refine WL.nil ?_
  refine TW.cond rfl (fun hle => ?_) (fun hgt => ?_)
  · have hj' : j < 46 := by have := of_decide_eq_true hle; omega
    rw [if_pos hj'] at ho
    refine TW.skip ?_
    refine TW.seq ?_
    refine TW.block ?_
    refine TW.sreg ?_
    refine WL.op rfl rfl rfl (Go.Proofs.YtlagdgkjpnocfaaGreatDoor.W.quiet_move rfl rfl) ?_
    refine WL.call (hr := t_name (j : Int) W) rfl rfl rfl rfl rfl (fun W => cf_name W _) ?_
    rintro e W2 ⟨rfl, f2⟩
    refine ⟨_, rfl, ?_⟩
    refine WL.op rfl rfl rfl (Go.Proofs.YtlagdgkjpnocfaaGreatDoor.W.quiet_move rfl rfl) ?_
    refine WL.op rfl rfl rfl (Go.Proofs.YtlagdgkjpnocfaaGreatDoor.W.quiet_bin rfl rfl rfl (fun W => bn_eqs W _ _ (nmT (j : Int)) s)) ?_
    refine WL.nil ?_
    refine TW.cond rfl (fun he => ?_) (fun he => ?_)
    · rw [if_pos (of_decide_eq_true he)] at ho
      refine TW.sreg ?_
      refine WL.op rfl rfl rfl (Go.Proofs.YtlagdgkjpnocfaaGreatDoor.W.quiet_move rfl rfl) ?_
      refine WL.op rfl rfl rfl (Go.Proofs.YtlagdgkjpnocfaaGreatDoor.W.quiet_assign rfl rfl) ?_
      refine WL.nil ?_
      refine TW.rt ?_
      repeat (with_reducible first | refine Xw.thn (by simp) ?_ | refine Xw.rblk ?_)
      refine bodyw_ret rfl rfl ?_
      exact ⟨by rw [ho], hf.trans f2⟩
    · rw [if_neg (of_decide_eq_false he)] at ho
      refine TW.skipx ?_
      repeat (with_reducible refine Xw.nblk ?_)
      refine Xw.nrm ?_
      refine TW.reg ?_
      refine WL.op rfl rfl rfl (Go.Proofs.YtlagdgkjpnocfaaGreatDoor.W.quiet_move rfl rfl) ?_
      refine WL.op rfl rfl rfl (Go.Proofs.YtlagdgkjpnocfaaGreatDoor.W.quiet_bin rfl rfl rfl (fun W => bn_add2 W _ _ (j : Int) 1 (by omega) (by omega))) ?_
      refine WL.op rfl rfl rfl (Go.Proofs.YtlagdgkjpnocfaaGreatDoor.W.quiet_assign rfl rfl) ?_
      refine WL.end ?_
      refine Xw.any fun b h => ⟨j + 1, by omega, by omega, (by (repeat (refine Kn.cons h rfl ?_)); exact h.base), hf.trans f2, ho⟩
  · have hj' : ¬j < 46 := by have := of_decide_eq_false hgt; omega
    rw [if_neg hj'] at ho
    refine TW.exit ?_
    repeat (with_reducible refine Xw.thn (by simp) ?_)
    refine Xw.hit ?_
    refine Xw.nrm ?_
    refine TW.sreg ?_
    refine WL.op rfl rfl rfl (Go.Proofs.YtlagdgkjpnocfaaGreatDoor.W.quiet_assign rfl rfl) ?_
    refine WL.nil ?_
    refine TW.rt ?_
    repeat (with_reducible first | refine Xw.thn (by simp) ?_ | refine Xw.rblk ?_)
    refine bodyw_ret rfl rfl ?_
    exact ⟨by rw [ho], hf⟩
end Go.Proofs.YtlagdgkjpnocfaaGreatDoor
