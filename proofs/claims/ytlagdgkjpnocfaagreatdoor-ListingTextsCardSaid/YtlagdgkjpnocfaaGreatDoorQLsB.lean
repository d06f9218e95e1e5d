/-
  Listing (layer 6): the operands of a line.
-/
import Derived.Test.YtlagdgkjpnocfaaGreatDoorQLsA
import Derived.Test.YtlagdgkjpnocfaaGreatDoorQCode
namespace Go.Proofs.YtlagdgkjpnocfaaGreatDoor
open Go.RowKit
set_option linter.unusedVariables false
set_option linter.unusedSimpArgs false
def layF (f op : Int) : List UInt8 :=
  if f = 82 then [100, 97, 98] else if f = 73 ∨ f = 72 then (if op = 4 ∨ loadB op = true then [100, 109] else [100, 97, 105])
  else if f = 85 ∨ f = 74 then [100, 105] else if f = 66 then [97, 98, 105] else if f = 83 then [98, 109] else []
def layT (op : Int) : List UInt8 := layF (fm (ix op)) op
set_option maxRecDepth 100000 in
theorem t_layout (op : Int) (w : World) : Calls Tryz.prog 34 #[.int .i64 op] w fun e w' => e = .returned (bts (layT op)) ∧ Fr (fun _ => False) w w' := by
  have hform : isForm (fm (ix op)) := fm_form' (ix op) (by unfold ix; split <;> omega)
  have hT : layT op = layF (fm (ix op)) op := rfl
  have KF := c26 op w
  generalize fm (ix op) = f at *
  refine calls_tw Tryz.func34 rfl rfl (Nat.le_of_ble_eq_true rfl) ?_
  refine TW.sreg ?_
  refine WL.op rfl rfl rfl (W.quiet_assign rfl rfl) ?_
  refine WL.nil ?_
  refine TW.seq ?_
  refine TW.sreg ?_
  refine WL.op rfl rfl rfl (W.quiet_move rfl rfl) ?_
  refine WL.call (hr := KF) rfl rfl rfl rfl rfl (fun W => cf_form W _) ?_
  rintro e w1 ⟨rfl, hg⟩
  have f1 : Fr (fun _ => False) w w1 := Fr.of_grown hg
  refine ⟨_, rfl, ?_⟩
  refine WL.nil ?_
  clear hg KF
  refine TW.block ?_
  obtain ⟨bj, hbj⟩ : ∃ q, (op == 4) = q := ⟨_, rfl⟩
  obtain ⟨bl, hbl⟩ : ∃ q, loadB op = q := ⟨_, rfl⟩
  have BJ := fun W xo yo => (bn_eqi W xo yo op 4).trans (by rw [hbj])
  have hop : op = 4 ↔ bj = true := by rw [← hbj]; simp
  rcases hform with rfl | rfl | rfl | rfl | rfl | rfl | rfl | rfl
  ·
    refine TW.sreg ?_
    refine WL.op rfl rfl rfl (W.quiet_bin rfl rfl rfl (fun W => (bn_eq8 W _ _ _ _).trans (by rw [show ((85 : Int) == 82) = false by decide]))) ?_
    refine WL.op rfl rfl rfl (W.quiet_assign rfl rfl) ?_
    refine WL.nil ?_
    refine TW.cond rfl (fun hb => by cases hb) (fun _ => ?_)
    refine TW.seq ?_
    refine TW.sreg ?_
    refine WL.op rfl rfl rfl (W.quiet_bin rfl rfl rfl (fun W => (bn_eq8 W _ _ _ _).trans (by rw [show ((85 : Int) == 73) = false by decide]))) ?_
    refine WL.op rfl rfl rfl (W.quiet_assign rfl rfl) ?_
    refine WL.nil ?_
    refine TW.cond rfl (fun hb => by cases hb) (fun _ => ?_)
    refine TW.reg ?_
    refine WL.op rfl rfl rfl (W.quiet_bin rfl rfl rfl (fun W => (bn_eq8 W _ _ _ _).trans (by rw [show ((85 : Int) == 72) = false by decide]))) ?_
    refine WL.op rfl rfl rfl (W.quiet_assign rfl rfl) ?_
    refine WL.nil ?_
    refine TW.cond rfl (fun hb => by cases hb) (fun _ => ?_)
    refine TW.seq ?_
    refine TW.sreg ?_
    refine WL.op rfl rfl rfl (W.quiet_bin rfl rfl rfl (fun W => (bn_eq8 W _ _ _ _).trans (by rw [show ((85 : Int) == 85) = true by decide]))) ?_
    refine WL.op rfl rfl rfl (W.quiet_assign rfl rfl) ?_
    refine WL.nil ?_
    refine TW.cond rfl (fun _ => ?_) (fun hb => by cases hb)
    refine TW.skip ?_
    refine TW.cond rfl (fun _ => ?_) (fun hb => by cases hb)
    refine TW.sreg ?_
    refine WL.op rfl rfl rfl (W.quiet_assign rfl rfl) ?_
    refine WL.nil ?_
    refine TW.rt ?_
    repeat (with_reducible first | refine Xw.thn (by simp) ?_ | refine Xw.rblk ?_)
    refine bodyw_ret rfl rfl ?_
    exact ⟨by rw [hT]; rfl, f1⟩
  ·
    refine TW.sreg ?_
    refine WL.op rfl rfl rfl (W.quiet_bin rfl rfl rfl (fun W => (bn_eq8 W _ _ _ _).trans (by rw [show ((74 : Int) == 82) = false by decide]))) ?_
    refine WL.op rfl rfl rfl (W.quiet_assign rfl rfl) ?_
    refine WL.nil ?_
    refine TW.cond rfl (fun hb => by cases hb) (fun _ => ?_)
    refine TW.seq ?_
    refine TW.sreg ?_
    refine WL.op rfl rfl rfl (W.quiet_bin rfl rfl rfl (fun W => (bn_eq8 W _ _ _ _).trans (by rw [show ((74 : Int) == 73) = false by decide]))) ?_
    refine WL.op rfl rfl rfl (W.quiet_assign rfl rfl) ?_
    refine WL.nil ?_
    refine TW.cond rfl (fun hb => by cases hb) (fun _ => ?_)
    refine TW.reg ?_
    refine WL.op rfl rfl rfl (W.quiet_bin rfl rfl rfl (fun W => (bn_eq8 W _ _ _ _).trans (by rw [show ((74 : Int) == 72) = false by decide]))) ?_
    refine WL.op rfl rfl rfl (W.quiet_assign rfl rfl) ?_
    refine WL.nil ?_
    refine TW.cond rfl (fun hb => by cases hb) (fun _ => ?_)
    refine TW.seq ?_
    refine TW.sreg ?_
    refine WL.op rfl rfl rfl (W.quiet_bin rfl rfl rfl (fun W => (bn_eq8 W _ _ _ _).trans (by rw [show ((74 : Int) == 85) = false by decide]))) ?_
    refine WL.op rfl rfl rfl (W.quiet_assign rfl rfl) ?_
    refine WL.nil ?_
    refine TW.cond rfl (fun hb => by cases hb) (fun _ => ?_)
    refine TW.reg ?_
    refine WL.op rfl rfl rfl (W.quiet_bin rfl rfl rfl (fun W => (bn_eq8 W _ _ _ _).trans (by rw [show ((74 : Int) == 74) = true by decide]))) ?_
    refine WL.op rfl rfl rfl (W.quiet_assign rfl rfl) ?_
    refine WL.nil ?_
    refine TW.cond rfl (fun _ => ?_) (fun hb => by cases hb)
    refine TW.sreg ?_
    refine WL.op rfl rfl rfl (W.quiet_assign rfl rfl) ?_
    refine WL.nil ?_
    refine TW.rt ?_
    repeat (with_reducible first | refine Xw.thn (by simp) ?_ | refine Xw.rblk ?_)
    refine bodyw_ret rfl rfl ?_
    exact ⟨by rw [hT]; rfl, f1⟩
  ·
    refine TW.sreg ?_
    refine WL.op rfl rfl rfl (W.quiet_bin rfl rfl rfl (fun W => (bn_eq8 W _ _ _ _).trans (by rw [show ((73 : Int) == 82) = false by decide]))) ?_
    refine WL.op rfl rfl rfl (W.quiet_assign rfl rfl) ?_
    refine WL.nil ?_
    refine TW.cond rfl (fun hb => by cases hb) (fun _ => ?_)
    refine TW.seq ?_
    refine TW.sreg ?_
    refine WL.op rfl rfl rfl (W.quiet_bin rfl rfl rfl (fun W => (bn_eq8 W _ _ _ _).trans (by rw [show ((73 : Int) == 73) = true by decide]))) ?_
    refine WL.op rfl rfl rfl (W.quiet_assign rfl rfl) ?_
    refine WL.nil ?_
    refine TW.cond rfl (fun _ => ?_) (fun hb => by cases hb)
    refine TW.skip ?_
    refine TW.cond rfl (fun _ => ?_) (fun hb => by cases hb)
    refine TW.seq ?_
    refine TW.sreg ?_
    refine WL.op rfl rfl rfl (W.quiet_move rfl rfl) ?_
    refine WL.op rfl rfl rfl (W.quiet_bin rfl rfl rfl (fun W => BJ W _ _)) ?_
    refine WL.op rfl rfl rfl (W.quiet_move rfl rfl) ?_
    cases bj
    · refine WL.op rfl rfl rfl (W.quiet_move rfl rfl) ?_
      refine WL.call (hr := t_isLoad op w1) rfl rfl rfl rfl rfl (fun W => cf_isl W _) ?_
      rintro e w2 ⟨rfl, rfl⟩
      refine ⟨_, rfl, ?_⟩
      rw [hbl]
      refine WL.op rfl rfl rfl (W.quiet_pick rfl rfl rfl) ?_
      refine WL.nil ?_
      refine TW.cond rfl (fun hb => ?_) (fun hb => ?_)
      ·
        refine TW.sreg ?_
        refine WL.op rfl rfl rfl (W.quiet_assign rfl rfl) ?_
        refine WL.nil ?_
        refine TW.rt ?_
        repeat (with_reducible first | refine Xw.thn (by simp) ?_ | refine Xw.rblk ?_)
        refine bodyw_ret rfl rfl ?_
        exact ⟨by rw [hT]; unfold layF; rw [if_neg (by decide), if_pos (by decide), if_pos (Or.inr (hbl.trans hb))], f1⟩
      ·
        refine TW.skip ?_
        refine TW.sreg ?_
        refine WL.op rfl rfl rfl (W.quiet_assign rfl rfl) ?_
        refine WL.nil ?_
        refine TW.rt ?_
        repeat (with_reducible first | refine Xw.thn (by simp) ?_ | refine Xw.rblk ?_)
        refine bodyw_ret rfl rfl ?_
        exact ⟨by rw [hT]; unfold layF; rw [if_neg (by decide), if_pos (by decide), if_neg (fun q => q.elim (fun z => by have := hop.1 z; cases this) (fun z => by rw [hbl, hb] at z; cases z))], f1⟩
    · refine WL.skip rfl rfl rfl ?_
      refine WL.skip rfl rfl rfl ?_
      refine WL.op rfl rfl rfl (W.quiet_pick rfl rfl rfl) ?_
      refine WL.nil ?_
      refine TW.cond rfl (fun _ => ?_) (fun hb => by cases hb)
      refine TW.sreg ?_
      refine WL.op rfl rfl rfl (W.quiet_assign rfl rfl) ?_
      refine WL.nil ?_
      refine TW.rt ?_
      repeat (with_reducible first | refine Xw.thn (by simp) ?_ | refine Xw.rblk ?_)
      refine bodyw_ret rfl rfl ?_
      exact ⟨by rw [hT]; unfold layF; rw [if_neg (by decide), if_pos (by decide), if_pos (Or.inl (hop.2 rfl))], f1⟩
  ·
    refine TW.sreg ?_
    refine WL.op rfl rfl rfl (W.quiet_bin rfl rfl rfl (fun W => (bn_eq8 W _ _ _ _).trans (by rw [show ((72 : Int) == 82) = false by decide]))) ?_
    refine WL.op rfl rfl rfl (W.quiet_assign rfl rfl) ?_
    refine WL.nil ?_
    refine TW.cond rfl (fun hb => by cases hb) (fun _ => ?_)
    refine TW.seq ?_
    refine TW.sreg ?_
    refine WL.op rfl rfl rfl (W.quiet_bin rfl rfl rfl (fun W => (bn_eq8 W _ _ _ _).trans (by rw [show ((72 : Int) == 73) = false by decide]))) ?_
    refine WL.op rfl rfl rfl (W.quiet_assign rfl rfl) ?_
    refine WL.nil ?_
    refine TW.cond rfl (fun hb => by cases hb) (fun _ => ?_)
    refine TW.reg ?_
    refine WL.op rfl rfl rfl (W.quiet_bin rfl rfl rfl (fun W => (bn_eq8 W _ _ _ _).trans (by rw [show ((72 : Int) == 72) = true by decide]))) ?_
    refine WL.op rfl rfl rfl (W.quiet_assign rfl rfl) ?_
    refine WL.nil ?_
    refine TW.cond rfl (fun _ => ?_) (fun hb => by cases hb)
    refine TW.seq ?_
    refine TW.sreg ?_
    refine WL.op rfl rfl rfl (W.quiet_move rfl rfl) ?_
    refine WL.op rfl rfl rfl (W.quiet_bin rfl rfl rfl (fun W => BJ W _ _)) ?_
    refine WL.op rfl rfl rfl (W.quiet_move rfl rfl) ?_
    cases bj
    · refine WL.op rfl rfl rfl (W.quiet_move rfl rfl) ?_
      refine WL.call (hr := t_isLoad op w1) rfl rfl rfl rfl rfl (fun W => cf_isl W _) ?_
      rintro e w2 ⟨rfl, rfl⟩
      refine ⟨_, rfl, ?_⟩
      rw [hbl]
      refine WL.op rfl rfl rfl (W.quiet_pick rfl rfl rfl) ?_
      refine WL.nil ?_
      refine TW.cond rfl (fun hb => ?_) (fun hb => ?_)
      ·
        refine TW.sreg ?_
        refine WL.op rfl rfl rfl (W.quiet_assign rfl rfl) ?_
        refine WL.nil ?_
        refine TW.rt ?_
        repeat (with_reducible first | refine Xw.thn (by simp) ?_ | refine Xw.rblk ?_)
        refine bodyw_ret rfl rfl ?_
        exact ⟨by rw [hT]; unfold layF; rw [if_neg (by decide), if_pos (by decide), if_pos (Or.inr (hbl.trans hb))], f1⟩
      ·
        refine TW.skip ?_
        refine TW.sreg ?_
        refine WL.op rfl rfl rfl (W.quiet_assign rfl rfl) ?_
        refine WL.nil ?_
        refine TW.rt ?_
        repeat (with_reducible first | refine Xw.thn (by simp) ?_ | refine Xw.rblk ?_)
        refine bodyw_ret rfl rfl ?_
        exact ⟨by rw [hT]; unfold layF; rw [if_neg (by decide), if_pos (by decide), if_neg (fun q => q.elim (fun z => by have := hop.1 z; cases this) (fun z => by rw [hbl, hb] at z; cases z))], f1⟩
    · refine WL.skip rfl rfl rfl ?_
      refine WL.skip rfl rfl rfl ?_
      refine WL.op rfl rfl rfl (W.quiet_pick rfl rfl rfl) ?_
      refine WL.nil ?_
      refine TW.cond rfl (fun _ => ?_) (fun hb => by cases hb)
      refine TW.sreg ?_
      refine WL.op rfl rfl rfl (W.quiet_assign rfl rfl) ?_
      refine WL.nil ?_
      refine TW.rt ?_
      repeat (with_reducible first | refine Xw.thn (by simp) ?_ | refine Xw.rblk ?_)
      refine bodyw_ret rfl rfl ?_
      exact ⟨by rw [hT]; unfold layF; rw [if_neg (by decide), if_pos (by decide), if_pos (Or.inl (hop.2 rfl))], f1⟩
  ·
    refine TW.sreg ?_
    refine WL.op rfl rfl rfl (W.quiet_bin rfl rfl rfl (fun W => (bn_eq8 W _ _ _ _).trans (by rw [show ((83 : Int) == 82) = false by decide]))) ?_
    refine WL.op rfl rfl rfl (W.quiet_assign rfl rfl) ?_
    refine WL.nil ?_
    refine TW.cond rfl (fun hb => by cases hb) (fun _ => ?_)
    refine TW.seq ?_
    refine TW.sreg ?_
    refine WL.op rfl rfl rfl (W.quiet_bin rfl rfl rfl (fun W => (bn_eq8 W _ _ _ _).trans (by rw [show ((83 : Int) == 73) = false by decide]))) ?_
    refine WL.op rfl rfl rfl (W.quiet_assign rfl rfl) ?_
    refine WL.nil ?_
    refine TW.cond rfl (fun hb => by cases hb) (fun _ => ?_)
    refine TW.reg ?_
    refine WL.op rfl rfl rfl (W.quiet_bin rfl rfl rfl (fun W => (bn_eq8 W _ _ _ _).trans (by rw [show ((83 : Int) == 72) = false by decide]))) ?_
    refine WL.op rfl rfl rfl (W.quiet_assign rfl rfl) ?_
    refine WL.nil ?_
    refine TW.cond rfl (fun hb => by cases hb) (fun _ => ?_)
    refine TW.seq ?_
    refine TW.sreg ?_
    refine WL.op rfl rfl rfl (W.quiet_bin rfl rfl rfl (fun W => (bn_eq8 W _ _ _ _).trans (by rw [show ((83 : Int) == 85) = false by decide]))) ?_
    refine WL.op rfl rfl rfl (W.quiet_assign rfl rfl) ?_
    refine WL.nil ?_
    refine TW.cond rfl (fun hb => by cases hb) (fun _ => ?_)
    refine TW.reg ?_
    refine WL.op rfl rfl rfl (W.quiet_bin rfl rfl rfl (fun W => (bn_eq8 W _ _ _ _).trans (by rw [show ((83 : Int) == 74) = false by decide]))) ?_
    refine WL.op rfl rfl rfl (W.quiet_assign rfl rfl) ?_
    refine WL.nil ?_
    refine TW.cond rfl (fun hb => by cases hb) (fun _ => ?_)
    refine TW.sreg ?_
    refine WL.op rfl rfl rfl (W.quiet_bin rfl rfl rfl (fun W => (bn_eq8 W _ _ _ _).trans (by rw [show ((83 : Int) == 66) = false by decide]))) ?_
    refine WL.op rfl rfl rfl (W.quiet_assign rfl rfl) ?_
    refine WL.nil ?_
    refine TW.cond rfl (fun hb => by cases hb) (fun _ => ?_)
    refine TW.sreg ?_
    refine WL.op rfl rfl rfl (W.quiet_bin rfl rfl rfl (fun W => (bn_eq8 W _ _ _ _).trans (by rw [show ((83 : Int) == 83) = true by decide]))) ?_
    refine WL.op rfl rfl rfl (W.quiet_assign rfl rfl) ?_
    refine WL.nil ?_
    refine TW.cond rfl (fun _ => ?_) (fun hb => by cases hb)
    refine TW.sreg ?_
    refine WL.op rfl rfl rfl (W.quiet_assign rfl rfl) ?_
    refine WL.nil ?_
    refine TW.rt ?_
    repeat (with_reducible first | refine Xw.thn (by simp) ?_ | refine Xw.rblk ?_)
    refine bodyw_ret rfl rfl ?_
    exact ⟨by rw [hT]; rfl, f1⟩
  ·
    refine TW.sreg ?_
    refine WL.op rfl rfl rfl (W.quiet_bin rfl rfl rfl (fun W => (bn_eq8 W _ _ _ _).trans (by rw [show ((66 : Int) == 82) = false by decide]))) ?_
    refine WL.op rfl rfl rfl (W.quiet_assign rfl rfl) ?_
    refine WL.nil ?_
    refine TW.cond rfl (fun hb => by cases hb) (fun _ => ?_)
    refine TW.seq ?_
    refine TW.sreg ?_
    refine WL.op rfl rfl rfl (W.quiet_bin rfl rfl rfl (fun W => (bn_eq8 W _ _ _ _).trans (by rw [show ((66 : Int) == 73) = false by decide]))) ?_
    refine WL.op rfl rfl rfl (W.quiet_assign rfl rfl) ?_
    refine WL.nil ?_
    refine TW.cond rfl (fun hb => by cases hb) (fun _ => ?_)
    refine TW.reg ?_
    refine WL.op rfl rfl rfl (W.quiet_bin rfl rfl rfl (fun W => (bn_eq8 W _ _ _ _).trans (by rw [show ((66 : Int) == 72) = false by decide]))) ?_
    refine WL.op rfl rfl rfl (W.quiet_assign rfl rfl) ?_
    refine WL.nil ?_
    refine TW.cond rfl (fun hb => by cases hb) (fun _ => ?_)
    refine TW.seq ?_
    refine TW.sreg ?_
    refine WL.op rfl rfl rfl (W.quiet_bin rfl rfl rfl (fun W => (bn_eq8 W _ _ _ _).trans (by rw [show ((66 : Int) == 85) = false by decide]))) ?_
    refine WL.op rfl rfl rfl (W.quiet_assign rfl rfl) ?_
    refine WL.nil ?_
    refine TW.cond rfl (fun hb => by cases hb) (fun _ => ?_)
    refine TW.reg ?_
    refine WL.op rfl rfl rfl (W.quiet_bin rfl rfl rfl (fun W => (bn_eq8 W _ _ _ _).trans (by rw [show ((66 : Int) == 74) = false by decide]))) ?_
    refine WL.op rfl rfl rfl (W.quiet_assign rfl rfl) ?_
    refine WL.nil ?_
    refine TW.cond rfl (fun hb => by cases hb) (fun _ => ?_)
    refine TW.sreg ?_
    refine WL.op rfl rfl rfl (W.quiet_bin rfl rfl rfl (fun W => (bn_eq8 W _ _ _ _).trans (by rw [show ((66 : Int) == 66) = true by decide]))) ?_
    refine WL.op rfl rfl rfl (W.quiet_assign rfl rfl) ?_
    refine WL.nil ?_
    refine TW.cond rfl (fun _ => ?_) (fun hb => by cases hb)
    refine TW.sreg ?_
    refine WL.op rfl rfl rfl (W.quiet_assign rfl rfl) ?_
    refine WL.nil ?_
    refine TW.rt ?_
    repeat (with_reducible first | refine Xw.thn (by simp) ?_ | refine Xw.rblk ?_)
    refine bodyw_ret rfl rfl ?_
    exact ⟨by rw [hT]; rfl, f1⟩
  ·
    refine TW.sreg ?_
    refine WL.op rfl rfl rfl (W.quiet_bin rfl rfl rfl (fun W => (bn_eq8 W _ _ _ _).trans (by rw [show ((82 : Int) == 82) = true by decide]))) ?_
    refine WL.op rfl rfl rfl (W.quiet_assign rfl rfl) ?_
    refine WL.nil ?_
    refine TW.cond rfl (fun _ => ?_) (fun hb => by cases hb)
    refine TW.sreg ?_
    refine WL.op rfl rfl rfl (W.quiet_assign rfl rfl) ?_
    refine WL.nil ?_
    refine TW.rt ?_
    repeat (with_reducible first | refine Xw.thn (by simp) ?_ | refine Xw.rblk ?_)
    refine bodyw_ret rfl rfl ?_
    exact ⟨by rw [hT]; rfl, f1⟩
  ·
    refine TW.sreg ?_
    refine WL.op rfl rfl rfl (W.quiet_bin rfl rfl rfl (fun W => (bn_eq8 W _ _ _ _).trans (by rw [show ((0 : Int) == 82) = false by decide]))) ?_
    refine WL.op rfl rfl rfl (W.quiet_assign rfl rfl) ?_
    refine WL.nil ?_
    refine TW.cond rfl (fun hb => by cases hb) (fun _ => ?_)
    refine TW.seq ?_
    refine TW.sreg ?_
    refine WL.op rfl rfl rfl (W.quiet_bin rfl rfl rfl (fun W => (bn_eq8 W _ _ _ _).trans (by rw [show ((0 : Int) == 73) = false by decide]))) ?_
    refine WL.op rfl rfl rfl (W.quiet_assign rfl rfl) ?_
    refine WL.nil ?_
    refine TW.cond rfl (fun hb => by cases hb) (fun _ => ?_)
    refine TW.reg ?_
    refine WL.op rfl rfl rfl (W.quiet_bin rfl rfl rfl (fun W => (bn_eq8 W _ _ _ _).trans (by rw [show ((0 : Int) == 72) = false by decide]))) ?_
    refine WL.op rfl rfl rfl (W.quiet_assign rfl rfl) ?_
    refine WL.nil ?_
    refine TW.cond rfl (fun hb => by cases hb) (fun _ => ?_)
    refine TW.seq ?_
    refine TW.sreg ?_
    refine WL.op rfl rfl rfl (W.quiet_bin rfl rfl rfl (fun W => (bn_eq8 W _ _ _ _).trans (by rw [show ((0 : Int) == 85) = false by decide]))) ?_
    refine WL.op rfl rfl rfl (W.quiet_assign rfl rfl) ?_
    refine WL.nil ?_
    refine TW.cond rfl (fun hb => by cases hb) (fun _ => ?_)
    refine TW.reg ?_
    refine WL.op rfl rfl rfl (W.quiet_bin rfl rfl rfl (fun W => (bn_eq8 W _ _ _ _).trans (by rw [show ((0 : Int) == 74) = false by decide]))) ?_
    refine WL.op rfl rfl rfl (W.quiet_assign rfl rfl) ?_
    refine WL.nil ?_
    refine TW.cond rfl (fun hb => by cases hb) (fun _ => ?_)
    refine TW.sreg ?_
    refine WL.op rfl rfl rfl (W.quiet_bin rfl rfl rfl (fun W => (bn_eq8 W _ _ _ _).trans (by rw [show ((0 : Int) == 66) = false by decide]))) ?_
    refine WL.op rfl rfl rfl (W.quiet_assign rfl rfl) ?_
    refine WL.nil ?_
    refine TW.cond rfl (fun hb => by cases hb) (fun _ => ?_)
    refine TW.sreg ?_
    refine WL.op rfl rfl rfl (W.quiet_bin rfl rfl rfl (fun W => (bn_eq8 W _ _ _ _).trans (by rw [show ((0 : Int) == 83) = false by decide]))) ?_
    refine WL.op rfl rfl rfl (W.quiet_assign rfl rfl) ?_
    refine WL.nil ?_
    refine TW.cond rfl (fun hb => by cases hb) (fun _ => ?_)
    refine TW.skipx ?_
    repeat (with_reducible refine Xw.nblk ?_)
    refine Xw.nrm ?_
    refine TW.sreg ?_
    refine WL.op rfl rfl rfl (W.quiet_assign rfl rfl) ?_
    refine WL.nil ?_
    refine TW.rt ?_
    repeat (with_reducible first | refine Xw.thn (by simp) ?_ | refine Xw.rblk ?_)
    refine bodyw_ret rfl rfl ?_
    exact ⟨by rw [hT]; rfl, f1⟩
theorem alloc_lt' (w : World) (o : Obj) : w.heap.size < (w.alloc o).heap.size := by simp
section
variable (w : World) (b o : Nat)
theorem bx_ins (u0 u1 u2 u3 u4 : Value) : (Instr.box 23 (.agg #[u0, u1, u2, u3, u4])).run Tryz.prog w = .ok (.pointer (some ⟨w.heap.size, 0, none⟩)) (w.alloc (.cells #[u0, u1, u2, u3, u4] 23)) := by simp [go_sem]
theorem li0 : (Instr.fieldAt 23 (.pointer (some ⟨b, o, none⟩)) 0).run Tryz.prog w = .ok (.pointer (some ⟨b, o, none⟩)) w := by simp [go_sem]
theorem li1 : (Instr.fieldAt 23 (.pointer (some ⟨b, o, none⟩)) 1).run Tryz.prog w = .ok (.pointer (some ⟨b, o + 1, none⟩)) w := by simp [go_sem]
theorem li2 : (Instr.fieldAt 23 (.pointer (some ⟨b, o, none⟩)) 2).run Tryz.prog w = .ok (.pointer (some ⟨b, o + 2, none⟩)) w := by simp [go_sem]
theorem li3 : (Instr.fieldAt 23 (.pointer (some ⟨b, o, none⟩)) 3).run Tryz.prog w = .ok (.pointer (some ⟨b, o + 3, none⟩)) w := by simp [go_sem]
theorem li4 : (Instr.fieldAt 23 (.pointer (some ⟨b, o, none⟩)) 4).run Tryz.prog w = .ok (.pointer (some ⟨b, o + 4, none⟩)) w := by simp [go_sem]
theorem ldi (m : Int) (d : Addr) (h : w.cell? d = some (.int .i64 m)) : (Instr.loadAt 3 (.pointer (some d))).run Tryz.prog w = .ok (.int .i64 m) w := by simp [go_sem, h]
end
def opdT (rd r1 r2 imm : Int) (o : UInt8) : List UInt8 :=
  if o = 100 then regT rd else if o = 97 then regT r1 else if o = 98 then regT r2 else if o = 109 then Lib.itoa imm ++ [40] ++ regT r1 ++ [41] else Lib.itoa imm
def I64 (n : Int) : Prop := -9223372036854775808 ≤ n ∧ n ≤ 9223372036854775807
set_option maxRecDepth 100000 in
theorem t_operand (op rd r1 r2 imm : Int) (o : UInt8) (h1 : I64 rd) (h2 : I64 r1) (h3 : I64 r2) (h4 : I64 imm) (ho : o = 100 ∨ o = 97 ∨ o = 98 ∨ o = 109 ∨ o = 105) (w : World) (ht : TabW w) : Calls Tryz.prog 35 #[.agg #[.int .i64 op, .int .i64 rd, .int .i64 r1, .int .i64 r2, .int .i64 imm], .int .i32 (o.toNat : Int)] w fun e w' => e = .returned (bts (opdT rd r1 r2 imm o)) ∧ Fr (fun _ => False) w w' := by
  refine calls_tw Tryz.func35 rfl rfl (Nat.le_of_ble_eq_true rfl) ?_
  refine TW.sreg ?_
  refine WL.box rfl rfl rfl rfl rfl (bx_ins _ _ _ _ _ _) ?_
  refine WL.op rfl rfl rfl (W.quiet_assign rfl rfl) ?_
  refine WL.nil ?_
  have f1 := fr_al (Fr.refl (fun _ => False) w) (.cells #[.int .i64 op, .int .i64 rd, .int .i64 r1, .int .i64 r2, .int .i64 imm] 23)
  have C := fun j y h => fcell w #[.int .i64 op, .int .i64 rd, .int .i64 r1, .int .i64 r2, .int .i64 imm] 23 j y h
  have c1 := C 1 _ rfl
  have c2 := C 2 _ rfl
  have c3 := C 3 _ rfl
  have c4 := C 4 _ rfl
  have hsz := alloc_lt' w (.cells #[.int .i64 op, .int .i64 rd, .int .i64 r1, .int .i64 r2, .int .i64 imm] 23)
  replace ht := ht.fr f1 id
  clear C
  generalize w.alloc (.cells #[.int .i64 op, .int .i64 rd, .int .i64 r1, .int .i64 r2, .int .i64 imm] 23) = w1 at *
  generalize w.heap.size = bx at *
  refine TW.seq ?_
  refine TW.sreg ?_
  refine WL.op rfl rfl rfl (W.quiet_move rfl rfl) ?_
  refine WL.nil ?_
  refine TW.block ?_
  rcases ho with rfl | rfl | rfl | rfl | rfl
  ·
    refine TW.sreg ?_
    refine WL.op rfl rfl rfl (W.quiet_bin rfl rfl rfl (fun W => (bn_eq32 W _ _ _ _).trans (by rw [show ((((100 : UInt8).toNat : Nat) : Int) == 100) = true by decide]))) ?_
    refine WL.op rfl rfl rfl (W.quiet_assign rfl rfl) ?_
    refine WL.nil ?_
    refine TW.cond rfl (fun _ => ?_) (fun hb => by cases hb)
    refine TW.sreg ?_
    refine WL.op rfl rfl rfl (W.quiet_field rfl rfl (fun W => li1 W _ _)) ?_
    refine WL.ld rfl rfl rfl rfl rfl (ldi _ _ _ (by rw [Nat.zero_add]; exact c1)) ?_
    refine WL.call (hr := t_register rd h1.1 h1.2 w1 ht) rfl rfl rfl rfl rfl (fun W => cf_reg W _) ?_
    rintro e w2 ⟨rfl, f2⟩
    refine ⟨_, rfl, ?_⟩
    refine WL.op rfl rfl rfl (W.quiet_assign rfl rfl) ?_
    refine WL.nil ?_
    refine TW.rt ?_
    repeat (with_reducible first | refine Xw.thn (by simp) ?_ | refine Xw.rblk ?_)
    refine bodyw_ret rfl rfl ?_
    exact ⟨rfl, f1.trans f2⟩
  ·
    refine TW.sreg ?_
    refine WL.op rfl rfl rfl (W.quiet_bin rfl rfl rfl (fun W => (bn_eq32 W _ _ _ _).trans (by rw [show ((((97 : UInt8).toNat : Nat) : Int) == 100) = false by decide]))) ?_
    refine WL.op rfl rfl rfl (W.quiet_assign rfl rfl) ?_
    refine WL.nil ?_
    refine TW.cond rfl (fun hb => by cases hb) (fun _ => ?_)
    refine TW.sreg ?_
    refine WL.op rfl rfl rfl (W.quiet_bin rfl rfl rfl (fun W => (bn_eq32 W _ _ _ _).trans (by rw [show ((((97 : UInt8).toNat : Nat) : Int) == 97) = true by decide]))) ?_
    refine WL.op rfl rfl rfl (W.quiet_assign rfl rfl) ?_
    refine WL.nil ?_
    refine TW.cond rfl (fun _ => ?_) (fun hb => by cases hb)
    refine TW.sreg ?_
    refine WL.op rfl rfl rfl (W.quiet_field rfl rfl (fun W => li2 W _ _)) ?_
    refine WL.ld rfl rfl rfl rfl rfl (ldi _ _ _ (by rw [Nat.zero_add]; exact c2)) ?_
    refine WL.call (hr := t_register r1 h2.1 h2.2 w1 ht) rfl rfl rfl rfl rfl (fun W => cf_reg W _) ?_
    rintro e w2 ⟨rfl, f2⟩
    refine ⟨_, rfl, ?_⟩
    refine WL.op rfl rfl rfl (W.quiet_assign rfl rfl) ?_
    refine WL.nil ?_
    refine TW.rt ?_
    repeat (with_reducible first | refine Xw.thn (by simp) ?_ | refine Xw.rblk ?_)
    refine bodyw_ret rfl rfl ?_
    exact ⟨rfl, f1.trans f2⟩
  ·
    refine TW.sreg ?_
    refine WL.op rfl rfl rfl (W.quiet_bin rfl rfl rfl (fun W => (bn_eq32 W _ _ _ _).trans (by rw [show ((((98 : UInt8).toNat : Nat) : Int) == 100) = false by decide]))) ?_
    refine WL.op rfl rfl rfl (W.quiet_assign rfl rfl) ?_
    refine WL.nil ?_
    refine TW.cond rfl (fun hb => by cases hb) (fun _ => ?_)
    refine TW.sreg ?_
    refine WL.op rfl rfl rfl (W.quiet_bin rfl rfl rfl (fun W => (bn_eq32 W _ _ _ _).trans (by rw [show ((((98 : UInt8).toNat : Nat) : Int) == 97) = false by decide]))) ?_
    refine WL.op rfl rfl rfl (W.quiet_assign rfl rfl) ?_
    refine WL.nil ?_
    refine TW.cond rfl (fun hb => by cases hb) (fun _ => ?_)
    refine TW.sreg ?_
    refine WL.op rfl rfl rfl (W.quiet_bin rfl rfl rfl (fun W => (bn_eq32 W _ _ _ _).trans (by rw [show ((((98 : UInt8).toNat : Nat) : Int) == 98) = true by decide]))) ?_
    refine WL.op rfl rfl rfl (W.quiet_assign rfl rfl) ?_
    refine WL.nil ?_
    refine TW.cond rfl (fun _ => ?_) (fun hb => by cases hb)
    refine TW.sreg ?_
    refine WL.op rfl rfl rfl (W.quiet_field rfl rfl (fun W => li3 W _ _)) ?_
    refine WL.ld rfl rfl rfl rfl rfl (ldi _ _ _ (by rw [Nat.zero_add]; exact c3)) ?_
    refine WL.call (hr := t_register r2 h3.1 h3.2 w1 ht) rfl rfl rfl rfl rfl (fun W => cf_reg W _) ?_
    rintro e w2 ⟨rfl, f2⟩
    refine ⟨_, rfl, ?_⟩
    refine WL.op rfl rfl rfl (W.quiet_assign rfl rfl) ?_
    refine WL.nil ?_
    refine TW.rt ?_
    repeat (with_reducible first | refine Xw.thn (by simp) ?_ | refine Xw.rblk ?_)
    refine bodyw_ret rfl rfl ?_
    exact ⟨rfl, f1.trans f2⟩
  ·
    refine TW.sreg ?_
    refine WL.op rfl rfl rfl (W.quiet_bin rfl rfl rfl (fun W => (bn_eq32 W _ _ _ _).trans (by rw [show ((((109 : UInt8).toNat : Nat) : Int) == 100) = false by decide]))) ?_
    refine WL.op rfl rfl rfl (W.quiet_assign rfl rfl) ?_
    refine WL.nil ?_
    refine TW.cond rfl (fun hb => by cases hb) (fun _ => ?_)
    refine TW.sreg ?_
    refine WL.op rfl rfl rfl (W.quiet_bin rfl rfl rfl (fun W => (bn_eq32 W _ _ _ _).trans (by rw [show ((((109 : UInt8).toNat : Nat) : Int) == 97) = false by decide]))) ?_
    refine WL.op rfl rfl rfl (W.quiet_assign rfl rfl) ?_
    refine WL.nil ?_
    refine TW.cond rfl (fun hb => by cases hb) (fun _ => ?_)
    refine TW.sreg ?_
    refine WL.op rfl rfl rfl (W.quiet_bin rfl rfl rfl (fun W => (bn_eq32 W _ _ _ _).trans (by rw [show ((((109 : UInt8).toNat : Nat) : Int) == 98) = false by decide]))) ?_
    refine WL.op rfl rfl rfl (W.quiet_assign rfl rfl) ?_
    refine WL.nil ?_
    refine TW.cond rfl (fun hb => by cases hb) (fun _ => ?_)
    refine TW.sreg ?_
    refine WL.op rfl rfl rfl (W.quiet_bin rfl rfl rfl (fun W => (bn_eq32 W _ _ _ _).trans (by rw [show ((((109 : UInt8).toNat : Nat) : Int) == 109) = true by decide]))) ?_
    refine WL.op rfl rfl rfl (W.quiet_assign rfl rfl) ?_
    refine WL.nil ?_
    refine TW.cond rfl (fun _ => ?_) (fun hb => by cases hb)
    have l1 := itoa_len2 h4.1 h4.2
    have l2 := itoa_len2 h2.1 h2.2
    refine TW.to (fun W => Fr (fun _ => False) w1 W) (Fr.refl _ _) ?_
    have L4 : ∀ W, Fr (fun _ => False) w1 W → (Instr.loadAt 3 (.pointer (some ⟨bx, 0 + 4, none⟩))).run Tryz.prog W = .ok (.int .i64 imm) W := fun W hW => ldi _ _ _ (by rw [Nat.zero_add]; exact hW.cell c4 id)
    have L2 : ∀ W, Fr (fun _ => False) w1 W → (Instr.loadAt 3 (.pointer (some ⟨bx, 0 + 2, none⟩))).run Tryz.prog W = .ok (.int .i64 r1) W := fun W hW => ldi _ _ _ (by rw [Nat.zero_add]; exact hW.cell c2 id)
    have KI : ∀ W, Fr (fun _ => False) w1 W → Calls Tryz.prog 58 #[.int .i64 imm] W fun e w' => e = .returned (bts (Lib.itoa imm)) ∧ Fr (fun _ => False) w1 w' := fun W hW => (itoa_any imm h4.1 h4.2 W (ht.fr hW id)).mono fun e w' q => ⟨q.1, hW.trans q.2⟩
    have KR : ∀ W, Fr (fun _ => False) w1 W → Calls Tryz.prog 57 #[.int .i64 r1] W fun e w' => e = .returned (bts (regT r1)) ∧ Fr (fun _ => False) w1 w' := fun W hW => (t_register r1 h2.1 h2.2 W (ht.fr hW id)).mono fun e w' q => ⟨q.1, hW.trans q.2⟩
    refine T.sregD (by kernel_rfl) (by kernel_rfl) (fun W hW => hW.drewN 1) [(4, bts (Lib.itoa imm ++ [40] ++ regT r1 ++ [41]))] ?_ (T.ret ?_)
    · refine W.op rfl rfl rfl (W.quiet_field rfl rfl (fun W => li4 W _ _)) ?_
      refine W.op rfl rfl rfl (W.quiet_load rfl rfl L4) ?_
      refine W.op rfl rfl rfl (W.quiet_call (hr := KI) rfl rfl (fun W => cf_itoa W _)) ?_
      refine W.op rfl rfl rfl (W.quiet_bin rfl rfl rfl (fun W => bn_cat W _ _ (Lib.itoa imm) [40] (by simp; omega))) ?_
      refine W.op rfl rfl rfl (W.quiet_field rfl rfl (fun W => li2 W _ _)) ?_
      refine W.op rfl rfl rfl (W.quiet_load rfl rfl L2) ?_
      refine W.op rfl rfl rfl (W.quiet_call (hr := KR) rfl rfl (fun W => cf_reg W _)) ?_
      refine W.op rfl rfl rfl (W.quiet_bin rfl rfl rfl (fun W => bn_cat W _ _ (Lib.itoa imm ++ [40]) (regT r1) (by simp [regT]; omega))) ?_
      refine W.op rfl rfl rfl (W.quiet_bin rfl rfl rfl (fun W => bn_cat W _ _ (Lib.itoa imm ++ [40] ++ regT r1) [41] (by simp [regT]; omega))) ?_
      refine W.op rfl rfl rfl (W.quiet_assign rfl rfl) ?_
      exact W.nil (fun a h => by (repeat (refine Kn.cons h rfl ?_)); exact h.base)
    · repeat (with_reducible first | refine Rt.thn ?_ | refine Rt.blk ?_)
      refine body_ret rfl rfl ?_
      exact fun W hW => ⟨rfl, f1.trans hW⟩
  ·
    refine TW.sreg ?_
    refine WL.op rfl rfl rfl (W.quiet_bin rfl rfl rfl (fun W => (bn_eq32 W _ _ _ _).trans (by rw [show ((((105 : UInt8).toNat : Nat) : Int) == 100) = false by decide]))) ?_
    refine WL.op rfl rfl rfl (W.quiet_assign rfl rfl) ?_
    refine WL.nil ?_
    refine TW.cond rfl (fun hb => by cases hb) (fun _ => ?_)
    refine TW.sreg ?_
    refine WL.op rfl rfl rfl (W.quiet_bin rfl rfl rfl (fun W => (bn_eq32 W _ _ _ _).trans (by rw [show ((((105 : UInt8).toNat : Nat) : Int) == 97) = false by decide]))) ?_
    refine WL.op rfl rfl rfl (W.quiet_assign rfl rfl) ?_
    refine WL.nil ?_
    refine TW.cond rfl (fun hb => by cases hb) (fun _ => ?_)
    refine TW.sreg ?_
    refine WL.op rfl rfl rfl (W.quiet_bin rfl rfl rfl (fun W => (bn_eq32 W _ _ _ _).trans (by rw [show ((((105 : UInt8).toNat : Nat) : Int) == 98) = false by decide]))) ?_
    refine WL.op rfl rfl rfl (W.quiet_assign rfl rfl) ?_
    refine WL.nil ?_
    refine TW.cond rfl (fun hb => by cases hb) (fun _ => ?_)
    refine TW.sreg ?_
    refine WL.op rfl rfl rfl (W.quiet_bin rfl rfl rfl (fun W => (bn_eq32 W _ _ _ _).trans (by rw [show ((((105 : UInt8).toNat : Nat) : Int) == 109) = false by decide]))) ?_
    refine WL.op rfl rfl rfl (W.quiet_assign rfl rfl) ?_
    refine WL.nil ?_
    refine TW.cond rfl (fun hb => by cases hb) (fun _ => ?_)
    refine TW.skipx ?_
    repeat (with_reducible refine Xw.nblk ?_)
    refine Xw.nrm ?_
    refine TW.sreg ?_
    refine WL.op rfl rfl rfl (W.quiet_field rfl rfl (fun W => li4 W _ _)) ?_
    refine WL.ld rfl rfl rfl rfl rfl (ldi _ _ _ (by rw [Nat.zero_add]; exact c4)) ?_
    refine WL.call (hr := itoa_any imm h4.1 h4.2 w1 ht) rfl rfl rfl rfl rfl (fun W => cf_itoa W _) ?_
    rintro e w2 ⟨rfl, f2⟩
    refine ⟨_, rfl, ?_⟩
    refine WL.op rfl rfl rfl (W.quiet_assign rfl rfl) ?_
    refine WL.nil ?_
    refine TW.rt ?_
    repeat (with_reducible first | refine Xw.thn (by simp) ?_ | refine Xw.rblk ?_)
    refine bodyw_ret rfl rfl ?_
    exact ⟨rfl, f1.trans f2⟩
end Go.Proofs.YtlagdgkjpnocfaaGreatDoor
