/-
  Listing (layer 6): a register, an operand, a layout, a line, as texts.
-/
import Derived.Test.YtlagdgkjpnocfaaGreatDoorQBldA
import Derived.Test.YtlagdgkjpnocfaaGreatDoorQFits
import Derived.Test.YtlagdgkjpnocfaaGreatDoorQFr
namespace Go.Proofs.YtlagdgkjpnocfaaGreatDoor
open Go.RowKit
set_option linter.unusedVariables false
set_option linter.unusedSimpArgs false
abbrev bts (l : List UInt8) : Value := .string ⟨l.toArray⟩
section
variable (w : World) (x y : Operand)
theorem bn_cat (a b : List UInt8) (h : a.length + b.length ≤ 140737488355328) : (do eqGuard .add 9 x y (bts a) (bts b); binOp .add 9 (bts a) (bts b) : Sem Value).run Tryz.prog w = .ok (bts (a ++ b)) w := by
  have := str_app a b
  simp [go_sem, this]; omega
theorem bn_eq8 (m n : Int) : (do eqGuard .eql 5 x y (.int .u8 m) (.int .u8 n); binOp .eql 5 (.int .u8 m) (.int .u8 n) : Sem Value).run Tryz.prog w = .ok (.bool (m == n)) w := by simp [go_sem]
theorem bn_eq32 (m n : Int) : (do eqGuard .eql 21 x y (.int .i32 m) (.int .i32 n); binOp .eql 21 (.int .i32 m) (.int .i32 n) : Sem Value).run Tryz.prog w = .ok (.bool (m == n)) w := by simp [go_sem]
theorem bn_eqi (m n : Int) : (do eqGuard .eql 3 x y (.int .i64 m) (.int .i64 n); binOp .eql 3 (.int .i64 m) (.int .i64 n) : Sem Value).run Tryz.prog w = .ok (.bool (m == n)) w := by simp [go_sem]
theorem bn_gei (m n : Int) : (do eqGuard .geq 3 x y (.int .i64 m) (.int .i64 n); binOp .geq 3 (.int .i64 m) (.int .i64 n) : Sem Value).run Tryz.prog w = .ok (.bool (decide (n ≤ m))) w := by simp [go_sem]
theorem bn_lei (m n : Int) : (do eqGuard .leq 3 x y (.int .i64 m) (.int .i64 n); binOp .leq 3 (.int .i64 m) (.int .i64 n) : Sem Value).run Tryz.prog w = .ok (.bool (decide (m ≤ n))) w := by simp [go_sem]
end
section
variable (w : World) (vs : Array Value)
theorem cf_itoa : (callFunc 58 vs).run Tryz.prog w = .ok (.enter 58 vs) w := by simp [go_sem]
theorem cf_reg : (callFunc 57 vs).run Tryz.prog w = .ok (.enter 57 vs) w := by simp [go_sem]
theorem cf_isl : (callFunc 56 vs).run Tryz.prog w = .ok (.enter 56 vs) w := by simp [go_sem]
theorem cf_form : (callFunc 26 vs).run Tryz.prog w = .ok (.enter 26 vs) w := by simp [go_sem]
theorem cf_name : (callFunc 37 vs).run Tryz.prog w = .ok (.enter 37 vs) w := by simp [go_sem]
theorem cf_lay : (callFunc 34 vs).run Tryz.prog w = .ok (.enter 34 vs) w := by simp [go_sem]
theorem cf_opd : (callFunc 35 vs).run Tryz.prog w = .ok (.enter 35 vs) w := by simp [go_sem]
theorem cf_join : (callFunc 59 vs).run Tryz.prog w = .ok (.enter 59 vs) w := by simp [go_sem]
theorem cf_ass : (callFunc 36 vs).run Tryz.prog w = .ok (.enter 36 vs) w := by simp [go_sem]
end
theorem itoa_len2 {n : Int} (h0 : -9223372036854775808 ≤ n) (h1 : n ≤ 9223372036854775807) : (Lib.itoa n).length ≤ 21 := by
  have := numsL_len [n] (fun x hx => by simp at hx; subst hx; exact ⟨h0, h1⟩)
  simp [numsL] at this
  omega
def regT (n : Int) : List UInt8 := 120 :: Lib.itoa n
theorem t_register (n : Int) (h0 : -9223372036854775808 ≤ n) (h1 : n ≤ 9223372036854775807) (w : World) (ht : TabW w) : Calls Tryz.prog 57 #[.int .i64 n] w fun e w' => e = .returned (bts (regT n)) ∧ Fr (fun _ => False) w w' := by
  have hl := itoa_len2 h0 h1
  refine calls_tw Tryz.func57 rfl rfl (Nat.le_of_ble_eq_true rfl) ?_
  refine TW.sreg ?_
  refine WL.op rfl rfl rfl (W.quiet_assign rfl rfl) ?_
  refine WL.nil ?_
  refine TW.sreg ?_
  refine WL.op rfl rfl rfl (W.quiet_move rfl rfl) ?_
  refine WL.call (hr := itoa_any n h0 h1 w ht) rfl rfl rfl rfl rfl (fun W => cf_itoa W _) ?_
  rintro e w1 ⟨rfl, f1⟩
  refine ⟨_, rfl, ?_⟩
  refine WL.op rfl rfl rfl (W.quiet_bin rfl rfl rfl (fun W => bn_cat W _ _ [120] (Lib.itoa n) (by simp; omega))) ?_
  refine WL.op rfl rfl rfl (W.quiet_assign rfl rfl) ?_
  refine WL.nil ?_
  refine TW.rt ?_
  repeat (with_reducible refine Xw.thn (by simp) ?_)
  refine bodyw_ret rfl rfl ?_
  exact ⟨rfl, f1⟩
def loadB (op : Int) : Bool := decide (11 ≤ op) && decide (op ≤ 15)
theorem t_isLoad (op : Int) (w : World) : Calls Tryz.prog 56 #[.int .i64 op] w fun e w' => e = .returned (.bool (loadB op)) ∧ w = w' := by
  obtain ⟨b1, hb1⟩ : ∃ q, decide (11 ≤ op) = q := ⟨_, rfl⟩
  have hl : loadB op = (b1 && decide (op ≤ 15)) := by rw [← hb1]; rfl
  refine calls_tw Tryz.func56 rfl rfl (Nat.le_of_ble_eq_true rfl) ?_
  refine TW.sreg ?_
  refine WL.op rfl rfl rfl (W.quiet_assign rfl rfl) ?_
  refine WL.nil ?_
  refine TW.sreg ?_
  refine WL.op rfl rfl rfl (W.quiet_move rfl rfl) ?_
  refine WL.op rfl rfl rfl (W.quiet_bin rfl rfl rfl (fun W => (bn_gei W _ _ _ _).trans (by rw [hb1]))) ?_
  refine WL.op rfl rfl rfl (W.quiet_move rfl rfl) ?_
  cases b1
  · refine WL.skip rfl rfl rfl ?_
    refine WL.skip rfl rfl rfl ?_
    refine WL.op rfl rfl rfl (W.quiet_pick rfl rfl rfl) ?_
    refine WL.op rfl rfl rfl (W.quiet_assign rfl rfl) ?_
    refine WL.nil ?_
    refine TW.rt ?_
    repeat (with_reducible refine Xw.thn (by simp) ?_)
    refine bodyw_ret rfl rfl ?_
    exact ⟨by rw [hl]; rfl, rfl⟩
  · refine WL.op rfl rfl rfl (W.quiet_move rfl rfl) ?_
    refine WL.op rfl rfl rfl (W.quiet_bin rfl rfl rfl (fun W => bn_lei W _ _ _ _)) ?_
    refine WL.op rfl rfl rfl (W.quiet_pick rfl rfl rfl) ?_
    refine WL.op rfl rfl rfl (W.quiet_assign rfl rfl) ?_
    refine WL.nil ?_
    refine TW.rt ?_
    repeat (with_reducible refine Xw.thn (by simp) ?_)
    refine bodyw_ret rfl rfl ?_
    exact ⟨by rw [hl]; rfl, rfl⟩
end Go.Proofs.YtlagdgkjpnocfaaGreatDoor
