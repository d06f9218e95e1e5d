/-
  Listing (layer 6): the line of a word; Line.
-/
import Derived.Test.YtlagdgkjpnocfaaGreatDoorLsF
import Derived.Test.YtlagdgkjpnocfaaGreatDoorEnc
import Derived.Test.YtlagdgkjpnocfaaGreatDoorDec
namespace Go.Proofs.YtlagdgkjpnocfaaGreatDoor
open Go.RowKit
set_option linter.unusedVariables false
set_option linter.unusedSimpArgs false
section
variable (w : World) (vs : Array Value)
theorem cf_fb : (callFunc 122 vs).run Tryz.prog w = .ok (.enter 122 vs) w := by simp [go_sem]
theorem cf_ifu : (callFunc 93 vs).run Tryz.prog w = .ok (.enter 93 vs) w := by simp [go_sem]
theorem cf_sfu : (callFunc 70 vs).run Tryz.prog w = .ok (.enter 70 vs) w := by simp [go_sem]
theorem cf_rep : (callFunc 71 vs).run Tryz.prog w = .ok (.enter 71 vs) w := by simp [go_sem]
theorem cf_hex : (callFunc 47 vs).run Tryz.prog w = .ok (.enter 47 vs) w := by simp [go_sem]
theorem cf_wb : (callFunc 48 vs).run Tryz.prog w = .ok (.enter 48 vs) w := by simp [go_sem]
theorem cf_ln : (callFunc 17 vs).run Tryz.prog w = .ok (.enter 17 vs) w := by simp [go_sem]
theorem cf_dcd : (callFunc 72 vs).run Tryz.prog w = .ok (.enter 72 vs) w := by simp [go_sem]
theorem cf_rt : (callFunc 13 vs).run Tryz.prog w = .ok (.enter 13 vs) w := by simp [go_sem]
end
theorem ln_str (w : World) (s : List UInt8) : (Builtin.len_ #[9] 3 #[bts s]).run Tryz.prog w = .ok (.int .i64 (s.length : Int)) w := by simp [go_sem, ByteArray.size]
theorem WL.lns {P : Program} {ops : Array Oper} {N : Nat} {Q : Exit → Act → World → Prop} {s : List (Nat × Value)} {l : List Oper} {o : Oper} {d : Nat} {w : World} {x : Operand} {t : TypeId} {u v : Value} (hop : o.op = .call ⟨.builtin .len, #[x], #[t]⟩) (hd : o.dst = some d) (hN : Nat.blt d N = true) (hg : gd ops s o = some true) (hu : ev s x = some u) (hr : (Builtin.len_ #[t] o.type #[u]).run P w = .ok v w) (h : WL P ops N Q ((d, v) :: s) l w) : WL P ops N Q s (o :: l) w :=
  WL.run hd hN hg (fun a k => by
    have h1 := k.eval hu
    unfold execOp
    rw [hop]
    generalize a.eval = e at *
    simp [go_sem, h1, hr]) h
theorem cv_u32 (w : World) (m : Int) (h0 : 0 ≤ m) (h1 : m < 4294967296) : (convert 40 85 (.int .u32 m)).run Tryz.prog w = .ok (.int .u64 m) w := by
  have h : IntKind.u64.wrap m = m := IntWalk.u64_in _ (by omega)
  simp [go_sem, h]
theorem cv_i32 (w : World) (m : Int) (h0 : 0 ≤ m) (h1 : m < 4294967296) : (convert 3 40 (.int .i64 m)).run Tryz.prog w = .ok (.int .u32 m) w := by
  have h : IntKind.u32.wrap m = m := IntWalk.u32_in _ (by omega)
  simp [go_sem, h]
theorem t_ifmt (u : Nat) (hu : u < 4294967296) (w : World) (hd : DbW w) : Calls Tryz.prog 93 #[.int .u64 (u : Int), .int .i64 16] w fun e w' => e = .returned (bts (hexD u)) ∧ Fr (fun _ => False) w w' := by
  refine calls_tw Tryz.func93 rfl rfl (Nat.le_of_ble_eq_true rfl) ?_
  refine TW.sreg ?_
  refine WL.op rfl rfl rfl (Go.Proofs.YtlagdgkjpnocfaaGreatDoor.W.quiet_assign rfl rfl) ?_
  refine WL.nil ?_
  refine TW.seq ?_
  refine TW.sreg ?_
  refine WL.op rfl rfl rfl (Go.Proofs.YtlagdgkjpnocfaaGreatDoor.W.quiet_move rfl rfl) ?_
  refine WL.op rfl rfl rfl (Go.Proofs.YtlagdgkjpnocfaaGreatDoor.W.quiet_bin rfl rfl rfl (v := .bool false) (fun W => by kernel_rfl)) ?_
  refine WL.nil ?_
  refine TW.cond rfl (fun hb => by cases hb) (fun _ => ?_)
  refine TW.skip ?_
  refine TW.sreg ?_
  refine WL.op rfl rfl rfl (Go.Proofs.YtlagdgkjpnocfaaGreatDoor.W.quiet_move rfl rfl) ?_
  refine WL.op rfl rfl rfl (Go.Proofs.YtlagdgkjpnocfaaGreatDoor.W.quiet_move rfl rfl) ?_
  refine WL.call (hr := t_fmtBits u hu w hd) rfl rfl rfl rfl rfl (fun W => cf_fb W _) ?_
  rintro e w1 ⟨rfl, f1⟩
  refine ⟨_, rfl, ?_⟩
  refine WL.op rfl rfl rfl (Go.Proofs.YtlagdgkjpnocfaaGreatDoor.W.quiet_move rfl rfl) ?_
  refine WL.ext rfl rfl rfl rfl rfl rfl ?_
  refine WL.ext rfl rfl rfl rfl rfl rfl ?_
  refine WL.op rfl rfl rfl (Go.Proofs.YtlagdgkjpnocfaaGreatDoor.W.quiet_assign rfl rfl) ?_
  refine WL.op rfl rfl rfl (Go.Proofs.YtlagdgkjpnocfaaGreatDoor.W.quiet_assign rfl rfl) ?_
  refine WL.nil ?_
  refine TW.sreg ?_
  refine WL.op rfl rfl rfl (Go.Proofs.YtlagdgkjpnocfaaGreatDoor.W.quiet_move rfl rfl) ?_
  refine WL.op rfl rfl rfl (Go.Proofs.YtlagdgkjpnocfaaGreatDoor.W.quiet_assign rfl rfl) ?_
  refine WL.nil ?_
  refine TW.rt ?_
  repeat (with_reducible first | refine Xw.thn (by simp) ?_ | refine Xw.rblk ?_)
  refine bodyw_ret rfl rfl ?_
  exact ⟨rfl, f1⟩
theorem t_sfmt (u : Nat) (hu : u < 4294967296) (w : World) (hd : DbW w) : Calls Tryz.prog 70 #[.int .u64 (u : Int), .int .i64 16] w fun e w' => e = .returned (bts (hexD u)) ∧ Fr (fun _ => False) w w' := by
  refine calls_tw Tryz.func70 rfl rfl (Nat.le_of_ble_eq_true rfl) ?_
  refine TW.sreg ?_
  refine WL.op rfl rfl rfl (Go.Proofs.YtlagdgkjpnocfaaGreatDoor.W.quiet_assign rfl rfl) ?_
  refine WL.nil ?_
  refine TW.sreg ?_
  refine WL.op rfl rfl rfl (Go.Proofs.YtlagdgkjpnocfaaGreatDoor.W.quiet_move rfl rfl) ?_
  refine WL.op rfl rfl rfl (Go.Proofs.YtlagdgkjpnocfaaGreatDoor.W.quiet_move rfl rfl) ?_
  refine WL.call (hr := t_ifmt u hu w hd) rfl rfl rfl rfl rfl (fun W => cf_ifu W _) ?_
  rintro e w1 ⟨rfl, f1⟩
  refine ⟨_, rfl, ?_⟩
  refine WL.op rfl rfl rfl (Go.Proofs.YtlagdgkjpnocfaaGreatDoor.W.quiet_assign rfl rfl) ?_
  refine WL.nil ?_
  refine TW.rt ?_
  repeat (with_reducible first | refine Xw.thn (by simp) ?_ | refine Xw.rblk ?_)
  refine bodyw_ret rfl rfl ?_
  exact ⟨rfl, f1⟩
/-- The eight digits of a word. -/
def hexT (u : Nat) : List UInt8 := Lib.repeatL [48] (8 - (hexD u).length) ++ hexD u
theorem rep_len : ∀ n, (Lib.repeatL [48] n).length = n
  | 0 => by simp [Lib.repeatL]
  | n + 1 => by simp [Lib.repeatL, rep_len n]
theorem hexD_8 {u : Nat} (hu : u < 4294967296) : (hexD u).length ≤ 8 := hexD_len 8 u (by decide) (by omega)
theorem hexT_len {u : Nat} (hu : u < 4294967296) : (hexT u).length = 8 := by
  have := hexD_8 hu
  unfold hexT
  rw [List.length_append, rep_len]
  omega
theorem t_hex (u : Nat) (hu : u < 4294967296) (w : World) (hd : DbW w) : Calls Tryz.prog 47 #[.int .u32 (u : Int)] w fun e w' => e = .returned (bts (hexT u)) ∧ Fr (fun _ => False) w w' := by
  have h8 := hexD_8 hu
  refine calls_tw Tryz.func47 rfl rfl (Nat.le_of_ble_eq_true rfl) ?_
  refine TW.sreg ?_
  refine WL.op rfl rfl rfl (Go.Proofs.YtlagdgkjpnocfaaGreatDoor.W.quiet_assign rfl rfl) ?_
  refine WL.nil ?_
  refine TW.sreg ?_
  refine WL.op rfl rfl rfl (Go.Proofs.YtlagdgkjpnocfaaGreatDoor.W.quiet_move rfl rfl) ?_
  refine WL.cv rfl rfl rfl rfl rfl (cv_u32 _ _ (by omega) (by omega)) ?_
  refine WL.call (hr := t_sfmt u hu w hd) rfl rfl rfl rfl rfl (fun W => cf_sfu W _) ?_
  rintro e w1 ⟨rfl, f1⟩
  refine ⟨_, rfl, ?_⟩
  refine WL.op rfl rfl rfl (Go.Proofs.YtlagdgkjpnocfaaGreatDoor.W.quiet_assign rfl rfl) ?_
  refine WL.nil ?_
  refine TW.sreg ?_
  refine WL.op rfl rfl rfl (Go.Proofs.YtlagdgkjpnocfaaGreatDoor.W.quiet_move rfl rfl) ?_
  refine WL.lns rfl rfl rfl rfl rfl (ln_str _ _) ?_
  refine WL.op rfl rfl rfl (Go.Proofs.YtlagdgkjpnocfaaGreatDoor.W.quiet_bin rfl rfl rfl (fun W => (bn_subi W _ _ 8 ((hexD u).length : Int) (by omega) (by omega)).trans (by rw [show (8 : Int) - ((hexD u).length : Int) = ((8 - (hexD u).length : Nat) : Int) by omega]))) ?_
  refine WL.call (hr := Tryz.strings_Repeat ⟨#[48]⟩ (8 - (hexD u).length) w1 (by omega) (by show 1 * _ ≤ _; omega)) rfl rfl rfl rfl rfl (fun W => cf_rep W _) ?_
  rintro e w2 ⟨rfl, hb⟩
  refine ⟨_, rfl, ?_⟩
  refine WL.op rfl rfl rfl (Go.Proofs.YtlagdgkjpnocfaaGreatDoor.W.quiet_move rfl rfl) ?_
  refine WL.op rfl rfl rfl (Go.Proofs.YtlagdgkjpnocfaaGreatDoor.W.quiet_bin rfl rfl rfl (fun W => bn_cat W _ _ (Lib.repeatL [48] (8 - (hexD u).length)) (hexD u) (by rw [rep_len]; omega))) ?_
  refine WL.op rfl rfl rfl (Go.Proofs.YtlagdgkjpnocfaaGreatDoor.W.quiet_assign rfl rfl) ?_
  refine WL.nil ?_
  refine TW.rt ?_
  repeat (with_reducible first | refine Xw.thn (by simp) ?_ | refine Xw.rblk ?_)
  refine bodyw_ret rfl rfl ?_
  exact ⟨rfl, f1.trans (Fr.of_below' hb)⟩
theorem pal_ins (w : World) : (Instr.alloc 23 true (.tuple #[])).run Tryz.prog w = .ok (.pointer (some ⟨w.heap.size, 0, none⟩)) (w.alloc (.cells #[.int .i64 0, .int .i64 0, .int .i64 0, .int .i64 0, .int .i64 0] 23)) := by simp [go_sem]
theorem pst_ins (w : World) (u0 u1 u2 u3 u4 : Int) : (Instr.storeAt 23 (.pointer (some ⟨w.heap.size, 0, none⟩)) (.agg #[.int .i64 u0, .int .i64 u1, .int .i64 u2, .int .i64 u3, .int .i64 u4])).run Tryz.prog (w.alloc (.cells #[.int .i64 0, .int .i64 0, .int .i64 0, .int .i64 0, .int .i64 0] 23)) = .ok () (w.alloc (.cells #[.int .i64 u0, .int .i64 u1, .int .i64 u2, .int .i64 u3, .int .i64 u4] 23)) := by simp [go_sem]
theorem bn_neE (w : World) (x y : Operand) (m n : Int) : (do eqGuard .neq 24 x y (.int .i64 m) (.int .i64 n); binOp .neq 24 (.int .i64 m) (.int .i64 n) : Sem Value).run Tryz.prog w = .ok (.bool (m != n)) w := by simp [go_sem]
end Go.Proofs.YtlagdgkjpnocfaaGreatDoor
