/-
  Lex (layer 7): character constants.
-/
import Derived.Test.YtoffbjfgledjfaaDoorLyC
namespace Go.Proofs.YtoffbjfgledjfaaDoor
open Go.RowKit
set_option linter.unusedVariables false
set_option linter.unusedSimpArgs false
set_option linter.unnecessarySimpa false
theorem qc_uint8_uint32 (w : World) (m : Int) (h0 : 0 ≤ m) (h1 : m ≤ 4294967295) : (convert 5 30 (.int .u8 m)).run Tryd.prog w = .ok (.int .u32 m) w := by
  have h : IntKind.u32.wrap m = m := IntWalk.u32_in _ (by omega)
  simp [go_sem, h]
theorem qb_lss_uint8 (w : World) (x y : Operand) (m n : Int) : ((do eqGuard .lss 5 x y (.int .u8 m) (.int .u8 n); binOp .lss 5 (.int .u8 m) (.int .u8 n) : Sem Value)).run Tryd.prog w = .ok (.bool (decide (m < n))) w := by simp [go_sem]
theorem qb_gtr_uint8 (w : World) (x y : Operand) (m n : Int) : ((do eqGuard .gtr 5 x y (.int .u8 m) (.int .u8 n); binOp .gtr 5 (.int .u8 m) (.int .u8 n) : Sem Value)).run Tryd.prog w = .ok (.bool (decide (n < m))) w := by simp [go_sem]
theorem qb_sub_int (w : World) (x y : Operand) (m n : Int) (h0 : -9223372036854775808 ≤ m - n) (h1 : m - n ≤ 9223372036854775807) : ((do eqGuard .sub 3 x y (.int .i64 m) (.int .i64 n); binOp .sub 3 (.int .i64 m) (.int .i64 n) : Sem Value)).run Tryd.prog w = .ok (.int .i64 (m - n)) w := by
  have h : IntKind.i64.wrap (m - n) = m - n := IntWalk.i64_in _ (by omega)
  simp [go_sem, h]
theorem qb_neq_uint8 (w : World) (x y : Operand) (m n : Int) : ((do eqGuard .neq 5 x y (.int .u8 m) (.int .u8 n); binOp .neq 5 (.int .u8 m) (.int .u8 n) : Sem Value)).run Tryd.prog w = .ok (.bool (m != n)) w := by simp [go_sem]
theorem qk_lex_runsOn (w : World) (vs : Array Value) : (callFunc 39 vs).run Tryd.prog w = .ok (.enter 39 vs) w := by simp [go_sem]
theorem qk_lex_plain (w : World) (vs : Array Value) : (callFunc 41 vs).run Tryd.prog w = .ok (.enter 41 vs) w := by simp [go_sem]
theorem qk_lex_escaped (w : World) (vs : Array Value) : (callFunc 42 vs).run Tryd.prog w = .ok (.enter 42 vs) w := by simp [go_sem]
theorem qd_api_Token_0_1_2 (w : World) (p0_m0 : Int) (p1_p0 : ByteArray) (p2_m0 : Int) : (Instr.build 32 #[(0, .int .i64 p0_m0), (1, .string p1_p0), (2, .int .u32 p2_m0)]).run Tryd.prog w = .ok (.agg #[.int .i64 p0_m0, .string p1_p0, .int .u32 p2_m0, .int .i64 0, .int .i64 0]) w := by simp [go_sem]
def OV (o : Option Int) : Value := .tuple #[.int .u32 (o.getD 0), .bool o.isSome]
theorem bat_in (s : List UInt8) (k : Nat) : 0 ≤ bat s k ∧ bat s k ≤ 255 := by
  unfold bat
  have := (s.getD k 0).toNat_lt
  omega
theorem TV_form (r : Except Int Tk) : ∃ (k : Int) (t : List UInt8) (n er : Int), TV r = .tuple #[.agg #[.int .i64 k, bts t, .int .u32 n, .int .i64 0, .int .i64 0], .int .i64 er] := by
  cases r with
  | ok t => exact ⟨t.k, t.t, t.n, 0, rfl⟩
  | error e => exact ⟨0, [], 0, e, rfl⟩
set_option maxRecDepth 100000 in
theorem t_plain (c : Int) (h0 : 0 ≤ c) (h1 : c ≤ 255) (w : World) : Calls Tryd.prog 41 #[.int .u8 c] w fun e w' => e = .returned (OV (plainF c)) ∧ Fr (fun _ => False) w w' := by
  have ff := Fr.refl (fun _ => False) w
  refine calls_tw Tryd.func41 rfl rfl (Nat.le_of_ble_eq_true rfl) ?_
  refine TW.sreg ?_
  refine WL.op rfl rfl rfl (Go.Proofs.YtoffbjfgledjfaaDoor.W.quiet_assign rfl rfl) ?_
  refine WL.op rfl rfl rfl (Go.Proofs.YtoffbjfgledjfaaDoor.W.quiet_assign rfl rfl) ?_
  refine WL.nil ?_
  refine TW.seq ?_
  refine TW.sreg ?_
  refine WL.op rfl rfl rfl (Go.Proofs.YtoffbjfgledjfaaDoor.W.quiet_move rfl rfl) ?_
  refine WL.op rfl rfl rfl (Go.Proofs.YtoffbjfgledjfaaDoor.W.quiet_bin rfl rfl rfl (fun W => qb_lss_uint8 W _ _ _ _)) ?_
  refine O.split (fun a1 => ?_) (fun a1 => ?_)
  · skip
    refine WL.op rfl rfl rfl (Go.Proofs.YtoffbjfgledjfaaDoor.W.quiet_move rfl rfl) ?_
    refine WL.skip rfl rfl rfl ?_
    refine WL.skip rfl rfl rfl ?_
    refine WL.op rfl rfl rfl (Go.Proofs.YtoffbjfgledjfaaDoor.W.quiet_pick rfl rfl rfl) ?_
    refine WL.op rfl rfl rfl (Go.Proofs.YtoffbjfgledjfaaDoor.W.quiet_move rfl rfl) ?_
    refine WL.skip rfl rfl rfl ?_
    refine WL.skip rfl rfl rfl ?_
    refine WL.op rfl rfl rfl (Go.Proofs.YtoffbjfgledjfaaDoor.W.quiet_pick rfl rfl rfl) ?_
    refine WL.op rfl rfl rfl (Go.Proofs.YtoffbjfgledjfaaDoor.W.quiet_move rfl rfl) ?_
    refine WL.skip rfl rfl rfl ?_
    refine WL.skip rfl rfl rfl ?_
    refine WL.op rfl rfl rfl (Go.Proofs.YtoffbjfgledjfaaDoor.W.quiet_pick rfl rfl rfl) ?_
    refine WL.nil ?_
    refine TW.cond rfl (fun _ => ?_) (fun hb => by cases hb)
    refine TW.sreg ?_
    refine WL.op rfl rfl rfl (Go.Proofs.YtoffbjfgledjfaaDoor.W.quiet_assign rfl rfl) ?_
    refine WL.op rfl rfl rfl (Go.Proofs.YtoffbjfgledjfaaDoor.W.quiet_assign rfl rfl) ?_
    refine WL.nil ?_
    refine TW.rt ?_
    refine Xw.thn (by simp) ?_
    refine O.ret2 rfl rfl rfl ?_
    have q : plainF c = none := by unfold plainF; rw [if_pos (.inl (of_decide_eq_true a1))]
    exact ⟨by rw [q]; rfl, ff⟩
  · skip
    refine WL.op rfl rfl rfl (Go.Proofs.YtoffbjfgledjfaaDoor.W.quiet_move rfl rfl) ?_
    refine WL.op rfl rfl rfl (Go.Proofs.YtoffbjfgledjfaaDoor.W.quiet_move rfl rfl) ?_
    refine WL.op rfl rfl rfl (Go.Proofs.YtoffbjfgledjfaaDoor.W.quiet_bin rfl rfl rfl (fun W => qb_gtr_uint8 W _ _ _ _)) ?_
    refine O.split (fun a2 => ?_) (fun a2 => ?_)
    · skip
      refine WL.op rfl rfl rfl (Go.Proofs.YtoffbjfgledjfaaDoor.W.quiet_pick rfl rfl rfl) ?_
      refine WL.op rfl rfl rfl (Go.Proofs.YtoffbjfgledjfaaDoor.W.quiet_move rfl rfl) ?_
      refine WL.skip rfl rfl rfl ?_
      refine WL.skip rfl rfl rfl ?_
      refine WL.op rfl rfl rfl (Go.Proofs.YtoffbjfgledjfaaDoor.W.quiet_pick rfl rfl rfl) ?_
      refine WL.op rfl rfl rfl (Go.Proofs.YtoffbjfgledjfaaDoor.W.quiet_move rfl rfl) ?_
      refine WL.skip rfl rfl rfl ?_
      refine WL.skip rfl rfl rfl ?_
      refine WL.op rfl rfl rfl (Go.Proofs.YtoffbjfgledjfaaDoor.W.quiet_pick rfl rfl rfl) ?_
      refine WL.nil ?_
      refine TW.cond rfl (fun _ => ?_) (fun hb => by cases hb)
      refine TW.sreg ?_
      refine WL.op rfl rfl rfl (Go.Proofs.YtoffbjfgledjfaaDoor.W.quiet_assign rfl rfl) ?_
      refine WL.op rfl rfl rfl (Go.Proofs.YtoffbjfgledjfaaDoor.W.quiet_assign rfl rfl) ?_
      refine WL.nil ?_
      refine TW.rt ?_
      refine Xw.thn (by simp) ?_
      refine O.ret2 rfl rfl rfl ?_
      have q : plainF c = none := by unfold plainF; rw [if_pos (.inr (.inl (of_decide_eq_true a2)))]
      exact ⟨by rw [q]; rfl, ff⟩
    · skip
      refine WL.op rfl rfl rfl (Go.Proofs.YtoffbjfgledjfaaDoor.W.quiet_pick rfl rfl rfl) ?_
      refine WL.op rfl rfl rfl (Go.Proofs.YtoffbjfgledjfaaDoor.W.quiet_move rfl rfl) ?_
      refine WL.op rfl rfl rfl (Go.Proofs.YtoffbjfgledjfaaDoor.W.quiet_move rfl rfl) ?_
      refine WL.op rfl rfl rfl (Go.Proofs.YtoffbjfgledjfaaDoor.W.quiet_bin rfl rfl rfl (fun W => qb_eql_uint8 W _ _ _ _)) ?_
      refine O.split (fun a3 => ?_) (fun a3 => ?_)
      · skip
        refine WL.op rfl rfl rfl (Go.Proofs.YtoffbjfgledjfaaDoor.W.quiet_pick rfl rfl rfl) ?_
        refine WL.op rfl rfl rfl (Go.Proofs.YtoffbjfgledjfaaDoor.W.quiet_move rfl rfl) ?_
        refine WL.skip rfl rfl rfl ?_
        refine WL.skip rfl rfl rfl ?_
        refine WL.op rfl rfl rfl (Go.Proofs.YtoffbjfgledjfaaDoor.W.quiet_pick rfl rfl rfl) ?_
        refine WL.nil ?_
        refine TW.cond rfl (fun _ => ?_) (fun hb => by cases hb)
        refine TW.sreg ?_
        refine WL.op rfl rfl rfl (Go.Proofs.YtoffbjfgledjfaaDoor.W.quiet_assign rfl rfl) ?_
        refine WL.op rfl rfl rfl (Go.Proofs.YtoffbjfgledjfaaDoor.W.quiet_assign rfl rfl) ?_
        refine WL.nil ?_
        refine TW.rt ?_
        refine Xw.thn (by simp) ?_
        refine O.ret2 rfl rfl rfl ?_
        have q : plainF c = none := by unfold plainF; rw [if_pos (.inr (.inr (.inl (eq_of_beq a3))))]
        exact ⟨by rw [q]; rfl, ff⟩
      · skip
        refine WL.op rfl rfl rfl (Go.Proofs.YtoffbjfgledjfaaDoor.W.quiet_pick rfl rfl rfl) ?_
        refine WL.op rfl rfl rfl (Go.Proofs.YtoffbjfgledjfaaDoor.W.quiet_move rfl rfl) ?_
        refine WL.op rfl rfl rfl (Go.Proofs.YtoffbjfgledjfaaDoor.W.quiet_move rfl rfl) ?_
        refine WL.op rfl rfl rfl (Go.Proofs.YtoffbjfgledjfaaDoor.W.quiet_bin rfl rfl rfl (fun W => qb_eql_uint8 W _ _ _ _)) ?_
        refine O.split (fun a4 => ?_) (fun a4 => ?_)
        · skip
          refine WL.op rfl rfl rfl (Go.Proofs.YtoffbjfgledjfaaDoor.W.quiet_pick rfl rfl rfl) ?_
          refine WL.nil ?_
          refine TW.cond rfl (fun _ => ?_) (fun hb => by cases hb)
          refine TW.sreg ?_
          refine WL.op rfl rfl rfl (Go.Proofs.YtoffbjfgledjfaaDoor.W.quiet_assign rfl rfl) ?_
          refine WL.op rfl rfl rfl (Go.Proofs.YtoffbjfgledjfaaDoor.W.quiet_assign rfl rfl) ?_
          refine WL.nil ?_
          refine TW.rt ?_
          refine Xw.thn (by simp) ?_
          refine O.ret2 rfl rfl rfl ?_
          have q : plainF c = none := by unfold plainF; rw [if_pos (.inr (.inr (.inr (eq_of_beq a4))))]
          exact ⟨by rw [q]; rfl, ff⟩
        · skip
          refine WL.op rfl rfl rfl (Go.Proofs.YtoffbjfgledjfaaDoor.W.quiet_pick rfl rfl rfl) ?_
          refine WL.nil ?_
          refine TW.cond rfl (fun hb => by cases hb) (fun _ => ?_)
          refine TW.skip ?_
          refine TW.sreg ?_
          refine WL.op rfl rfl rfl (Go.Proofs.YtoffbjfgledjfaaDoor.W.quiet_move rfl rfl) ?_
          refine O.cv rfl rfl rfl rfl rfl (qc_uint8_uint32 _ _ (by omega) (by omega)) ?_
          refine WL.op rfl rfl rfl (Go.Proofs.YtoffbjfgledjfaaDoor.W.quiet_assign rfl rfl) ?_
          refine WL.op rfl rfl rfl (Go.Proofs.YtoffbjfgledjfaaDoor.W.quiet_assign rfl rfl) ?_
          refine WL.nil ?_
          refine TW.rt ?_
          refine O.ret2 rfl rfl rfl ?_
          have n1 := of_decide_eq_false a1
          have n2 := of_decide_eq_false a2
          have n3 := ne_of_beq_false a3
          have n4 := ne_of_beq_false a4
          have q : plainF c = some c := by unfold plainF; rw [if_neg (by omega)]
          exact ⟨by rw [q]; rfl, ff⟩
set_option maxRecDepth 100000 in
theorem t_esc (c : Int) (h0 : 0 ≤ c) (h1 : c ≤ 255) (w : World) : Calls Tryd.prog 42 #[.int .u8 c] w fun e w' => e = .returned (OV (escF c)) ∧ Fr (fun _ => False) w w' := by
  have ff := Fr.refl (fun _ => False) w
  refine calls_tw Tryd.func42 rfl rfl (Nat.le_of_ble_eq_true rfl) ?_
  refine TW.sreg ?_
  refine WL.op rfl rfl rfl (Go.Proofs.YtoffbjfgledjfaaDoor.W.quiet_assign rfl rfl) ?_
  refine WL.op rfl rfl rfl (Go.Proofs.YtoffbjfgledjfaaDoor.W.quiet_assign rfl rfl) ?_
  refine WL.nil ?_
  refine TW.seq ?_
  refine TW.sreg ?_
  refine WL.op rfl rfl rfl (Go.Proofs.YtoffbjfgledjfaaDoor.W.quiet_move rfl rfl) ?_
  refine WL.nil ?_
  refine TW.block ?_
  refine TW.sreg ?_
  refine WL.op rfl rfl rfl (Go.Proofs.YtoffbjfgledjfaaDoor.W.quiet_bin rfl rfl rfl (fun W => qb_eql_uint8 W _ _ _ _)) ?_
  refine O.split (fun a1 => ?_) (fun a1 => ?_)
  · skip
    refine WL.op rfl rfl rfl (Go.Proofs.YtoffbjfgledjfaaDoor.W.quiet_assign rfl rfl) ?_
    refine WL.nil ?_
    refine TW.cond rfl (fun _ => ?_) (fun hb => by cases hb)
    refine TW.sreg ?_
    refine WL.op rfl rfl rfl (Go.Proofs.YtoffbjfgledjfaaDoor.W.quiet_assign rfl rfl) ?_
    refine WL.op rfl rfl rfl (Go.Proofs.YtoffbjfgledjfaaDoor.W.quiet_assign rfl rfl) ?_
    refine WL.nil ?_
    refine TW.rt ?_
    refine Xw.rblk ?_
    refine Xw.thn (by simp) ?_
    refine O.ret2 rfl rfl rfl ?_
    have q : escF c = some 10 := by unfold escF; rw [if_pos (eq_of_beq a1)]
    exact ⟨by rw [q]; rfl, ff⟩
  · skip
    refine WL.op rfl rfl rfl (Go.Proofs.YtoffbjfgledjfaaDoor.W.quiet_assign rfl rfl) ?_
    refine WL.nil ?_
    refine TW.cond rfl (fun hb => by cases hb) (fun _ => ?_)
    refine TW.sreg ?_
    refine WL.op rfl rfl rfl (Go.Proofs.YtoffbjfgledjfaaDoor.W.quiet_bin rfl rfl rfl (fun W => qb_eql_uint8 W _ _ _ _)) ?_
    refine O.split (fun a2 => ?_) (fun a2 => ?_)
    · skip
      refine WL.op rfl rfl rfl (Go.Proofs.YtoffbjfgledjfaaDoor.W.quiet_assign rfl rfl) ?_
      refine WL.nil ?_
      refine TW.cond rfl (fun _ => ?_) (fun hb => by cases hb)
      refine TW.sreg ?_
      refine WL.op rfl rfl rfl (Go.Proofs.YtoffbjfgledjfaaDoor.W.quiet_assign rfl rfl) ?_
      refine WL.op rfl rfl rfl (Go.Proofs.YtoffbjfgledjfaaDoor.W.quiet_assign rfl rfl) ?_
      refine WL.nil ?_
      refine TW.rt ?_
      refine Xw.rblk ?_
      refine Xw.thn (by simp) ?_
      refine O.ret2 rfl rfl rfl ?_
      have q : escF c = some 9 := by unfold escF; rw [if_neg (ne_of_beq_false a1), if_pos (eq_of_beq a2)]
      exact ⟨by rw [q]; rfl, ff⟩
    · skip
      refine WL.op rfl rfl rfl (Go.Proofs.YtoffbjfgledjfaaDoor.W.quiet_assign rfl rfl) ?_
      refine WL.nil ?_
      refine TW.cond rfl (fun hb => by cases hb) (fun _ => ?_)
      refine TW.sreg ?_
      refine WL.op rfl rfl rfl (Go.Proofs.YtoffbjfgledjfaaDoor.W.quiet_bin rfl rfl rfl (fun W => qb_eql_uint8 W _ _ _ _)) ?_
      refine O.split (fun a3 => ?_) (fun a3 => ?_)
      · skip
        refine WL.op rfl rfl rfl (Go.Proofs.YtoffbjfgledjfaaDoor.W.quiet_assign rfl rfl) ?_
        refine WL.nil ?_
        refine TW.cond rfl (fun _ => ?_) (fun hb => by cases hb)
        refine TW.sreg ?_
        refine WL.op rfl rfl rfl (Go.Proofs.YtoffbjfgledjfaaDoor.W.quiet_assign rfl rfl) ?_
        refine WL.op rfl rfl rfl (Go.Proofs.YtoffbjfgledjfaaDoor.W.quiet_assign rfl rfl) ?_
        refine WL.nil ?_
        refine TW.rt ?_
        refine Xw.rblk ?_
        refine Xw.thn (by simp) ?_
        refine O.ret2 rfl rfl rfl ?_
        have q : escF c = some 13 := by unfold escF; rw [if_neg (ne_of_beq_false a1), if_neg (ne_of_beq_false a2), if_pos (eq_of_beq a3)]
        exact ⟨by rw [q]; rfl, ff⟩
      · skip
        refine WL.op rfl rfl rfl (Go.Proofs.YtoffbjfgledjfaaDoor.W.quiet_assign rfl rfl) ?_
        refine WL.nil ?_
        refine TW.cond rfl (fun hb => by cases hb) (fun _ => ?_)
        refine TW.sreg ?_
        refine WL.op rfl rfl rfl (Go.Proofs.YtoffbjfgledjfaaDoor.W.quiet_bin rfl rfl rfl (fun W => qb_eql_uint8 W _ _ _ _)) ?_
        refine O.split (fun a4 => ?_) (fun a4 => ?_)
        · skip
          refine WL.op rfl rfl rfl (Go.Proofs.YtoffbjfgledjfaaDoor.W.quiet_assign rfl rfl) ?_
          refine WL.nil ?_
          refine TW.cond rfl (fun _ => ?_) (fun hb => by cases hb)
          refine TW.sreg ?_
          refine WL.op rfl rfl rfl (Go.Proofs.YtoffbjfgledjfaaDoor.W.quiet_assign rfl rfl) ?_
          refine WL.op rfl rfl rfl (Go.Proofs.YtoffbjfgledjfaaDoor.W.quiet_assign rfl rfl) ?_
          refine WL.nil ?_
          refine TW.rt ?_
          refine Xw.rblk ?_
          refine Xw.thn (by simp) ?_
          refine O.ret2 rfl rfl rfl ?_
          have q : escF c = some 0 := by unfold escF; rw [if_neg (ne_of_beq_false a1), if_neg (ne_of_beq_false a2), if_neg (ne_of_beq_false a3), if_pos (eq_of_beq a4)]
          exact ⟨by rw [q]; rfl, ff⟩
        · skip
          refine WL.op rfl rfl rfl (Go.Proofs.YtoffbjfgledjfaaDoor.W.quiet_assign rfl rfl) ?_
          refine WL.nil ?_
          refine TW.cond rfl (fun hb => by cases hb) (fun _ => ?_)
          refine TW.seq ?_
          refine TW.sreg ?_
          refine WL.op rfl rfl rfl (Go.Proofs.YtoffbjfgledjfaaDoor.W.quiet_bin rfl rfl rfl (fun W => qb_eql_uint8 W _ _ _ _)) ?_
          refine O.split (fun a5 => ?_) (fun a5 => ?_)
          · skip
            refine WL.op rfl rfl rfl (Go.Proofs.YtoffbjfgledjfaaDoor.W.quiet_assign rfl rfl) ?_
            refine WL.nil ?_
            refine TW.cond rfl (fun _ => ?_) (fun hb => by cases hb)
            refine TW.skip ?_
            refine TW.cond rfl (fun _ => ?_) (fun hb => by cases hb)
            refine TW.sreg ?_
            refine WL.op rfl rfl rfl (Go.Proofs.YtoffbjfgledjfaaDoor.W.quiet_move rfl rfl) ?_
            refine O.cv rfl rfl rfl rfl rfl (qc_uint8_uint32 _ _ (by omega) (by omega)) ?_
            refine WL.op rfl rfl rfl (Go.Proofs.YtoffbjfgledjfaaDoor.W.quiet_assign rfl rfl) ?_
            refine WL.op rfl rfl rfl (Go.Proofs.YtoffbjfgledjfaaDoor.W.quiet_assign rfl rfl) ?_
            refine WL.nil ?_
            refine TW.rt ?_
            refine Xw.rblk ?_
            refine Xw.thn (by simp) ?_
            refine O.ret2 rfl rfl rfl ?_
            have q : escF c = some c := by unfold escF; rw [if_neg (ne_of_beq_false a1), if_neg (ne_of_beq_false a2), if_neg (ne_of_beq_false a3), if_neg (ne_of_beq_false a4), if_pos (.inl (eq_of_beq a5))]
            exact ⟨by rw [q]; rfl, ff⟩
          · skip
            refine WL.op rfl rfl rfl (Go.Proofs.YtoffbjfgledjfaaDoor.W.quiet_assign rfl rfl) ?_
            refine WL.nil ?_
            refine TW.cond rfl (fun hb => by cases hb) (fun _ => ?_)
            refine TW.reg ?_
            refine WL.op rfl rfl rfl (Go.Proofs.YtoffbjfgledjfaaDoor.W.quiet_bin rfl rfl rfl (fun W => qb_eql_uint8 W _ _ _ _)) ?_
            refine O.split (fun a6 => ?_) (fun a6 => ?_)
            · skip
              refine WL.op rfl rfl rfl (Go.Proofs.YtoffbjfgledjfaaDoor.W.quiet_assign rfl rfl) ?_
              refine WL.nil ?_
              refine TW.cond rfl (fun _ => ?_) (fun hb => by cases hb)
              refine TW.sreg ?_
              refine WL.op rfl rfl rfl (Go.Proofs.YtoffbjfgledjfaaDoor.W.quiet_move rfl rfl) ?_
              refine O.cv rfl rfl rfl rfl rfl (qc_uint8_uint32 _ _ (by omega) (by omega)) ?_
              refine WL.op rfl rfl rfl (Go.Proofs.YtoffbjfgledjfaaDoor.W.quiet_assign rfl rfl) ?_
              refine WL.op rfl rfl rfl (Go.Proofs.YtoffbjfgledjfaaDoor.W.quiet_assign rfl rfl) ?_
              refine WL.nil ?_
              refine TW.rt ?_
              refine Xw.rblk ?_
              refine Xw.thn (by simp) ?_
              refine O.ret2 rfl rfl rfl ?_
              have q : escF c = some c := by unfold escF; rw [if_neg (ne_of_beq_false a1), if_neg (ne_of_beq_false a2), if_neg (ne_of_beq_false a3), if_neg (ne_of_beq_false a4), if_pos (.inr (eq_of_beq a6))]
              exact ⟨by rw [q]; rfl, ff⟩
            · skip
              refine WL.op rfl rfl rfl (Go.Proofs.YtoffbjfgledjfaaDoor.W.quiet_assign rfl rfl) ?_
              refine WL.nil ?_
              refine TW.cond rfl (fun hb => by cases hb) (fun _ => ?_)
              refine TW.skipx ?_
              refine Xw.nblk ?_
              refine Xw.nrm ?_
              refine TW.sreg ?_
              refine WL.op rfl rfl rfl (Go.Proofs.YtoffbjfgledjfaaDoor.W.quiet_assign rfl rfl) ?_
              refine WL.op rfl rfl rfl (Go.Proofs.YtoffbjfgledjfaaDoor.W.quiet_assign rfl rfl) ?_
              refine WL.nil ?_
              refine TW.rt ?_
              refine O.ret2 rfl rfl rfl ?_
              have n5 := ne_of_beq_false a5
              have n6 := ne_of_beq_false a6
              have q : escF c = none := by unfold escF; rw [if_neg (ne_of_beq_false a1), if_neg (ne_of_beq_false a2), if_neg (ne_of_beq_false a3), if_neg (ne_of_beq_false a4), if_neg (by omega)]
              exact ⟨by rw [q]; rfl, ff⟩
set_option maxRecDepth 100000 in
theorem t_chr (s : List UInt8) (hs : s.length ≤ 1000000) (w : World) : Calls Tryd.prog 29 #[bts s] w fun e w' => e = .returned (TV (chrF s)) ∧ Fr (fun _ => False) w w' := by
  have ff := Fr.refl (fun _ => False) w
  refine calls_tw Tryd.func29 rfl rfl (Nat.le_of_ble_eq_true rfl) ?_
  refine TW.sreg ?_
  have lw1 := ff.size
  refine O.allocR rfl rfl rfl rfl (qzR_api_Token w) ?_
  rintro wa1 ⟨fa1, bx1⟩
  replace ff := ff.trans fa1
  refine WL.op rfl rfl rfl (Go.Proofs.YtoffbjfgledjfaaDoor.W.quiet_assign rfl rfl) ?_
  refine WL.nil ?_
  refine TW.sreg ?_
  refine WL.op rfl rfl rfl (Go.Proofs.YtoffbjfgledjfaaDoor.W.quiet_assign rfl rfl) ?_
  refine WL.nil ?_
  refine TW.seq ?_
  refine TW.sreg ?_
  refine WL.op rfl rfl rfl (Go.Proofs.YtoffbjfgledjfaaDoor.W.quiet_move rfl rfl) ?_
  refine O.len rfl rfl rfl rfl rfl (qn_string _ _) ?_
  refine WL.op rfl rfl rfl (Go.Proofs.YtoffbjfgledjfaaDoor.W.quiet_bin rfl rfl rfl (fun W => qb_gtr_int W _ _ _ _)) ?_
  refine O.split (fun c1 => ?_) (fun c1 => ?_)
  · skip
    refine WL.op rfl rfl rfl (Go.Proofs.YtoffbjfgledjfaaDoor.W.quiet_move rfl rfl) ?_
    refine WL.op rfl rfl rfl (Go.Proofs.YtoffbjfgledjfaaDoor.W.quiet_move rfl rfl) ?_
    refine O.ix rfl rfl rfl rfl rfl rfl (str_at _ s 1 (by have := of_decide_eq_true c1; omega)) ?_
    refine WL.op rfl rfl rfl (Go.Proofs.YtoffbjfgledjfaaDoor.W.quiet_bin rfl rfl rfl (fun W => qb_eql_uint8 W _ _ _ _)) ?_
    refine O.split (fun c2 => ?_) (fun c2 => ?_)
    · skip
      have hN : chrN s = 4 := by unfold chrN; rw [if_pos ⟨by have := of_decide_eq_true c1; omega, eq_of_beq c2⟩]
      refine WL.op rfl rfl rfl (Go.Proofs.YtoffbjfgledjfaaDoor.W.quiet_pick rfl rfl rfl) ?_
      refine WL.nil ?_
      refine TW.cond rfl (fun _ => ?_) (fun hb => by cases hb)
      refine TW.reg ?_
      refine WL.op rfl rfl rfl (Go.Proofs.YtoffbjfgledjfaaDoor.W.quiet_assign rfl rfl) ?_
      refine WL.nil ?_
      refine TW.sreg ?_
      refine WL.op rfl rfl rfl (Go.Proofs.YtoffbjfgledjfaaDoor.W.quiet_move rfl rfl) ?_
      refine WL.op rfl rfl rfl (Go.Proofs.YtoffbjfgledjfaaDoor.W.quiet_bin rfl rfl rfl (fun W => qb_add_int W _ _ _ _ (by omega) (by omega))) ?_
      refine WL.op rfl rfl rfl (Go.Proofs.YtoffbjfgledjfaaDoor.W.quiet_bin rfl rfl rfl (fun W => qb_add_int W _ _ _ _ (by omega) (by omega))) ?_
      refine WL.op rfl rfl rfl (Go.Proofs.YtoffbjfgledjfaaDoor.W.quiet_assign rfl rfl) ?_
      refine WL.nil ?_
      refine TW.seq ?_
      refine TW.sreg ?_
      refine WL.op rfl rfl rfl (Go.Proofs.YtoffbjfgledjfaaDoor.W.quiet_move rfl rfl) ?_
      refine O.len rfl rfl rfl rfl rfl (qn_string _ _) ?_
      refine WL.op rfl rfl rfl (Go.Proofs.YtoffbjfgledjfaaDoor.W.quiet_move rfl rfl) ?_
      refine WL.op rfl rfl rfl (Go.Proofs.YtoffbjfgledjfaaDoor.W.quiet_bin rfl rfl rfl (fun W => qb_lss_int W _ _ _ _)) ?_
      refine O.split (fun d1 => ?_) (fun d1 => ?_)
      · skip
        refine WL.op rfl rfl rfl (Go.Proofs.YtoffbjfgledjfaaDoor.W.quiet_move rfl rfl) ?_
        refine WL.skip rfl rfl rfl ?_
        refine WL.skip rfl rfl rfl ?_
        refine WL.skip rfl rfl rfl ?_
        refine WL.skip rfl rfl rfl ?_
        refine WL.skip rfl rfl rfl ?_
        refine WL.op rfl rfl rfl (Go.Proofs.YtoffbjfgledjfaaDoor.W.quiet_pick rfl rfl rfl) ?_
        refine WL.op rfl rfl rfl (Go.Proofs.YtoffbjfgledjfaaDoor.W.quiet_move rfl rfl) ?_
        refine WL.skip rfl rfl rfl ?_
        refine WL.skip rfl rfl rfl ?_
        refine WL.skip rfl rfl rfl ?_
        refine WL.op rfl rfl rfl (Go.Proofs.YtoffbjfgledjfaaDoor.W.quiet_pick rfl rfl rfl) ?_
        refine WL.nil ?_
        refine TW.cond rfl (fun _ => ?_) (fun hb => by cases hb)
        refine TW.sreg ?_
        refine O.bld rfl rfl rfl rfl rfl (qd_api_Token_ _) ?_
        refine O.storeR rfl rfl rfl rfl rfl (qsA_api_Token wa1 _ _ _ _ _ _ _ _ _ _ _ bx1) ?_
        rintro wa2 ⟨fa2, bx1x⟩
        replace ff := ff.trans' fa2 (fun q hq e => by omega)
        clear bx1
        have bx1 := bx1x
        clear bx1x
        refine WL.op rfl rfl rfl (Go.Proofs.YtoffbjfgledjfaaDoor.W.quiet_assign rfl rfl) ?_
        refine WL.nil ?_
        refine TW.rt ?_
        refine Xw.thn (by simp) ?_
        refine O.retc2 rfl rfl rfl (run_loadVar_row _ _ _ 32 _ _ _ bx1 Tryd.underlying32 rfl (by kernel_rfl)) ?_
        have q : chrF s = .error 3 := by unfold chrF; rw [hN, if_pos (.inl (by have := of_decide_eq_true d1; omega))]
        exact ⟨by rw [q]; rfl, ff⟩
      · skip
        have hd1 : ¬s.length < 4 := by have := of_decide_eq_false d1; omega
        refine WL.op rfl rfl rfl (Go.Proofs.YtoffbjfgledjfaaDoor.W.quiet_move rfl rfl) ?_
        refine WL.op rfl rfl rfl (Go.Proofs.YtoffbjfgledjfaaDoor.W.quiet_move rfl rfl) ?_
        refine WL.op rfl rfl rfl (Go.Proofs.YtoffbjfgledjfaaDoor.W.quiet_move rfl rfl) ?_
        refine WL.op rfl rfl rfl (Go.Proofs.YtoffbjfgledjfaaDoor.W.quiet_bin rfl rfl rfl (fun W => qb_sub_int W _ _ _ _ (by omega) (by omega))) ?_
        refine O.ix rfl rfl rfl rfl rfl rfl (str_at _ s 3 (by omega)) ?_
        refine WL.op rfl rfl rfl (Go.Proofs.YtoffbjfgledjfaaDoor.W.quiet_bin rfl rfl rfl (fun W => qb_neq_uint8 W _ _ _ _)) ?_
        refine O.split (fun d2 => ?_) (fun d2 => ?_)
        · skip
          refine WL.op rfl rfl rfl (Go.Proofs.YtoffbjfgledjfaaDoor.W.quiet_pick rfl rfl rfl) ?_
          refine WL.op rfl rfl rfl (Go.Proofs.YtoffbjfgledjfaaDoor.W.quiet_move rfl rfl) ?_
          refine WL.skip rfl rfl rfl ?_
          refine WL.skip rfl rfl rfl ?_
          refine WL.skip rfl rfl rfl ?_
          refine WL.op rfl rfl rfl (Go.Proofs.YtoffbjfgledjfaaDoor.W.quiet_pick rfl rfl rfl) ?_
          refine WL.nil ?_
          refine TW.cond rfl (fun _ => ?_) (fun hb => by cases hb)
          refine TW.sreg ?_
          refine O.bld rfl rfl rfl rfl rfl (qd_api_Token_ _) ?_
          refine O.storeR rfl rfl rfl rfl rfl (qsA_api_Token wa1 _ _ _ _ _ _ _ _ _ _ _ bx1) ?_
          rintro wa3 ⟨fa3, bx1x⟩
          replace ff := ff.trans' fa3 (fun q hq e => by omega)
          clear bx1
          have bx1 := bx1x
          clear bx1x
          refine WL.op rfl rfl rfl (Go.Proofs.YtoffbjfgledjfaaDoor.W.quiet_assign rfl rfl) ?_
          refine WL.nil ?_
          refine TW.rt ?_
          refine Xw.thn (by simp) ?_
          refine O.retc2 rfl rfl rfl (run_loadVar_row _ _ _ 32 _ _ _ bx1 Tryd.underlying32 rfl (by kernel_rfl)) ?_
          have q : chrF s = .error 3 := by unfold chrF; rw [hN, if_pos (.inr (.inl (by have := ne_of_beq_false (by simpa using d2 : (bat s 3 == 39) = false); exact this)))]
          exact ⟨by rw [q]; rfl, ff⟩
        · skip
          have hd2 : bat s 3 = 39 := by simpa using d2
          refine WL.op rfl rfl rfl (Go.Proofs.YtoffbjfgledjfaaDoor.W.quiet_pick rfl rfl rfl) ?_
          refine WL.op rfl rfl rfl (Go.Proofs.YtoffbjfgledjfaaDoor.W.quiet_move rfl rfl) ?_
          refine WL.op rfl rfl rfl (Go.Proofs.YtoffbjfgledjfaaDoor.W.quiet_move rfl rfl) ?_
          refine WL.op rfl rfl rfl (Go.Proofs.YtoffbjfgledjfaaDoor.W.quiet_move rfl rfl) ?_
          refine WL.call (hr := (t_runs s 4 _)) rfl rfl rfl rfl rfl (fun W => qk_lex_runsOn W _) ?_
          rintro e wz ⟨rfl, hwz⟩
          refine ⟨_, rfl, ?_⟩
          obtain rfl := hwz.symm
          refine O.split (fun d3 => ?_) (fun d3 => ?_)
          · skip
            refine WL.op rfl rfl rfl (Go.Proofs.YtoffbjfgledjfaaDoor.W.quiet_pick rfl rfl rfl) ?_
            refine WL.nil ?_
            refine TW.cond rfl (fun _ => ?_) (fun hb => by cases hb)
            refine TW.sreg ?_
            refine O.bld rfl rfl rfl rfl rfl (qd_api_Token_ _) ?_
            refine O.storeR rfl rfl rfl rfl rfl (qsA_api_Token wa1 _ _ _ _ _ _ _ _ _ _ _ bx1) ?_
            rintro wa4 ⟨fa4, bx1x⟩
            replace ff := ff.trans' fa4 (fun q hq e => by omega)
            clear bx1
            have bx1 := bx1x
            clear bx1x
            refine WL.op rfl rfl rfl (Go.Proofs.YtoffbjfgledjfaaDoor.W.quiet_assign rfl rfl) ?_
            refine WL.nil ?_
            refine TW.rt ?_
            refine Xw.thn (by simp) ?_
            refine O.retc2 rfl rfl rfl (run_loadVar_row _ _ _ 32 _ _ _ bx1 Tryd.underlying32 rfl (by kernel_rfl)) ?_
            have q : chrF s = .error 3 := by unfold chrF; rw [hN, if_pos (.inr (.inr d3))]
            exact ⟨by rw [q]; rfl, ff⟩
          · skip
            refine WL.op rfl rfl rfl (Go.Proofs.YtoffbjfgledjfaaDoor.W.quiet_pick rfl rfl rfl) ?_
            refine WL.nil ?_
            refine TW.cond rfl (fun hb => by cases hb) (fun _ => ?_)
            refine TW.skip ?_
            refine TW.sreg ?_
            refine WL.op rfl rfl rfl (Go.Proofs.YtoffbjfgledjfaaDoor.W.quiet_move rfl rfl) ?_
            refine O.ix rfl rfl rfl rfl rfl rfl (str_at _ s 1 (by omega)) ?_
            refine WL.call (hr := (t_plain (bat s 1) (bat_in s 1).1 (bat_in s 1).2 _)) rfl rfl rfl rfl rfl (fun W => qk_lex_plain W _) ?_
            rintro e w1 ⟨rfl, f1⟩
            refine ⟨.tuple #[.int .u32 ((plainF (bat s 1)).getD 0), .bool (plainF (bat s 1)).isSome], rfl, ?_⟩
            replace bx1 := bx1.fr f1 id
            replace ff := ff.trans f1
            refine WL.op rfl rfl rfl (Go.Proofs.YtoffbjfgledjfaaDoor.W.quiet_move rfl rfl) ?_
            refine O.ext rfl rfl rfl rfl rfl rfl ?_
            refine O.ext rfl rfl rfl rfl rfl rfl ?_
            refine WL.op rfl rfl rfl (Go.Proofs.YtoffbjfgledjfaaDoor.W.quiet_assign rfl rfl) ?_
            refine WL.op rfl rfl rfl (Go.Proofs.YtoffbjfgledjfaaDoor.W.quiet_assign rfl rfl) ?_
            refine WL.nil ?_
            refine TW.seq ?_
            refine TW.sreg ?_
            refine WL.op rfl rfl rfl (Go.Proofs.YtoffbjfgledjfaaDoor.W.quiet_move rfl rfl) ?_
            refine WL.op rfl rfl rfl (Go.Proofs.YtoffbjfgledjfaaDoor.W.quiet_bin rfl rfl rfl (fun W => qb_eql_int W _ _ _ _)) ?_
            refine O.split (fun hb => ?_) (fun hb => by exfalso; revert hb; first | (simp; done) | (simp; omega))
            refine WL.nil ?_
            refine TW.cond rfl (fun _ => ?_) (fun hb => by cases hb)
            refine TW.reg ?_
            refine WL.op rfl rfl rfl (Go.Proofs.YtoffbjfgledjfaaDoor.W.quiet_move rfl rfl) ?_
            refine O.ix rfl rfl rfl rfl rfl rfl (str_at _ s 2 (by omega)) ?_
            refine WL.call (hr := (t_esc (bat s 2) (bat_in s 2).1 (bat_in s 2).2 _)) rfl rfl rfl rfl rfl (fun W => qk_lex_escaped W _) ?_
            rintro e w2 ⟨rfl, f2⟩
            refine ⟨.tuple #[.int .u32 ((escF (bat s 2)).getD 0), .bool (escF (bat s 2)).isSome], rfl, ?_⟩
            replace bx1 := bx1.fr f2 id
            replace ff := ff.trans f2
            have hV : chrV s = escF (bat s 2) := by unfold chrV; rw [hN]; rfl
            refine WL.op rfl rfl rfl (Go.Proofs.YtoffbjfgledjfaaDoor.W.quiet_move rfl rfl) ?_
            refine O.ext rfl rfl rfl rfl rfl rfl ?_
            refine O.ext rfl rfl rfl rfl rfl rfl ?_
            refine WL.op rfl rfl rfl (Go.Proofs.YtoffbjfgledjfaaDoor.W.quiet_assign rfl rfl) ?_
            refine WL.op rfl rfl rfl (Go.Proofs.YtoffbjfgledjfaaDoor.W.quiet_assign rfl rfl) ?_
            refine WL.nil ?_
            refine TW.seq ?_
            refine TW.sreg ?_
            refine WL.op rfl rfl rfl (Go.Proofs.YtoffbjfgledjfaaDoor.W.quiet_move rfl rfl) ?_
            refine WL.op rfl rfl rfl (Go.Proofs.YtoffbjfgledjfaaDoor.W.quiet_not rfl rfl) ?_
            refine O.split (fun g1 => ?_) (fun g1 => ?_)
            · skip
              refine WL.nil ?_
              refine TW.cond rfl (fun _ => ?_) (fun hb => by cases hb)
              refine TW.sreg ?_
              refine O.bld rfl rfl rfl rfl rfl (qd_api_Token_ _) ?_
              refine O.storeR rfl rfl rfl rfl rfl (qsA_api_Token w2 _ _ _ _ _ _ _ _ _ _ _ bx1) ?_
              rintro wa5 ⟨fa5, bx1x⟩
              replace ff := ff.trans' fa5 (fun q hq e => by omega)
              clear bx1
              have bx1 := bx1x
              clear bx1x
              refine WL.op rfl rfl rfl (Go.Proofs.YtoffbjfgledjfaaDoor.W.quiet_assign rfl rfl) ?_
              refine WL.nil ?_
              refine TW.rt ?_
              refine Xw.thn (by simp) ?_
              refine O.retc2 rfl rfl rfl (run_loadVar_row _ _ _ 32 _ _ _ bx1 Tryd.underlying32 rfl (by kernel_rfl)) ?_
              have g2 : escF (bat s 2) = none := by cases hz : escF (bat s 2) with | none => rfl | some z => rw [hz] at g1; cases g1
              have q : chrF s = .error 3 := by unfold chrF; rw [hN, if_neg (by rw [d3]; simp only [not_or]; exact ⟨by omega, fun h => h hd2, by simp⟩), hV, g2]
              exact ⟨by rw [q]; rfl, ff⟩
            · skip
              obtain ⟨z, g2⟩ : ∃ z, escF (bat s 2) = some z := by cases hz : escF (bat s 2) with | none => rw [hz] at g1; cases g1 | some z => exact ⟨z, rfl⟩
              refine WL.nil ?_
              refine TW.cond rfl (fun hb => by cases hb) (fun _ => ?_)
              refine TW.skip ?_
              refine TW.sreg ?_
              refine WL.op rfl rfl rfl (Go.Proofs.YtoffbjfgledjfaaDoor.W.quiet_move rfl rfl) ?_
              refine WL.op rfl rfl rfl (Go.Proofs.YtoffbjfgledjfaaDoor.W.quiet_move rfl rfl) ?_
              refine O.sl2 rfl rfl rfl rfl rfl rfl (str_to _ s 4 (by omega)) ?_
              refine WL.op rfl rfl rfl (Go.Proofs.YtoffbjfgledjfaaDoor.W.quiet_move rfl rfl) ?_
              refine O.bld rfl rfl rfl rfl rfl (qd_api_Token_0_1_2 _ _ _ _) ?_
              refine O.storeR rfl rfl rfl rfl rfl (qsA_api_Token w2 _ _ _ _ _ _ _ _ _ _ _ bx1) ?_
              rintro wa6 ⟨fa6, bx1x⟩
              replace ff := ff.trans' fa6 (fun q hq e => by omega)
              clear bx1
              have bx1 := bx1x
              clear bx1x
              refine WL.op rfl rfl rfl (Go.Proofs.YtoffbjfgledjfaaDoor.W.quiet_assign rfl rfl) ?_
              refine WL.nil ?_
              refine TW.rt ?_
              refine O.retc2 rfl rfl rfl (run_loadVar_row _ _ _ 32 _ _ _ bx1 Tryd.underlying32 rfl (by kernel_rfl)) ?_
              have q : chrF s = .ok ⟨3, s.take 4, z⟩ := by unfold chrF; rw [hN, if_neg (by rw [d3]; simp only [not_or]; exact ⟨by omega, fun h => h hd2, by simp⟩), hV, g2]
              exact ⟨by rw [q, g2]; rfl, ff⟩
    · skip
      have hN : chrN s = 3 := by unfold chrN; rw [if_neg (fun h => ne_of_beq_false c2 h.2)]
      refine WL.op rfl rfl rfl (Go.Proofs.YtoffbjfgledjfaaDoor.W.quiet_pick rfl rfl rfl) ?_
      refine WL.nil ?_
      refine TW.cond rfl (fun hb => by cases hb) (fun _ => ?_)
      refine TW.skip ?_
      refine TW.sreg ?_
      refine WL.op rfl rfl rfl (Go.Proofs.YtoffbjfgledjfaaDoor.W.quiet_move rfl rfl) ?_
      refine WL.op rfl rfl rfl (Go.Proofs.YtoffbjfgledjfaaDoor.W.quiet_bin rfl rfl rfl (fun W => qb_add_int W _ _ _ _ (by omega) (by omega))) ?_
      refine WL.op rfl rfl rfl (Go.Proofs.YtoffbjfgledjfaaDoor.W.quiet_bin rfl rfl rfl (fun W => qb_add_int W _ _ _ _ (by omega) (by omega))) ?_
      refine WL.op rfl rfl rfl (Go.Proofs.YtoffbjfgledjfaaDoor.W.quiet_assign rfl rfl) ?_
      refine WL.nil ?_
      refine TW.seq ?_
      refine TW.sreg ?_
      refine WL.op rfl rfl rfl (Go.Proofs.YtoffbjfgledjfaaDoor.W.quiet_move rfl rfl) ?_
      refine O.len rfl rfl rfl rfl rfl (qn_string _ _) ?_
      refine WL.op rfl rfl rfl (Go.Proofs.YtoffbjfgledjfaaDoor.W.quiet_move rfl rfl) ?_
      refine WL.op rfl rfl rfl (Go.Proofs.YtoffbjfgledjfaaDoor.W.quiet_bin rfl rfl rfl (fun W => qb_lss_int W _ _ _ _)) ?_
      refine O.split (fun d1 => ?_) (fun d1 => ?_)
      · skip
        refine WL.op rfl rfl rfl (Go.Proofs.YtoffbjfgledjfaaDoor.W.quiet_move rfl rfl) ?_
        refine WL.skip rfl rfl rfl ?_
        refine WL.skip rfl rfl rfl ?_
        refine WL.skip rfl rfl rfl ?_
        refine WL.skip rfl rfl rfl ?_
        refine WL.skip rfl rfl rfl ?_
        refine WL.op rfl rfl rfl (Go.Proofs.YtoffbjfgledjfaaDoor.W.quiet_pick rfl rfl rfl) ?_
        refine WL.op rfl rfl rfl (Go.Proofs.YtoffbjfgledjfaaDoor.W.quiet_move rfl rfl) ?_
        refine WL.skip rfl rfl rfl ?_
        refine WL.skip rfl rfl rfl ?_
        refine WL.skip rfl rfl rfl ?_
        refine WL.op rfl rfl rfl (Go.Proofs.YtoffbjfgledjfaaDoor.W.quiet_pick rfl rfl rfl) ?_
        refine WL.nil ?_
        refine TW.cond rfl (fun _ => ?_) (fun hb => by cases hb)
        refine TW.sreg ?_
        refine O.bld rfl rfl rfl rfl rfl (qd_api_Token_ _) ?_
        refine O.storeR rfl rfl rfl rfl rfl (qsA_api_Token wa1 _ _ _ _ _ _ _ _ _ _ _ bx1) ?_
        rintro wa7 ⟨fa7, bx1x⟩
        replace ff := ff.trans' fa7 (fun q hq e => by omega)
        clear bx1
        have bx1 := bx1x
        clear bx1x
        refine WL.op rfl rfl rfl (Go.Proofs.YtoffbjfgledjfaaDoor.W.quiet_assign rfl rfl) ?_
        refine WL.nil ?_
        refine TW.rt ?_
        refine Xw.thn (by simp) ?_
        refine O.retc2 rfl rfl rfl (run_loadVar_row _ _ _ 32 _ _ _ bx1 Tryd.underlying32 rfl (by kernel_rfl)) ?_
        have q : chrF s = .error 3 := by unfold chrF; rw [hN, if_pos (.inl (by have := of_decide_eq_true d1; omega))]
        exact ⟨by rw [q]; rfl, ff⟩
      · skip
        have hd1 : ¬s.length < 3 := by have := of_decide_eq_false d1; omega
        refine WL.op rfl rfl rfl (Go.Proofs.YtoffbjfgledjfaaDoor.W.quiet_move rfl rfl) ?_
        refine WL.op rfl rfl rfl (Go.Proofs.YtoffbjfgledjfaaDoor.W.quiet_move rfl rfl) ?_
        refine WL.op rfl rfl rfl (Go.Proofs.YtoffbjfgledjfaaDoor.W.quiet_move rfl rfl) ?_
        refine WL.op rfl rfl rfl (Go.Proofs.YtoffbjfgledjfaaDoor.W.quiet_bin rfl rfl rfl (fun W => qb_sub_int W _ _ _ _ (by omega) (by omega))) ?_
        refine O.ix rfl rfl rfl rfl rfl rfl (str_at _ s 2 (by omega)) ?_
        refine WL.op rfl rfl rfl (Go.Proofs.YtoffbjfgledjfaaDoor.W.quiet_bin rfl rfl rfl (fun W => qb_neq_uint8 W _ _ _ _)) ?_
        refine O.split (fun d2 => ?_) (fun d2 => ?_)
        · skip
          refine WL.op rfl rfl rfl (Go.Proofs.YtoffbjfgledjfaaDoor.W.quiet_pick rfl rfl rfl) ?_
          refine WL.op rfl rfl rfl (Go.Proofs.YtoffbjfgledjfaaDoor.W.quiet_move rfl rfl) ?_
          refine WL.skip rfl rfl rfl ?_
          refine WL.skip rfl rfl rfl ?_
          refine WL.skip rfl rfl rfl ?_
          refine WL.op rfl rfl rfl (Go.Proofs.YtoffbjfgledjfaaDoor.W.quiet_pick rfl rfl rfl) ?_
          refine WL.nil ?_
          refine TW.cond rfl (fun _ => ?_) (fun hb => by cases hb)
          refine TW.sreg ?_
          refine O.bld rfl rfl rfl rfl rfl (qd_api_Token_ _) ?_
          refine O.storeR rfl rfl rfl rfl rfl (qsA_api_Token wa1 _ _ _ _ _ _ _ _ _ _ _ bx1) ?_
          rintro wa8 ⟨fa8, bx1x⟩
          replace ff := ff.trans' fa8 (fun q hq e => by omega)
          clear bx1
          have bx1 := bx1x
          clear bx1x
          refine WL.op rfl rfl rfl (Go.Proofs.YtoffbjfgledjfaaDoor.W.quiet_assign rfl rfl) ?_
          refine WL.nil ?_
          refine TW.rt ?_
          refine Xw.thn (by simp) ?_
          refine O.retc2 rfl rfl rfl (run_loadVar_row _ _ _ 32 _ _ _ bx1 Tryd.underlying32 rfl (by kernel_rfl)) ?_
          have q : chrF s = .error 3 := by unfold chrF; rw [hN, if_pos (.inr (.inl (by have := ne_of_beq_false (by simpa using d2 : (bat s 2 == 39) = false); exact this)))]
          exact ⟨by rw [q]; rfl, ff⟩
        · skip
          have hd2 : bat s 2 = 39 := by simpa using d2
          refine WL.op rfl rfl rfl (Go.Proofs.YtoffbjfgledjfaaDoor.W.quiet_pick rfl rfl rfl) ?_
          refine WL.op rfl rfl rfl (Go.Proofs.YtoffbjfgledjfaaDoor.W.quiet_move rfl rfl) ?_
          refine WL.op rfl rfl rfl (Go.Proofs.YtoffbjfgledjfaaDoor.W.quiet_move rfl rfl) ?_
          refine WL.op rfl rfl rfl (Go.Proofs.YtoffbjfgledjfaaDoor.W.quiet_move rfl rfl) ?_
          refine WL.call (hr := (t_runs s 3 _)) rfl rfl rfl rfl rfl (fun W => qk_lex_runsOn W _) ?_
          rintro e wz ⟨rfl, hwz⟩
          refine ⟨_, rfl, ?_⟩
          obtain rfl := hwz.symm
          refine O.split (fun d3 => ?_) (fun d3 => ?_)
          · skip
            refine WL.op rfl rfl rfl (Go.Proofs.YtoffbjfgledjfaaDoor.W.quiet_pick rfl rfl rfl) ?_
            refine WL.nil ?_
            refine TW.cond rfl (fun _ => ?_) (fun hb => by cases hb)
            refine TW.sreg ?_
            refine O.bld rfl rfl rfl rfl rfl (qd_api_Token_ _) ?_
            refine O.storeR rfl rfl rfl rfl rfl (qsA_api_Token wa1 _ _ _ _ _ _ _ _ _ _ _ bx1) ?_
            rintro wa9 ⟨fa9, bx1x⟩
            replace ff := ff.trans' fa9 (fun q hq e => by omega)
            clear bx1
            have bx1 := bx1x
            clear bx1x
            refine WL.op rfl rfl rfl (Go.Proofs.YtoffbjfgledjfaaDoor.W.quiet_assign rfl rfl) ?_
            refine WL.nil ?_
            refine TW.rt ?_
            refine Xw.thn (by simp) ?_
            refine O.retc2 rfl rfl rfl (run_loadVar_row _ _ _ 32 _ _ _ bx1 Tryd.underlying32 rfl (by kernel_rfl)) ?_
            have q : chrF s = .error 3 := by unfold chrF; rw [hN, if_pos (.inr (.inr d3))]
            exact ⟨by rw [q]; rfl, ff⟩
          · skip
            refine WL.op rfl rfl rfl (Go.Proofs.YtoffbjfgledjfaaDoor.W.quiet_pick rfl rfl rfl) ?_
            refine WL.nil ?_
            refine TW.cond rfl (fun hb => by cases hb) (fun _ => ?_)
            refine TW.skip ?_
            refine TW.sreg ?_
            refine WL.op rfl rfl rfl (Go.Proofs.YtoffbjfgledjfaaDoor.W.quiet_move rfl rfl) ?_
            refine O.ix rfl rfl rfl rfl rfl rfl (str_at _ s 1 (by omega)) ?_
            refine WL.call (hr := (t_plain (bat s 1) (bat_in s 1).1 (bat_in s 1).2 _)) rfl rfl rfl rfl rfl (fun W => qk_lex_plain W _) ?_
            rintro e w1 ⟨rfl, f1⟩
            refine ⟨.tuple #[.int .u32 ((plainF (bat s 1)).getD 0), .bool (plainF (bat s 1)).isSome], rfl, ?_⟩
            replace bx1 := bx1.fr f1 id
            replace ff := ff.trans f1
            refine WL.op rfl rfl rfl (Go.Proofs.YtoffbjfgledjfaaDoor.W.quiet_move rfl rfl) ?_
            refine O.ext rfl rfl rfl rfl rfl rfl ?_
            refine O.ext rfl rfl rfl rfl rfl rfl ?_
            refine WL.op rfl rfl rfl (Go.Proofs.YtoffbjfgledjfaaDoor.W.quiet_assign rfl rfl) ?_
            refine WL.op rfl rfl rfl (Go.Proofs.YtoffbjfgledjfaaDoor.W.quiet_assign rfl rfl) ?_
            refine WL.nil ?_
            refine TW.seq ?_
            refine TW.sreg ?_
            refine WL.op rfl rfl rfl (Go.Proofs.YtoffbjfgledjfaaDoor.W.quiet_move rfl rfl) ?_
            refine WL.op rfl rfl rfl (Go.Proofs.YtoffbjfgledjfaaDoor.W.quiet_bin rfl rfl rfl (fun W => qb_eql_int W _ _ _ _)) ?_
            refine O.split (fun hb => by exfalso; revert hb; first | (simp; done) | (simp; omega)) (fun hb => ?_)
            have hV : chrV s = plainF (bat s 1) := by unfold chrV; rw [hN]; rfl
            refine WL.nil ?_
            refine TW.cond rfl (fun hb => by cases hb) (fun _ => ?_)
            refine TW.skip ?_
            refine TW.seq ?_
            refine TW.sreg ?_
            refine WL.op rfl rfl rfl (Go.Proofs.YtoffbjfgledjfaaDoor.W.quiet_move rfl rfl) ?_
            refine WL.op rfl rfl rfl (Go.Proofs.YtoffbjfgledjfaaDoor.W.quiet_not rfl rfl) ?_
            refine O.split (fun g1 => ?_) (fun g1 => ?_)
            · skip
              refine WL.nil ?_
              refine TW.cond rfl (fun _ => ?_) (fun hb => by cases hb)
              refine TW.sreg ?_
              refine O.bld rfl rfl rfl rfl rfl (qd_api_Token_ _) ?_
              refine O.storeR rfl rfl rfl rfl rfl (qsA_api_Token w1 _ _ _ _ _ _ _ _ _ _ _ bx1) ?_
              rintro wa10 ⟨fa10, bx1x⟩
              replace ff := ff.trans' fa10 (fun q hq e => by omega)
              clear bx1
              have bx1 := bx1x
              clear bx1x
              refine WL.op rfl rfl rfl (Go.Proofs.YtoffbjfgledjfaaDoor.W.quiet_assign rfl rfl) ?_
              refine WL.nil ?_
              refine TW.rt ?_
              refine Xw.thn (by simp) ?_
              refine O.retc2 rfl rfl rfl (run_loadVar_row _ _ _ 32 _ _ _ bx1 Tryd.underlying32 rfl (by kernel_rfl)) ?_
              have g2 : plainF (bat s 1) = none := by cases hz : plainF (bat s 1) with | none => rfl | some z => rw [hz] at g1; cases g1
              have q : chrF s = .error 3 := by unfold chrF; rw [hN, if_neg (by rw [d3]; simp only [not_or]; exact ⟨by omega, fun h => h hd2, by simp⟩), hV, g2]
              exact ⟨by rw [q]; rfl, ff⟩
            · skip
              obtain ⟨z, g2⟩ : ∃ z, plainF (bat s 1) = some z := by cases hz : plainF (bat s 1) with | none => rw [hz] at g1; cases g1 | some z => exact ⟨z, rfl⟩
              refine WL.nil ?_
              refine TW.cond rfl (fun hb => by cases hb) (fun _ => ?_)
              refine TW.skip ?_
              refine TW.sreg ?_
              refine WL.op rfl rfl rfl (Go.Proofs.YtoffbjfgledjfaaDoor.W.quiet_move rfl rfl) ?_
              refine WL.op rfl rfl rfl (Go.Proofs.YtoffbjfgledjfaaDoor.W.quiet_move rfl rfl) ?_
              refine O.sl2 rfl rfl rfl rfl rfl rfl (str_to _ s 3 (by omega)) ?_
              refine WL.op rfl rfl rfl (Go.Proofs.YtoffbjfgledjfaaDoor.W.quiet_move rfl rfl) ?_
              refine O.bld rfl rfl rfl rfl rfl (qd_api_Token_0_1_2 _ _ _ _) ?_
              refine O.storeR rfl rfl rfl rfl rfl (qsA_api_Token w1 _ _ _ _ _ _ _ _ _ _ _ bx1) ?_
              rintro wa11 ⟨fa11, bx1x⟩
              replace ff := ff.trans' fa11 (fun q hq e => by omega)
              clear bx1
              have bx1 := bx1x
              clear bx1x
              refine WL.op rfl rfl rfl (Go.Proofs.YtoffbjfgledjfaaDoor.W.quiet_assign rfl rfl) ?_
              refine WL.nil ?_
              refine TW.rt ?_
              refine O.retc2 rfl rfl rfl (run_loadVar_row _ _ _ 32 _ _ _ bx1 Tryd.underlying32 rfl (by kernel_rfl)) ?_
              have q : chrF s = .ok ⟨3, s.take 3, z⟩ := by unfold chrF; rw [hN, if_neg (by rw [d3]; simp only [not_or]; exact ⟨by omega, fun h => h hd2, by simp⟩), hV, g2]
              exact ⟨by rw [q, g2]; rfl, ff⟩
  · skip
    have hN : chrN s = 3 := by unfold chrN; rw [if_neg (fun h => by have := of_decide_eq_false c1; omega)]
    refine WL.op rfl rfl rfl (Go.Proofs.YtoffbjfgledjfaaDoor.W.quiet_move rfl rfl) ?_
    refine WL.skip rfl rfl rfl ?_
    refine WL.skip rfl rfl rfl ?_
    refine WL.skip rfl rfl rfl ?_
    refine WL.op rfl rfl rfl (Go.Proofs.YtoffbjfgledjfaaDoor.W.quiet_pick rfl rfl rfl) ?_
    refine WL.nil ?_
    refine TW.cond rfl (fun hb => by cases hb) (fun _ => ?_)
    refine TW.skip ?_
    refine TW.sreg ?_
    refine WL.op rfl rfl rfl (Go.Proofs.YtoffbjfgledjfaaDoor.W.quiet_move rfl rfl) ?_
    refine WL.op rfl rfl rfl (Go.Proofs.YtoffbjfgledjfaaDoor.W.quiet_bin rfl rfl rfl (fun W => qb_add_int W _ _ _ _ (by omega) (by omega))) ?_
    refine WL.op rfl rfl rfl (Go.Proofs.YtoffbjfgledjfaaDoor.W.quiet_bin rfl rfl rfl (fun W => qb_add_int W _ _ _ _ (by omega) (by omega))) ?_
    refine WL.op rfl rfl rfl (Go.Proofs.YtoffbjfgledjfaaDoor.W.quiet_assign rfl rfl) ?_
    refine WL.nil ?_
    refine TW.seq ?_
    refine TW.sreg ?_
    refine WL.op rfl rfl rfl (Go.Proofs.YtoffbjfgledjfaaDoor.W.quiet_move rfl rfl) ?_
    refine O.len rfl rfl rfl rfl rfl (qn_string _ _) ?_
    refine WL.op rfl rfl rfl (Go.Proofs.YtoffbjfgledjfaaDoor.W.quiet_move rfl rfl) ?_
    refine WL.op rfl rfl rfl (Go.Proofs.YtoffbjfgledjfaaDoor.W.quiet_bin rfl rfl rfl (fun W => qb_lss_int W _ _ _ _)) ?_
    refine O.split (fun d1 => ?_) (fun d1 => ?_)
    · skip
      refine WL.op rfl rfl rfl (Go.Proofs.YtoffbjfgledjfaaDoor.W.quiet_move rfl rfl) ?_
      refine WL.skip rfl rfl rfl ?_
      refine WL.skip rfl rfl rfl ?_
      refine WL.skip rfl rfl rfl ?_
      refine WL.skip rfl rfl rfl ?_
      refine WL.skip rfl rfl rfl ?_
      refine WL.op rfl rfl rfl (Go.Proofs.YtoffbjfgledjfaaDoor.W.quiet_pick rfl rfl rfl) ?_
      refine WL.op rfl rfl rfl (Go.Proofs.YtoffbjfgledjfaaDoor.W.quiet_move rfl rfl) ?_
      refine WL.skip rfl rfl rfl ?_
      refine WL.skip rfl rfl rfl ?_
      refine WL.skip rfl rfl rfl ?_
      refine WL.op rfl rfl rfl (Go.Proofs.YtoffbjfgledjfaaDoor.W.quiet_pick rfl rfl rfl) ?_
      refine WL.nil ?_
      refine TW.cond rfl (fun _ => ?_) (fun hb => by cases hb)
      refine TW.sreg ?_
      refine O.bld rfl rfl rfl rfl rfl (qd_api_Token_ _) ?_
      refine O.storeR rfl rfl rfl rfl rfl (qsA_api_Token wa1 _ _ _ _ _ _ _ _ _ _ _ bx1) ?_
      rintro wa12 ⟨fa12, bx1x⟩
      replace ff := ff.trans' fa12 (fun q hq e => by omega)
      clear bx1
      have bx1 := bx1x
      clear bx1x
      refine WL.op rfl rfl rfl (Go.Proofs.YtoffbjfgledjfaaDoor.W.quiet_assign rfl rfl) ?_
      refine WL.nil ?_
      refine TW.rt ?_
      refine Xw.thn (by simp) ?_
      refine O.retc2 rfl rfl rfl (run_loadVar_row _ _ _ 32 _ _ _ bx1 Tryd.underlying32 rfl (by kernel_rfl)) ?_
      have q : chrF s = .error 3 := by unfold chrF; rw [hN, if_pos (.inl (by have := of_decide_eq_true d1; omega))]
      exact ⟨by rw [q]; rfl, ff⟩
    · skip
      have hd1 : ¬s.length < 3 := by have := of_decide_eq_false d1; omega
      refine WL.op rfl rfl rfl (Go.Proofs.YtoffbjfgledjfaaDoor.W.quiet_move rfl rfl) ?_
      refine WL.op rfl rfl rfl (Go.Proofs.YtoffbjfgledjfaaDoor.W.quiet_move rfl rfl) ?_
      refine WL.op rfl rfl rfl (Go.Proofs.YtoffbjfgledjfaaDoor.W.quiet_move rfl rfl) ?_
      refine WL.op rfl rfl rfl (Go.Proofs.YtoffbjfgledjfaaDoor.W.quiet_bin rfl rfl rfl (fun W => qb_sub_int W _ _ _ _ (by omega) (by omega))) ?_
      refine O.ix rfl rfl rfl rfl rfl rfl (str_at _ s 2 (by omega)) ?_
      refine WL.op rfl rfl rfl (Go.Proofs.YtoffbjfgledjfaaDoor.W.quiet_bin rfl rfl rfl (fun W => qb_neq_uint8 W _ _ _ _)) ?_
      refine O.split (fun d2 => ?_) (fun d2 => ?_)
      · skip
        refine WL.op rfl rfl rfl (Go.Proofs.YtoffbjfgledjfaaDoor.W.quiet_pick rfl rfl rfl) ?_
        refine WL.op rfl rfl rfl (Go.Proofs.YtoffbjfgledjfaaDoor.W.quiet_move rfl rfl) ?_
        refine WL.skip rfl rfl rfl ?_
        refine WL.skip rfl rfl rfl ?_
        refine WL.skip rfl rfl rfl ?_
        refine WL.op rfl rfl rfl (Go.Proofs.YtoffbjfgledjfaaDoor.W.quiet_pick rfl rfl rfl) ?_
        refine WL.nil ?_
        refine TW.cond rfl (fun _ => ?_) (fun hb => by cases hb)
        refine TW.sreg ?_
        refine O.bld rfl rfl rfl rfl rfl (qd_api_Token_ _) ?_
        refine O.storeR rfl rfl rfl rfl rfl (qsA_api_Token wa1 _ _ _ _ _ _ _ _ _ _ _ bx1) ?_
        rintro wa13 ⟨fa13, bx1x⟩
        replace ff := ff.trans' fa13 (fun q hq e => by omega)
        clear bx1
        have bx1 := bx1x
        clear bx1x
        refine WL.op rfl rfl rfl (Go.Proofs.YtoffbjfgledjfaaDoor.W.quiet_assign rfl rfl) ?_
        refine WL.nil ?_
        refine TW.rt ?_
        refine Xw.thn (by simp) ?_
        refine O.retc2 rfl rfl rfl (run_loadVar_row _ _ _ 32 _ _ _ bx1 Tryd.underlying32 rfl (by kernel_rfl)) ?_
        have q : chrF s = .error 3 := by unfold chrF; rw [hN, if_pos (.inr (.inl (by have := ne_of_beq_false (by simpa using d2 : (bat s 2 == 39) = false); exact this)))]
        exact ⟨by rw [q]; rfl, ff⟩
      · skip
        have hd2 : bat s 2 = 39 := by simpa using d2
        refine WL.op rfl rfl rfl (Go.Proofs.YtoffbjfgledjfaaDoor.W.quiet_pick rfl rfl rfl) ?_
        refine WL.op rfl rfl rfl (Go.Proofs.YtoffbjfgledjfaaDoor.W.quiet_move rfl rfl) ?_
        refine WL.op rfl rfl rfl (Go.Proofs.YtoffbjfgledjfaaDoor.W.quiet_move rfl rfl) ?_
        refine WL.op rfl rfl rfl (Go.Proofs.YtoffbjfgledjfaaDoor.W.quiet_move rfl rfl) ?_
        refine WL.call (hr := (t_runs s 3 _)) rfl rfl rfl rfl rfl (fun W => qk_lex_runsOn W _) ?_
        rintro e wz ⟨rfl, hwz⟩
        refine ⟨_, rfl, ?_⟩
        obtain rfl := hwz.symm
        refine O.split (fun d3 => ?_) (fun d3 => ?_)
        · skip
          refine WL.op rfl rfl rfl (Go.Proofs.YtoffbjfgledjfaaDoor.W.quiet_pick rfl rfl rfl) ?_
          refine WL.nil ?_
          refine TW.cond rfl (fun _ => ?_) (fun hb => by cases hb)
          refine TW.sreg ?_
          refine O.bld rfl rfl rfl rfl rfl (qd_api_Token_ _) ?_
          refine O.storeR rfl rfl rfl rfl rfl (qsA_api_Token wa1 _ _ _ _ _ _ _ _ _ _ _ bx1) ?_
          rintro wa14 ⟨fa14, bx1x⟩
          replace ff := ff.trans' fa14 (fun q hq e => by omega)
          clear bx1
          have bx1 := bx1x
          clear bx1x
          refine WL.op rfl rfl rfl (Go.Proofs.YtoffbjfgledjfaaDoor.W.quiet_assign rfl rfl) ?_
          refine WL.nil ?_
          refine TW.rt ?_
          refine Xw.thn (by simp) ?_
          refine O.retc2 rfl rfl rfl (run_loadVar_row _ _ _ 32 _ _ _ bx1 Tryd.underlying32 rfl (by kernel_rfl)) ?_
          have q : chrF s = .error 3 := by unfold chrF; rw [hN, if_pos (.inr (.inr d3))]
          exact ⟨by rw [q]; rfl, ff⟩
        · skip
          refine WL.op rfl rfl rfl (Go.Proofs.YtoffbjfgledjfaaDoor.W.quiet_pick rfl rfl rfl) ?_
          refine WL.nil ?_
          refine TW.cond rfl (fun hb => by cases hb) (fun _ => ?_)
          refine TW.skip ?_
          refine TW.sreg ?_
          refine WL.op rfl rfl rfl (Go.Proofs.YtoffbjfgledjfaaDoor.W.quiet_move rfl rfl) ?_
          refine O.ix rfl rfl rfl rfl rfl rfl (str_at _ s 1 (by omega)) ?_
          refine WL.call (hr := (t_plain (bat s 1) (bat_in s 1).1 (bat_in s 1).2 _)) rfl rfl rfl rfl rfl (fun W => qk_lex_plain W _) ?_
          rintro e w1 ⟨rfl, f1⟩
          refine ⟨.tuple #[.int .u32 ((plainF (bat s 1)).getD 0), .bool (plainF (bat s 1)).isSome], rfl, ?_⟩
          replace bx1 := bx1.fr f1 id
          replace ff := ff.trans f1
          refine WL.op rfl rfl rfl (Go.Proofs.YtoffbjfgledjfaaDoor.W.quiet_move rfl rfl) ?_
          refine O.ext rfl rfl rfl rfl rfl rfl ?_
          refine O.ext rfl rfl rfl rfl rfl rfl ?_
          refine WL.op rfl rfl rfl (Go.Proofs.YtoffbjfgledjfaaDoor.W.quiet_assign rfl rfl) ?_
          refine WL.op rfl rfl rfl (Go.Proofs.YtoffbjfgledjfaaDoor.W.quiet_assign rfl rfl) ?_
          refine WL.nil ?_
          refine TW.seq ?_
          refine TW.sreg ?_
          refine WL.op rfl rfl rfl (Go.Proofs.YtoffbjfgledjfaaDoor.W.quiet_move rfl rfl) ?_
          refine WL.op rfl rfl rfl (Go.Proofs.YtoffbjfgledjfaaDoor.W.quiet_bin rfl rfl rfl (fun W => qb_eql_int W _ _ _ _)) ?_
          refine O.split (fun hb => by exfalso; revert hb; first | (simp; done) | (simp; omega)) (fun hb => ?_)
          have hV : chrV s = plainF (bat s 1) := by unfold chrV; rw [hN]; rfl
          refine WL.nil ?_
          refine TW.cond rfl (fun hb => by cases hb) (fun _ => ?_)
          refine TW.skip ?_
          refine TW.seq ?_
          refine TW.sreg ?_
          refine WL.op rfl rfl rfl (Go.Proofs.YtoffbjfgledjfaaDoor.W.quiet_move rfl rfl) ?_
          refine WL.op rfl rfl rfl (Go.Proofs.YtoffbjfgledjfaaDoor.W.quiet_not rfl rfl) ?_
          refine O.split (fun g1 => ?_) (fun g1 => ?_)
          · skip
            refine WL.nil ?_
            refine TW.cond rfl (fun _ => ?_) (fun hb => by cases hb)
            refine TW.sreg ?_
            refine O.bld rfl rfl rfl rfl rfl (qd_api_Token_ _) ?_
            refine O.storeR rfl rfl rfl rfl rfl (qsA_api_Token w1 _ _ _ _ _ _ _ _ _ _ _ bx1) ?_
            rintro wa15 ⟨fa15, bx1x⟩
            replace ff := ff.trans' fa15 (fun q hq e => by omega)
            clear bx1
            have bx1 := bx1x
            clear bx1x
            refine WL.op rfl rfl rfl (Go.Proofs.YtoffbjfgledjfaaDoor.W.quiet_assign rfl rfl) ?_
            refine WL.nil ?_
            refine TW.rt ?_
            refine Xw.thn (by simp) ?_
            refine O.retc2 rfl rfl rfl (run_loadVar_row _ _ _ 32 _ _ _ bx1 Tryd.underlying32 rfl (by kernel_rfl)) ?_
            have g2 : plainF (bat s 1) = none := by cases hz : plainF (bat s 1) with | none => rfl | some z => rw [hz] at g1; cases g1
            have q : chrF s = .error 3 := by unfold chrF; rw [hN, if_neg (by rw [d3]; simp only [not_or]; exact ⟨by omega, fun h => h hd2, by simp⟩), hV, g2]
            exact ⟨by rw [q]; rfl, ff⟩
          · skip
            obtain ⟨z, g2⟩ : ∃ z, plainF (bat s 1) = some z := by cases hz : plainF (bat s 1) with | none => rw [hz] at g1; cases g1 | some z => exact ⟨z, rfl⟩
            refine WL.nil ?_
            refine TW.cond rfl (fun hb => by cases hb) (fun _ => ?_)
            refine TW.skip ?_
            refine TW.sreg ?_
            refine WL.op rfl rfl rfl (Go.Proofs.YtoffbjfgledjfaaDoor.W.quiet_move rfl rfl) ?_
            refine WL.op rfl rfl rfl (Go.Proofs.YtoffbjfgledjfaaDoor.W.quiet_move rfl rfl) ?_
            refine O.sl2 rfl rfl rfl rfl rfl rfl (str_to _ s 3 (by omega)) ?_
            refine WL.op rfl rfl rfl (Go.Proofs.YtoffbjfgledjfaaDoor.W.quiet_move rfl rfl) ?_
            refine O.bld rfl rfl rfl rfl rfl (qd_api_Token_0_1_2 _ _ _ _) ?_
            refine O.storeR rfl rfl rfl rfl rfl (qsA_api_Token w1 _ _ _ _ _ _ _ _ _ _ _ bx1) ?_
            rintro wa16 ⟨fa16, bx1x⟩
            replace ff := ff.trans' fa16 (fun q hq e => by omega)
            clear bx1
            have bx1 := bx1x
            clear bx1x
            refine WL.op rfl rfl rfl (Go.Proofs.YtoffbjfgledjfaaDoor.W.quiet_assign rfl rfl) ?_
            refine WL.nil ?_
            refine TW.rt ?_
            refine O.retc2 rfl rfl rfl (run_loadVar_row _ _ _ 32 _ _ _ bx1 Tryd.underlying32 rfl (by kernel_rfl)) ?_
            have q : chrF s = .ok ⟨3, s.take 3, z⟩ := by unfold chrF; rw [hN, if_neg (by rw [d3]; simp only [not_or]; exact ⟨by omega, fun h => h hd2, by simp⟩), hV, g2]
            exact ⟨by rw [q, g2]; rfl, ff⟩
end Go.Proofs.YtoffbjfgledjfaaDoor
