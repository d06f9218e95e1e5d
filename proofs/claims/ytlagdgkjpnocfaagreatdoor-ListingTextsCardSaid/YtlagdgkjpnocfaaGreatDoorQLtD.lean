/-
  Listing (layer 6): ParseUint to base 16. Listing (layer 6): ParseUint, the word of a line.
-/
import Derived.Test.YtlagdgkjpnocfaaGreatDoorQLtA
namespace Go.Proofs.YtlagdgkjpnocfaaGreatDoor
open Go.RowKit
set_option linter.unusedVariables false
set_option linter.unusedSimpArgs false
theorem qm_strconv_Error (w : World) (m : Int) : (Instr.makeInterface 126 (.int .i64 m)).run Tryz.prog w = .ok (.iface 126 (.int .i64 m)) w := by simp [go_sem]
theorem qb_lss_int (w : World) (x y : Operand) (m n : Int) : ((do eqGuard .lss 3 x y (.int .i64 m) (.int .i64 n); binOp .lss 3 (.int .i64 m) (.int .i64 n) : Sem Value)).run Tryz.prog w = .ok (.bool (decide (m < n))) w := by simp [go_sem]
theorem qb_gtr_int (w : World) (x y : Operand) (m n : Int) : ((do eqGuard .gtr 3 x y (.int .i64 m) (.int .i64 n); binOp .gtr 3 (.int .i64 m) (.int .i64 n) : Sem Value)).run Tryz.prog w = .ok (.bool (decide (n < m))) w := by simp [go_sem]
theorem qc_int_uint (w : World) (m : Int) (h0 : 0 ≤ m) (h1 : m ≤ 18446744073709551615) : (convert 3 113 (.int .i64 m)).run Tryz.prog w = .ok (.int .u64 m) w := by
  have h : IntKind.u64.wrap m = m := IntWalk.u64_in _ (by omega)
  simp [go_sem, h]
theorem qb_sub_uint64 (w : World) (x y : Operand) (m n : Int) (h0 : 0 ≤ m - n) (h1 : m - n ≤ 18446744073709551615) : ((do eqGuard .sub 85 x y (.int .u64 m) (.int .u64 n); binOp .sub 85 (.int .u64 m) (.int .u64 n) : Sem Value)).run Tryz.prog w = .ok (.int .u64 (m - n)) w := by
  have h : IntKind.u64.wrap (m - n) = m - n := IntWalk.u64_in _ (by omega)
  simp [go_sem, h]
theorem qn_s_uint8 (w : World) (a : Option Addr) (k l : Nat) : (Builtin.len_ #[42] 3 #[.slice a k l]).run Tryz.prog w = .ok (.int .i64 k) w := by simp [go_sem]
theorem qi_s_uint8 (w : World) (b o n c j : Nat) (hj : j < n) : (Instr.indexAt 42 (.slice (some ⟨b, o, none⟩) n c) (.int .i64 (j : Int))).run Tryz.prog w = .ok (.pointer (some ⟨b, o + j, none⟩)) w := by
  have h : (j : Int) < (n : Int) := by omega
  simp [go_sem, h, hj]
theorem ql_uint8 (w : World) (m : Int) (d : Addr) (h : w.cell? d = some (.int .u8 m)) : (Instr.loadAt 5 (.pointer (some d))).run Tryz.prog w = .ok (.int .u8 m) w := by simp [go_sem, h]
theorem qb_leq_uint8 (w : World) (x y : Operand) (m n : Int) : ((do eqGuard .leq 5 x y (.int .u8 m) (.int .u8 n); binOp .leq 5 (.int .u8 m) (.int .u8 n) : Sem Value)).run Tryz.prog w = .ok (.bool (decide (m ≤ n))) w := by simp [go_sem]
theorem qb_sub_uint8 (w : World) (x y : Operand) (m n : Int) (h0 : 0 ≤ m - n) (h1 : m - n ≤ 255) : ((do eqGuard .sub 5 x y (.int .u8 m) (.int .u8 n); binOp .sub 5 (.int .u8 m) (.int .u8 n) : Sem Value)).run Tryz.prog w = .ok (.int .u8 (m - n)) w := by
  have h : IntKind.u8.wrap (m - n) = m - n := IntWalk.u8_in _ (by omega)
  simp [go_sem, h]
theorem qc_int_uint8 (w : World) (m : Int) (h0 : 0 ≤ m) (h1 : m ≤ 255) : (convert 3 5 (.int .i64 m)).run Tryz.prog w = .ok (.int .u8 m) w := by
  have h : IntKind.u8.wrap m = m := IntWalk.u8_in _ (by omega)
  simp [go_sem, h]
theorem qb_geq_uint8 (w : World) (x y : Operand) (m n : Int) : ((do eqGuard .geq 5 x y (.int .u8 m) (.int .u8 n); binOp .geq 5 (.int .u8 m) (.int .u8 n) : Sem Value)).run Tryz.prog w = .ok (.bool (decide (n ≤ m))) w := by simp [go_sem]
theorem qb_geq_uint64 (w : World) (x y : Operand) (m n : Int) : ((do eqGuard .geq 85 x y (.int .u64 m) (.int .u64 n); binOp .geq 85 (.int .u64 m) (.int .u64 n) : Sem Value)).run Tryz.prog w = .ok (.bool (decide (n ≤ m))) w := by simp [go_sem]
theorem qc_int_uint64 (w : World) (m : Int) (h0 : 0 ≤ m) (h1 : m ≤ 18446744073709551615) : (convert 3 85 (.int .i64 m)).run Tryz.prog w = .ok (.int .u64 m) w := by
  have h : IntKind.u64.wrap m = m := IntWalk.u64_in _ (by omega)
  simp [go_sem, h]
theorem qb_mul_uint64 (w : World) (x y : Operand) (m n : Int) (h0 : 0 ≤ m * n) (h1 : m * n ≤ 18446744073709551615) : ((do eqGuard .mul 85 x y (.int .u64 m) (.int .u64 n); binOp .mul 85 (.int .u64 m) (.int .u64 n) : Sem Value)).run Tryz.prog w = .ok (.int .u64 (m * n)) w := by
  have h : IntKind.u64.wrap (m * n) = m * n := IntWalk.u64_in _ (by omega)
  simp [go_sem, h]
theorem qc_uint8_uint64 (w : World) (m : Int) (h0 : 0 ≤ m) (h1 : m ≤ 18446744073709551615) : (convert 5 85 (.int .u8 m)).run Tryz.prog w = .ok (.int .u64 m) w := by
  have h : IntKind.u64.wrap m = m := IntWalk.u64_in _ (by omega)
  simp [go_sem, h]
theorem qb_add_uint64 (w : World) (x y : Operand) (m n : Int) (h0 : 0 ≤ m + n) (h1 : m + n ≤ 18446744073709551615) : ((do eqGuard .add 85 x y (.int .u64 m) (.int .u64 n); binOp .add 85 (.int .u64 m) (.int .u64 n) : Sem Value)).run Tryz.prog w = .ok (.int .u64 (m + n)) w := by
  have h : IntKind.u64.wrap (m + n) = m + n := IntWalk.u64_in _ (by omega)
  simp [go_sem, h]
theorem qb_lss_uint64 (w : World) (x y : Operand) (m n : Int) : ((do eqGuard .lss 85 x y (.int .u64 m) (.int .u64 n); binOp .lss 85 (.int .u64 m) (.int .u64 n) : Sem Value)).run Tryz.prog w = .ok (.bool (decide (m < n))) w := by simp [go_sem]
theorem qb_gtr_uint64 (w : World) (x y : Operand) (m n : Int) : ((do eqGuard .gtr 85 x y (.int .u64 m) (.int .u64 n); binOp .gtr 85 (.int .u64 m) (.int .u64 n) : Sem Value)).run Tryz.prog w = .ok (.bool (decide (n < m))) w := by simp [go_sem]
theorem qk_internal_strconv_lower (w : World) (vs : Array Value) : (callFunc 104 vs).run Tryz.prog w = .ok (.enter 104 vs) w := by simp [go_sem]
theorem qb_add_uint8 (w : World) (x y : Operand) (m n : Int) (h0 : 0 ≤ m + n) (h1 : m + n ≤ 255) : ((do eqGuard .add 5 x y (.int .u8 m) (.int .u8 n); binOp .add 5 (.int .u8 m) (.int .u8 n) : Sem Value)).run Tryz.prog w = .ok (.int .u8 (m + n)) w := by
  have h : IntKind.u8.wrap (m + n) = m + n := IntWalk.u8_in _ (by omega)
  simp [go_sem, h]
/-- A letter in lower case, as the library has it. -/
def lw (c : UInt8) : Int := bits .or .u8 (c.toNat : Int) 32
theorem lw_fin : ∀ k : Fin 256, 0 ≤ bits .or .u8 (k.val : Int) 32 ∧ bits .or .u8 (k.val : Int) 32 ≤ 255 := by decide +kernel
theorem lw_in (c : UInt8) : 0 ≤ lw c ∧ lw c ≤ 255 := lw_fin ⟨c.toNat, c.toNat_lt⟩
theorem lw_95 : bits .or .u8 95 32 = 127 := by decide +kernel
/-- The digit that a byte is. -/
def dvH (c : UInt8) : Option Nat := if 48 ≤ c.toNat ∧ c.toNat ≤ 57 then some (c.toNat - 48) else if 97 ≤ lw c ∧ lw c ≤ 122 then some (lw c - 87).toNat else none
/-- A number to base 16, at most 32 bits wide: the value and 0, or an error's number. -/
def pU : List UInt8 → Nat → Nat × Nat
  | [], n => (n, 0)
  | c :: r, n => match dvH c with
    | none => (0, 2)
    | some d => if 16 ≤ d then (0, 2) else if 4294967295 < n * 16 + d then (4294967295, 1) else pU r (n * 16 + d)
def puT (s : List UInt8) : Nat × Nat := if s = [] then (0, 2) else pU s 0
theorem pU_lt : ∀ (s : List UInt8) (n : Nat), n ≤ 4294967295 → (pU s n).1 ≤ 4294967295
  | [], n, h => h
  | c :: r, n, h => by
    unfold pU
    split
    · exact Nat.zero_le _
    · split
      · exact Nat.zero_le _
      · split
        · exact Nat.le_refl _
        · exact pU_lt r _ (by omega)
theorem puT_lt (s : List UInt8) : (puT s).1 ≤ 4294967295 := by
  unfold puT
  split
  · exact Nat.zero_le _
  · exact pU_lt _ _ (by omega)
theorem pU_code : ∀ (s : List UInt8) (n : Nat), (pU s n).2 = 0 ∨ (pU s n).2 = 1 ∨ (pU s n).2 = 2
  | [], n => .inl rfl
  | c :: r, n => by
    unfold pU
    split
    · exact .inr (.inr rfl)
    · split
      · exact .inr (.inr rfl)
      · split
        · exact .inr (.inl rfl)
        · exact pU_code r _
theorem puT_code (s : List UInt8) : (puT s).2 = 0 ∨ (puT s).2 = 1 ∨ (puT s).2 = 2 := by
  unfold puT
  split
  · exact .inr (.inr rfl)
  · exact pU_code _ _
def IpV (r : Nat × Nat) : Value := .tuple #[.int .u64 (r.1 : Int), if r.2 = 0 then .nilIface else .iface 126 (.int .i64 (r.2 : Int))]
theorem drop_at (s : List UInt8) (j : Nat) (h : j < s.length) : s.drop j = s[j] :: s.drop (j + 1) := List.drop_eq_getElem_cons h
theorem cv_sb (w : World) (s : List UInt8) : ∃ c w', (convert 9 42 (bts s)).run Tryz.prog w = .ok (.slice (some ⟨w.heap.size, 0, none⟩) s.length c) w' ∧ Fr (fun _ => False) w w' ∧ ∀ j (h : j < s.length), w'.cell? ⟨w.heap.size, j, none⟩ = some (.int .u8 (s[j].toNat : Int)) := by
  refine ⟨_, _, run_bytes_of_string w 9 42 5 ⟨s.toArray⟩ Tryz.underlying9 Tryz.underlying42 Tryz.underlying5, fr_al ((Fr.refl _ w).drewN 1) _, fun j h => ?_⟩
  rw [show w.heap.size = w.drew.heap.size from rfl]
  rw [cell_of_row _ _ _ _ _ _ (heap_alloc_new _ _)]
  exact bytesRow_at ⟨s.toArray⟩ _ j (by simpa using h)
theorem bn_shl (w : World) (x y : Operand) : (do eqGuard .shl 85 x y (.int .u64 1) (.int .u64 32); binOp .shl 85 (.int .u64 1) (.int .u64 32) : Sem Value).run Tryz.prog w = .ok (.int .u64 4294967296) w := by
  have h : IntKind.u64.wrap 4294967296 = 4294967296 := by decide
  simp [go_sem, h]
set_option maxRecDepth 100000 in
theorem t_iparse (s : List UInt8) (hs : s.length ≤ 1000000) (w : World) : Calls Tryz.prog 75 #[bts s, .int .i64 16, .int .i64 32] w fun e w' => e = .returned (IpV (puT s)) ∧ Fr (fun _ => False) w w' := by
  refine calls_tw Tryz.func75 rfl rfl (Nat.le_of_ble_eq_true rfl) ?_
  refine TW.sreg ?_
  refine WL.op rfl rfl rfl (Go.Proofs.YtlagdgkjpnocfaaGreatDoor.W.quiet_assign rfl rfl) ?_
  refine WL.op rfl rfl rfl (Go.Proofs.YtlagdgkjpnocfaaGreatDoor.W.quiet_assign rfl rfl) ?_
  refine WL.nil ?_
  refine TW.seq ?_
  refine TW.sreg ?_
  refine WL.op rfl rfl rfl (Go.Proofs.YtlagdgkjpnocfaaGreatDoor.W.quiet_move rfl rfl) ?_
  refine WL.op rfl rfl rfl (Go.Proofs.YtlagdgkjpnocfaaGreatDoor.W.quiet_bin rfl rfl rfl (fun W => bn_eqs W _ _ _ _)) ?_
  refine O.split (fun he => ?_) (fun he => ?_)
  · skip
    refine WL.nil ?_
    refine TW.cond rfl (fun _ => ?_) (fun hb => by cases hb)
    refine TW.sreg ?_
    refine O.mi rfl rfl rfl rfl rfl (qm_strconv_Error _ _) ?_
    refine WL.op rfl rfl rfl (Go.Proofs.YtlagdgkjpnocfaaGreatDoor.W.quiet_assign rfl rfl) ?_
    refine WL.op rfl rfl rfl (Go.Proofs.YtlagdgkjpnocfaaGreatDoor.W.quiet_assign rfl rfl) ?_
    refine WL.nil ?_
    refine TW.rt ?_
    refine Xw.thn (by simp) ?_
    refine O.ret2 rfl rfl rfl ?_
    have q : puT s = (0, 2) := by unfold puT; rw [if_pos (of_decide_eq_true he)]
    exact ⟨by rw [q]; rfl, Fr.refl _ _⟩
  · skip
    have hpu : puT s = pU s 0 := by unfold puT; rw [if_neg (of_decide_eq_false he)]
    refine WL.nil ?_
    refine TW.cond rfl (fun hb => by cases hb) (fun _ => ?_)
    refine TW.skip ?_
    refine TW.sreg ?_
    refine WL.op rfl rfl rfl (Go.Proofs.YtlagdgkjpnocfaaGreatDoor.W.quiet_move rfl rfl) ?_
    refine WL.op rfl rfl rfl (Go.Proofs.YtlagdgkjpnocfaaGreatDoor.W.quiet_bin rfl rfl rfl (fun W => qb_eql_int W _ _ _ _)) ?_
    refine O.split (fun hb => by exfalso; revert hb; first | (simp; done) | (simp; omega)) (fun hb => ?_)
    refine WL.op rfl rfl rfl (Go.Proofs.YtlagdgkjpnocfaaGreatDoor.W.quiet_assign rfl rfl) ?_
    refine WL.nil ?_
    refine TW.sreg ?_
    refine WL.op rfl rfl rfl (Go.Proofs.YtlagdgkjpnocfaaGreatDoor.W.quiet_move rfl rfl) ?_
    refine WL.op rfl rfl rfl (Go.Proofs.YtlagdgkjpnocfaaGreatDoor.W.quiet_assign rfl rfl) ?_
    refine WL.nil ?_
    refine TW.seq ?_
    refine TW.block ?_
    refine TW.sreg ?_
    refine WL.op rfl rfl rfl (Go.Proofs.YtlagdgkjpnocfaaGreatDoor.W.quiet_move rfl rfl) ?_
    refine WL.op rfl rfl rfl (Go.Proofs.YtlagdgkjpnocfaaGreatDoor.W.quiet_bin rfl rfl rfl (fun W => qb_leq_int W _ _ _ _)) ?_
    refine O.split (fun hb => ?_) (fun hb => by exfalso; revert hb; first | (simp; done) | (simp; omega))
    refine WL.op rfl rfl rfl (Go.Proofs.YtlagdgkjpnocfaaGreatDoor.W.quiet_move rfl rfl) ?_
    refine WL.op rfl rfl rfl (Go.Proofs.YtlagdgkjpnocfaaGreatDoor.W.quiet_move rfl rfl) ?_
    refine WL.op rfl rfl rfl (Go.Proofs.YtlagdgkjpnocfaaGreatDoor.W.quiet_bin rfl rfl rfl (fun W => qb_leq_int W _ _ _ _)) ?_
    refine O.split (fun hb => ?_) (fun hb => by exfalso; revert hb; first | (simp; done) | (simp; omega))
    refine WL.op rfl rfl rfl (Go.Proofs.YtlagdgkjpnocfaaGreatDoor.W.quiet_pick rfl rfl rfl) ?_
    refine WL.op rfl rfl rfl (Go.Proofs.YtlagdgkjpnocfaaGreatDoor.W.quiet_assign rfl rfl) ?_
    refine WL.nil ?_
    refine TW.cond rfl (fun _ => ?_) (fun hb => by cases hb)
    refine TW.skipx ?_
    refine Xw.nblk ?_
    refine Xw.nrm ?_
    refine TW.seq ?_
    refine TW.sreg ?_
    refine WL.op rfl rfl rfl (Go.Proofs.YtlagdgkjpnocfaaGreatDoor.W.quiet_move rfl rfl) ?_
    refine WL.op rfl rfl rfl (Go.Proofs.YtlagdgkjpnocfaaGreatDoor.W.quiet_bin rfl rfl rfl (fun W => qb_eql_int W _ _ _ _)) ?_
    refine O.split (fun hb => by exfalso; revert hb; first | (simp; done) | (simp; omega)) (fun hb => ?_)
    refine WL.nil ?_
    refine TW.cond rfl (fun hb => by cases hb) (fun _ => ?_)
    refine TW.sreg ?_
    refine WL.op rfl rfl rfl (Go.Proofs.YtlagdgkjpnocfaaGreatDoor.W.quiet_move rfl rfl) ?_
    refine WL.op rfl rfl rfl (Go.Proofs.YtlagdgkjpnocfaaGreatDoor.W.quiet_bin rfl rfl rfl (fun W => qb_lss_int W _ _ _ _)) ?_
    refine O.split (fun hb => by exfalso; revert hb; first | (simp; done) | (simp; omega)) (fun hb => ?_)
    refine WL.op rfl rfl rfl (Go.Proofs.YtlagdgkjpnocfaaGreatDoor.W.quiet_move rfl rfl) ?_
    refine WL.op rfl rfl rfl (Go.Proofs.YtlagdgkjpnocfaaGreatDoor.W.quiet_move rfl rfl) ?_
    refine WL.op rfl rfl rfl (Go.Proofs.YtlagdgkjpnocfaaGreatDoor.W.quiet_bin rfl rfl rfl (fun W => qb_gtr_int W _ _ _ _)) ?_
    refine O.split (fun hb => by exfalso; revert hb; first | (simp; done) | (simp; omega)) (fun hb => ?_)
    refine WL.op rfl rfl rfl (Go.Proofs.YtlagdgkjpnocfaaGreatDoor.W.quiet_pick rfl rfl rfl) ?_
    refine WL.nil ?_
    refine TW.cond rfl (fun hb => by cases hb) (fun _ => ?_)
    refine TW.skip ?_
    refine TW.sreg ?_
    refine WL.op rfl rfl rfl (Go.Proofs.YtlagdgkjpnocfaaGreatDoor.W.quiet_assign rfl rfl) ?_
    refine WL.nil ?_
    refine TW.seq ?_
    refine TW.sreg ?_
    refine WL.op rfl rfl rfl (Go.Proofs.YtlagdgkjpnocfaaGreatDoor.W.quiet_move rfl rfl) ?_
    refine WL.nil ?_
    refine TW.block ?_
    refine TW.sreg ?_
    refine WL.op rfl rfl rfl (Go.Proofs.YtlagdgkjpnocfaaGreatDoor.W.quiet_bin rfl rfl rfl (fun W => qb_eql_int W _ _ _ _)) ?_
    refine O.split (fun hb => by exfalso; revert hb; first | (simp; done) | (simp; omega)) (fun hb => ?_)
    refine WL.op rfl rfl rfl (Go.Proofs.YtlagdgkjpnocfaaGreatDoor.W.quiet_assign rfl rfl) ?_
    refine WL.nil ?_
    refine TW.cond rfl (fun hb => by cases hb) (fun _ => ?_)
    refine TW.sreg ?_
    refine WL.op rfl rfl rfl (Go.Proofs.YtlagdgkjpnocfaaGreatDoor.W.quiet_bin rfl rfl rfl (fun W => qb_eql_int W _ _ _ _)) ?_
    refine O.split (fun hb => ?_) (fun hb => by exfalso; revert hb; first | (simp; done) | (simp; omega))
    refine WL.op rfl rfl rfl (Go.Proofs.YtlagdgkjpnocfaaGreatDoor.W.quiet_assign rfl rfl) ?_
    refine WL.nil ?_
    refine TW.cond rfl (fun _ => ?_) (fun hb => by cases hb)
    refine TW.reg ?_
    refine WL.op rfl rfl rfl (Go.Proofs.YtlagdgkjpnocfaaGreatDoor.W.quiet_assign rfl rfl) ?_
    refine WL.end ?_
    refine Xw.nblk ?_
    refine Xw.nrm ?_
    refine TW.sreg ?_
    refine WL.op rfl rfl rfl (Go.Proofs.YtlagdgkjpnocfaaGreatDoor.W.quiet_move rfl rfl) ?_
    refine O.cv rfl rfl rfl rfl rfl (qc_int_uint _ _ (by omega) (by omega)) ?_
    refine WL.op rfl rfl rfl (Go.Proofs.YtlagdgkjpnocfaaGreatDoor.W.quiet_bin rfl rfl rfl (fun W => bn_shl W _ _)) ?_
    refine WL.op rfl rfl rfl (Go.Proofs.YtlagdgkjpnocfaaGreatDoor.W.quiet_bin rfl rfl rfl (fun W => qb_sub_uint64 W _ _ _ _ (by omega) (by omega))) ?_
    refine WL.op rfl rfl rfl (Go.Proofs.YtlagdgkjpnocfaaGreatDoor.W.quiet_assign rfl rfl) ?_
    refine WL.nil ?_
    refine TW.sreg ?_
    refine WL.op rfl rfl rfl (Go.Proofs.YtlagdgkjpnocfaaGreatDoor.W.quiet_assign rfl rfl) ?_
    refine WL.nil ?_
    refine TW.sreg ?_
    refine WL.op rfl rfl rfl (Go.Proofs.YtlagdgkjpnocfaaGreatDoor.W.quiet_assign rfl rfl) ?_
    refine WL.nil ?_
    refine TW.seq ?_
    refine TW.sreg ?_
    refine WL.op rfl rfl rfl (Go.Proofs.YtlagdgkjpnocfaaGreatDoor.W.quiet_move rfl rfl) ?_
    obtain ⟨cp, w2, hcv, ff, hcs⟩ := cv_sb w s
    refine O.cv rfl rfl rfl rfl rfl hcv ?_
    generalize w.heap.size = g at hcs ⊢
    -- world w2
    refine O.len rfl rfl rfl rfl rfl (qn_s_uint8 _ _ _ _) ?_
    refine WL.op rfl rfl rfl (Go.Proofs.YtlagdgkjpnocfaaGreatDoor.W.quiet_move rfl rfl) ?_
    refine WL.nil ?_
    refine TW.block ?_
    refine O.loopG (n := s.length) (fun a _ => (intOf (a.tmps.getD 101 undef)).toNat) (fun j a W => ∃ (n : Nat), Kn Tryz.f75.ntmps [(0, bts s), (1, .int .i64 16), (8, .bool false), (10, .int .u64 1152921504606846976), (11, .int .u64 (4294967296 - 1)), (12, .bool false), (13, .int .u64 (n : Int)), (99, .slice (some ⟨g, 0, none⟩) s.length cp), (100, .int .i64 (s.length : Int)), (101, .int .i64 (j : Int))] a ∧ w2 = W ∧ n ≤ 4294967295 ∧ pU s 0 = pU (s.drop j) n) (fun j a W h => by obtain ⟨_, h⟩ := h; exact O.slotv h.1 rfl) 0 (Nat.zero_le _) (fun a k => ⟨0, (by (repeat (refine Kn.cons k rfl ?_)); exact k.base), rfl, by omega, by rw [List.drop_zero]⟩) ?_
    rintro j a wl hj ⟨n, k, rfl, hn, hp⟩
    refine TW.app (s := [(0, bts s), (1, .int .i64 16), (8, .bool false), (10, .int .u64 1152921504606846976), (11, .int .u64 (4294967296 - 1)), (12, .bool false), (13, .int .u64 (n : Int)), (99, .slice (some ⟨g, 0, none⟩) s.length cp), (100, .int .i64 (s.length : Int)), (101, .int .i64 (j : Int))]) ?_ k
    refine TW.sreg ?_
    refine WL.op rfl rfl rfl (Go.Proofs.YtlagdgkjpnocfaaGreatDoor.W.quiet_bin rfl rfl rfl (fun W => qb_lss_int W _ _ _ _)) ?_
    refine O.split (fun hlt => ?_) (fun hlt => ?_)
    · skip
      have hjl : j < s.length := by have := of_decide_eq_true hlt; omega
      have hcell := hcs j hjl
      obtain ⟨c, hc⟩ : ∃ c, c = s[j] := ⟨_, rfl⟩
      rw [← hc] at hcell
      have hc256 := c.toNat_lt
      have hlw := lw_in c
      refine WL.nil ?_
      refine TW.seq ?_
      refine TW.cond rfl (fun _ => ?_) (fun hb => by cases hb)
      refine TW.skip ?_
      refine TW.seq ?_
      refine TW.block ?_
      refine TW.sreg ?_
      refine O.ixa rfl rfl rfl rfl rfl rfl (qi_s_uint8 _ _ _ _ _ _ (by omega)) ?_
      refine WL.ld rfl rfl rfl rfl rfl (ql_uint8 _ _ _ (by rw [Nat.zero_add]; exact hcell)) ?_
      refine WL.op rfl rfl rfl (Go.Proofs.YtlagdgkjpnocfaaGreatDoor.W.quiet_assign rfl rfl) ?_
      refine WL.nil ?_
      refine TW.sreg ?_
      refine WL.op rfl rfl rfl (Go.Proofs.YtlagdgkjpnocfaaGreatDoor.W.quiet_assign rfl rfl) ?_
      refine WL.nil ?_
      refine TW.seq ?_
      refine TW.block ?_
      refine TW.sreg ?_
      refine WL.op rfl rfl rfl (Go.Proofs.YtlagdgkjpnocfaaGreatDoor.W.quiet_move rfl rfl) ?_
      refine WL.op rfl rfl rfl (Go.Proofs.YtlagdgkjpnocfaaGreatDoor.W.quiet_bin rfl rfl rfl (fun W => qb_eql_uint8 W _ _ _ _)) ?_
      refine O.split (fun h95b => ?_) (fun h95b => ?_)
      · skip
        have h95 : (c.toNat : Int) = 95 := eq_of_beq h95b
        have hlw95 : lw c = 127 := by unfold lw; rw [h95]; exact lw_95
        refine WL.op rfl rfl rfl (Go.Proofs.YtlagdgkjpnocfaaGreatDoor.W.quiet_move rfl rfl) ?_
        refine WL.op rfl rfl rfl (Go.Proofs.YtlagdgkjpnocfaaGreatDoor.W.quiet_move rfl rfl) ?_
        refine WL.op rfl rfl rfl (Go.Proofs.YtlagdgkjpnocfaaGreatDoor.W.quiet_pick rfl rfl rfl) ?_
        refine WL.op rfl rfl rfl (Go.Proofs.YtlagdgkjpnocfaaGreatDoor.W.quiet_assign rfl rfl) ?_
        refine WL.nil ?_
        refine TW.cond rfl (fun hb => by cases hb) (fun _ => ?_)
        refine TW.sreg ?_
        refine WL.op rfl rfl rfl (Go.Proofs.YtlagdgkjpnocfaaGreatDoor.W.quiet_move rfl rfl) ?_
        refine WL.op rfl rfl rfl (Go.Proofs.YtlagdgkjpnocfaaGreatDoor.W.quiet_bin rfl rfl rfl (fun W => qb_leq_uint8 W _ _ _ _)) ?_
        refine O.split (fun hb2 => ?_) (fun hb2 => ?_)
        · skip
          refine WL.op rfl rfl rfl (Go.Proofs.YtlagdgkjpnocfaaGreatDoor.W.quiet_move rfl rfl) ?_
          refine WL.op rfl rfl rfl (Go.Proofs.YtlagdgkjpnocfaaGreatDoor.W.quiet_move rfl rfl) ?_
          refine WL.op rfl rfl rfl (Go.Proofs.YtlagdgkjpnocfaaGreatDoor.W.quiet_bin rfl rfl rfl (fun W => qb_leq_uint8 W _ _ _ _)) ?_
          refine O.split (fun hb3 => ?_) (fun hb3 => ?_)
          · skip
            have h48 := of_decide_eq_true hb2
            have h57 := of_decide_eq_true hb3
            have hdv : dvH c = some (c.toNat - 48) := by unfold dvH; rw [if_pos (by omega)]
            obtain ⟨d, hd⟩ : ∃ d : Nat, (c.toNat : Int) - 48 = (d : Int) := ⟨c.toNat - 48, by omega⟩
            rw [show c.toNat - 48 = d by omega] at hdv
            refine WL.op rfl rfl rfl (Go.Proofs.YtlagdgkjpnocfaaGreatDoor.W.quiet_pick rfl rfl rfl) ?_
            refine WL.op rfl rfl rfl (Go.Proofs.YtlagdgkjpnocfaaGreatDoor.W.quiet_assign rfl rfl) ?_
            refine WL.nil ?_
            refine TW.cond rfl (fun _ => ?_) (fun hb => by cases hb)
            refine TW.reg ?_
            refine WL.op rfl rfl rfl (Go.Proofs.YtlagdgkjpnocfaaGreatDoor.W.quiet_move rfl rfl) ?_
            refine WL.op rfl rfl rfl (Go.Proofs.YtlagdgkjpnocfaaGreatDoor.W.quiet_bin rfl rfl rfl (fun W => (qb_sub_uint8 W _ _ _ _ (by omega) (by omega)).trans (by rw [hd]))) ?_
            refine WL.op rfl rfl rfl (Go.Proofs.YtlagdgkjpnocfaaGreatDoor.W.quiet_assign rfl rfl) ?_
            refine WL.end ?_
            refine Xw.nblk ?_
            refine Xw.nrm ?_
            refine TW.seq ?_
            refine TW.sreg ?_
            refine WL.op rfl rfl rfl (Go.Proofs.YtlagdgkjpnocfaaGreatDoor.W.quiet_move rfl rfl) ?_
            refine WL.op rfl rfl rfl (Go.Proofs.YtlagdgkjpnocfaaGreatDoor.W.quiet_move rfl rfl) ?_
            refine O.cv rfl rfl rfl rfl rfl (qc_int_uint8 _ _ (by omega) (by omega)) ?_
            refine WL.op rfl rfl rfl (Go.Proofs.YtlagdgkjpnocfaaGreatDoor.W.quiet_bin rfl rfl rfl (fun W => qb_geq_uint8 W _ _ _ _)) ?_
            refine O.split (fun hb => ?_) (fun hb => ?_)
            · skip
              refine WL.nil ?_
              refine TW.cond rfl (fun _ => ?_) (fun hb => by cases hb)
              refine TW.sreg ?_
              refine O.mi rfl rfl rfl rfl rfl (qm_strconv_Error _ _) ?_
              refine WL.op rfl rfl rfl (Go.Proofs.YtlagdgkjpnocfaaGreatDoor.W.quiet_assign rfl rfl) ?_
              refine WL.op rfl rfl rfl (Go.Proofs.YtlagdgkjpnocfaaGreatDoor.W.quiet_assign rfl rfl) ?_
              refine WL.nil ?_
              refine TW.rt ?_
              refine Xw.thn (by simp) ?_
              refine Xw.rblk ?_
              refine Xw.thn (by simp) ?_
              refine Xw.thn (by simp) ?_
              refine Xw.rblk ?_
              refine Xw.thn (by simp) ?_
              refine O.ret2 rfl rfl rfl ?_
              have q : puT s = (0, 2) := by
                rw [hpu, hp, drop_at s j hjl]
                unfold pU
                simp only [show s[j] = c from hc.symm, hdv]
                rw [if_pos (by have := of_decide_eq_true hb; omega)]
              exact ⟨by rw [q]; rfl, ff⟩
            · skip
              have hd16 : ¬ 16 ≤ d := by have := of_decide_eq_false hb; omega
              have hn2 : (n : Int) * 16 + (d : Int) = ((n * 16 + d : Nat) : Int) := by omega
              refine WL.nil ?_
              refine TW.cond rfl (fun hb => by cases hb) (fun _ => ?_)
              refine TW.skip ?_
              refine TW.seq ?_
              refine TW.sreg ?_
              refine WL.op rfl rfl rfl (Go.Proofs.YtlagdgkjpnocfaaGreatDoor.W.quiet_move rfl rfl) ?_
              refine WL.op rfl rfl rfl (Go.Proofs.YtlagdgkjpnocfaaGreatDoor.W.quiet_move rfl rfl) ?_
              refine WL.op rfl rfl rfl (Go.Proofs.YtlagdgkjpnocfaaGreatDoor.W.quiet_bin rfl rfl rfl (fun W => qb_geq_uint64 W _ _ _ _)) ?_
              refine O.split (fun hb => by exfalso; revert hb; first | (simp; done) | (simp; omega)) (fun hb => ?_)
              refine WL.nil ?_
              refine TW.cond rfl (fun hb => by cases hb) (fun _ => ?_)
              refine TW.skip ?_
              refine TW.sreg ?_
              refine WL.op rfl rfl rfl (Go.Proofs.YtlagdgkjpnocfaaGreatDoor.W.quiet_move rfl rfl) ?_
              refine WL.op rfl rfl rfl (Go.Proofs.YtlagdgkjpnocfaaGreatDoor.W.quiet_move rfl rfl) ?_
              refine O.cv rfl rfl rfl rfl rfl (qc_int_uint64 _ _ (by omega) (by omega)) ?_
              refine WL.op rfl rfl rfl (Go.Proofs.YtlagdgkjpnocfaaGreatDoor.W.quiet_bin rfl rfl rfl (fun W => qb_mul_uint64 W _ _ _ _ (by omega) (by omega))) ?_
              refine WL.op rfl rfl rfl (Go.Proofs.YtlagdgkjpnocfaaGreatDoor.W.quiet_assign rfl rfl) ?_
              refine WL.nil ?_
              refine TW.sreg ?_
              refine WL.op rfl rfl rfl (Go.Proofs.YtlagdgkjpnocfaaGreatDoor.W.quiet_move rfl rfl) ?_
              refine WL.op rfl rfl rfl (Go.Proofs.YtlagdgkjpnocfaaGreatDoor.W.quiet_move rfl rfl) ?_
              refine O.cv rfl rfl rfl rfl rfl (qc_uint8_uint64 _ _ (by omega) (by omega)) ?_
              refine WL.op rfl rfl rfl (Go.Proofs.YtlagdgkjpnocfaaGreatDoor.W.quiet_bin rfl rfl rfl (fun W => (qb_add_uint64 W _ _ _ _ (by omega) (by omega)).trans (by rw [hn2]))) ?_
              refine WL.op rfl rfl rfl (Go.Proofs.YtlagdgkjpnocfaaGreatDoor.W.quiet_assign rfl rfl) ?_
              refine WL.nil ?_
              refine TW.seq ?_
              refine TW.sreg ?_
              refine WL.op rfl rfl rfl (Go.Proofs.YtlagdgkjpnocfaaGreatDoor.W.quiet_move rfl rfl) ?_
              refine WL.op rfl rfl rfl (Go.Proofs.YtlagdgkjpnocfaaGreatDoor.W.quiet_move rfl rfl) ?_
              refine WL.op rfl rfl rfl (Go.Proofs.YtlagdgkjpnocfaaGreatDoor.W.quiet_bin rfl rfl rfl (fun W => qb_lss_uint64 W _ _ _ _)) ?_
              refine O.split (fun hb => by exfalso; revert hb; first | (simp; done) | (simp; omega)) (fun hb => ?_)
              refine WL.op rfl rfl rfl (Go.Proofs.YtlagdgkjpnocfaaGreatDoor.W.quiet_move rfl rfl) ?_
              refine WL.op rfl rfl rfl (Go.Proofs.YtlagdgkjpnocfaaGreatDoor.W.quiet_move rfl rfl) ?_
              refine WL.op rfl rfl rfl (Go.Proofs.YtlagdgkjpnocfaaGreatDoor.W.quiet_move rfl rfl) ?_
              refine WL.op rfl rfl rfl (Go.Proofs.YtlagdgkjpnocfaaGreatDoor.W.quiet_bin rfl rfl rfl (fun W => qb_gtr_uint64 W _ _ _ _)) ?_
              refine O.split (fun hb9 => ?_) (fun hb9 => ?_)
              · skip
                refine WL.op rfl rfl rfl (Go.Proofs.YtlagdgkjpnocfaaGreatDoor.W.quiet_pick rfl rfl rfl) ?_
                refine WL.nil ?_
                refine TW.cond rfl (fun _ => ?_) (fun hb => by cases hb)
                refine TW.sreg ?_
                refine WL.op rfl rfl rfl (Go.Proofs.YtlagdgkjpnocfaaGreatDoor.W.quiet_move rfl rfl) ?_
                refine O.mi rfl rfl rfl rfl rfl (qm_strconv_Error _ _) ?_
                refine WL.op rfl rfl rfl (Go.Proofs.YtlagdgkjpnocfaaGreatDoor.W.quiet_assign rfl rfl) ?_
                refine WL.op rfl rfl rfl (Go.Proofs.YtlagdgkjpnocfaaGreatDoor.W.quiet_assign rfl rfl) ?_
                refine WL.nil ?_
                refine TW.rt ?_
                refine Xw.thn (by simp) ?_
                refine Xw.rblk ?_
                refine Xw.thn (by simp) ?_
                refine Xw.thn (by simp) ?_
                refine Xw.rblk ?_
                refine Xw.thn (by simp) ?_
                refine O.ret2 rfl rfl rfl ?_
                have hbb := of_decide_eq_true hb9
                have q : puT s = (4294967295, 1) := by
                  rw [hpu, hp, drop_at s j hjl]
                  unfold pU
                  simp only [show s[j] = c from hc.symm, hdv]
                  rw [if_neg hd16, if_pos (by omega)]
                exact ⟨by rw [q]; rfl, ff⟩
              · skip
                have hbb := of_decide_eq_false hb9
                refine WL.op rfl rfl rfl (Go.Proofs.YtlagdgkjpnocfaaGreatDoor.W.quiet_pick rfl rfl rfl) ?_
                refine WL.nil ?_
                refine TW.cond rfl (fun hb => by cases hb) (fun _ => ?_)
                refine TW.skip ?_
                refine TW.reg ?_
                refine WL.op rfl rfl rfl (Go.Proofs.YtlagdgkjpnocfaaGreatDoor.W.quiet_move rfl rfl) ?_
                refine WL.op rfl rfl rfl (Go.Proofs.YtlagdgkjpnocfaaGreatDoor.W.quiet_assign rfl rfl) ?_
                refine WL.end ?_
                refine Xw.nblk ?_
                refine Xw.nrm ?_
                refine TW.reg ?_
                refine WL.op rfl rfl rfl (Go.Proofs.YtlagdgkjpnocfaaGreatDoor.W.quiet_bin rfl rfl rfl (fun W => qb_add_int W _ _ _ _ (by omega) (by omega))) ?_
                refine WL.op rfl rfl rfl (Go.Proofs.YtlagdgkjpnocfaaGreatDoor.W.quiet_move rfl rfl) ?_
                refine WL.end ?_
                refine Xw.any (fun a k => ?_)
                refine ⟨j + 1, by omega, by omega, n * 16 + d, by (repeat (refine Kn.cons k rfl ?_)); exact k.base, rfl, by omega, ?_⟩
                rw [hp, drop_at s j hjl]
                conv => lhs; unfold pU
                simp only [show s[j] = c from hc.symm, hdv]
                rw [if_neg hd16, if_neg (by omega)]
          · skip
            have h57 := of_decide_eq_false hb3
            refine WL.op rfl rfl rfl (Go.Proofs.YtlagdgkjpnocfaaGreatDoor.W.quiet_pick rfl rfl rfl) ?_
            refine WL.op rfl rfl rfl (Go.Proofs.YtlagdgkjpnocfaaGreatDoor.W.quiet_assign rfl rfl) ?_
            refine WL.nil ?_
            refine TW.cond rfl (fun hb => by cases hb) (fun _ => ?_)
            refine TW.sreg ?_
            refine WL.op rfl rfl rfl (Go.Proofs.YtlagdgkjpnocfaaGreatDoor.W.quiet_move rfl rfl) ?_
            refine WL.call (hr := (Tryz.internal_strconv_lower (c.toNat : Int) w2)) rfl rfl rfl rfl rfl (fun W => qk_internal_strconv_lower W _) ?_
            rintro e wz ⟨rfl, hwz⟩
            refine ⟨_, rfl, ?_⟩
            obtain rfl := hwz.symm
            refine WL.op rfl rfl rfl (Go.Proofs.YtlagdgkjpnocfaaGreatDoor.W.quiet_bin rfl rfl rfl (fun W => qb_leq_uint8 W _ _ _ _)) ?_
            refine O.split (fun hb4 => ?_) (fun hb4 => ?_)
            · skip
              refine WL.op rfl rfl rfl (Go.Proofs.YtlagdgkjpnocfaaGreatDoor.W.quiet_move rfl rfl) ?_
              refine WL.op rfl rfl rfl (Go.Proofs.YtlagdgkjpnocfaaGreatDoor.W.quiet_move rfl rfl) ?_
              refine WL.call (hr := (Tryz.internal_strconv_lower (c.toNat : Int) w2)) rfl rfl rfl rfl rfl (fun W => qk_internal_strconv_lower W _) ?_
              rintro e wz ⟨rfl, hwz⟩
              refine ⟨_, rfl, ?_⟩
              obtain rfl := hwz.symm
              refine WL.op rfl rfl rfl (Go.Proofs.YtlagdgkjpnocfaaGreatDoor.W.quiet_bin rfl rfl rfl (fun W => qb_leq_uint8 W _ _ _ _)) ?_
              refine O.split (fun hb5 => ?_) (fun hb5 => ?_)
              · skip
                have h97 : 97 ≤ lw c := of_decide_eq_true hb4
                have h122 : lw c ≤ 122 := of_decide_eq_true hb5
                have hdv : dvH c = some (lw c - 87).toNat := by unfold dvH; rw [if_neg (by omega), if_pos ⟨h97, h122⟩]
                obtain ⟨d, hd⟩ : ∃ d : Nat, lw c - 97 + 10 = (d : Int) := ⟨(lw c - 87).toNat, by omega⟩
                rw [show (lw c - 87).toNat = d by omega] at hdv
                refine WL.op rfl rfl rfl (Go.Proofs.YtlagdgkjpnocfaaGreatDoor.W.quiet_pick rfl rfl rfl) ?_
                refine WL.op rfl rfl rfl (Go.Proofs.YtlagdgkjpnocfaaGreatDoor.W.quiet_assign rfl rfl) ?_
                refine WL.nil ?_
                refine TW.cond rfl (fun _ => ?_) (fun hb => by cases hb)
                refine TW.reg ?_
                refine WL.op rfl rfl rfl (Go.Proofs.YtlagdgkjpnocfaaGreatDoor.W.quiet_move rfl rfl) ?_
                refine WL.call (hr := (Tryz.internal_strconv_lower (c.toNat : Int) w2)) rfl rfl rfl rfl rfl (fun W => qk_internal_strconv_lower W _) ?_
                rintro e wz ⟨rfl, hwz⟩
                refine ⟨_, rfl, ?_⟩
                obtain rfl := hwz.symm
                refine WL.op rfl rfl rfl (Go.Proofs.YtlagdgkjpnocfaaGreatDoor.W.quiet_bin rfl rfl rfl (fun W => qb_sub_uint8 W _ _ (lw c) _ (by omega) (by omega))) ?_
                refine WL.op rfl rfl rfl (Go.Proofs.YtlagdgkjpnocfaaGreatDoor.W.quiet_bin rfl rfl rfl (fun W => (qb_add_uint8 W _ _ _ _ (by omega) (by omega)).trans (by rw [hd]))) ?_
                refine WL.op rfl rfl rfl (Go.Proofs.YtlagdgkjpnocfaaGreatDoor.W.quiet_assign rfl rfl) ?_
                refine WL.end ?_
                refine Xw.nblk ?_
                refine Xw.nrm ?_
                refine TW.seq ?_
                refine TW.sreg ?_
                refine WL.op rfl rfl rfl (Go.Proofs.YtlagdgkjpnocfaaGreatDoor.W.quiet_move rfl rfl) ?_
                refine WL.op rfl rfl rfl (Go.Proofs.YtlagdgkjpnocfaaGreatDoor.W.quiet_move rfl rfl) ?_
                refine O.cv rfl rfl rfl rfl rfl (qc_int_uint8 _ _ (by omega) (by omega)) ?_
                refine WL.op rfl rfl rfl (Go.Proofs.YtlagdgkjpnocfaaGreatDoor.W.quiet_bin rfl rfl rfl (fun W => qb_geq_uint8 W _ _ _ _)) ?_
                refine O.split (fun hb => ?_) (fun hb => ?_)
                · skip
                  refine WL.nil ?_
                  refine TW.cond rfl (fun _ => ?_) (fun hb => by cases hb)
                  refine TW.sreg ?_
                  refine O.mi rfl rfl rfl rfl rfl (qm_strconv_Error _ _) ?_
                  refine WL.op rfl rfl rfl (Go.Proofs.YtlagdgkjpnocfaaGreatDoor.W.quiet_assign rfl rfl) ?_
                  refine WL.op rfl rfl rfl (Go.Proofs.YtlagdgkjpnocfaaGreatDoor.W.quiet_assign rfl rfl) ?_
                  refine WL.nil ?_
                  refine TW.rt ?_
                  refine Xw.thn (by simp) ?_
                  refine Xw.rblk ?_
                  refine Xw.thn (by simp) ?_
                  refine Xw.thn (by simp) ?_
                  refine Xw.rblk ?_
                  refine Xw.thn (by simp) ?_
                  refine O.ret2 rfl rfl rfl ?_
                  have q : puT s = (0, 2) := by
                    rw [hpu, hp, drop_at s j hjl]
                    unfold pU
                    simp only [show s[j] = c from hc.symm, hdv]
                    rw [if_pos (by have := of_decide_eq_true hb; omega)]
                  exact ⟨by rw [q]; rfl, ff⟩
                · skip
                  have hd16 : ¬ 16 ≤ d := by have := of_decide_eq_false hb; omega
                  have hn2 : (n : Int) * 16 + (d : Int) = ((n * 16 + d : Nat) : Int) := by omega
                  refine WL.nil ?_
                  refine TW.cond rfl (fun hb => by cases hb) (fun _ => ?_)
                  refine TW.skip ?_
                  refine TW.seq ?_
                  refine TW.sreg ?_
                  refine WL.op rfl rfl rfl (Go.Proofs.YtlagdgkjpnocfaaGreatDoor.W.quiet_move rfl rfl) ?_
                  refine WL.op rfl rfl rfl (Go.Proofs.YtlagdgkjpnocfaaGreatDoor.W.quiet_move rfl rfl) ?_
                  refine WL.op rfl rfl rfl (Go.Proofs.YtlagdgkjpnocfaaGreatDoor.W.quiet_bin rfl rfl rfl (fun W => qb_geq_uint64 W _ _ _ _)) ?_
                  refine O.split (fun hb => by exfalso; revert hb; first | (simp; done) | (simp; omega)) (fun hb => ?_)
                  refine WL.nil ?_
                  refine TW.cond rfl (fun hb => by cases hb) (fun _ => ?_)
                  refine TW.skip ?_
                  refine TW.sreg ?_
                  refine WL.op rfl rfl rfl (Go.Proofs.YtlagdgkjpnocfaaGreatDoor.W.quiet_move rfl rfl) ?_
                  refine WL.op rfl rfl rfl (Go.Proofs.YtlagdgkjpnocfaaGreatDoor.W.quiet_move rfl rfl) ?_
                  refine O.cv rfl rfl rfl rfl rfl (qc_int_uint64 _ _ (by omega) (by omega)) ?_
                  refine WL.op rfl rfl rfl (Go.Proofs.YtlagdgkjpnocfaaGreatDoor.W.quiet_bin rfl rfl rfl (fun W => qb_mul_uint64 W _ _ _ _ (by omega) (by omega))) ?_
                  refine WL.op rfl rfl rfl (Go.Proofs.YtlagdgkjpnocfaaGreatDoor.W.quiet_assign rfl rfl) ?_
                  refine WL.nil ?_
                  refine TW.sreg ?_
                  refine WL.op rfl rfl rfl (Go.Proofs.YtlagdgkjpnocfaaGreatDoor.W.quiet_move rfl rfl) ?_
                  refine WL.op rfl rfl rfl (Go.Proofs.YtlagdgkjpnocfaaGreatDoor.W.quiet_move rfl rfl) ?_
                  refine O.cv rfl rfl rfl rfl rfl (qc_uint8_uint64 _ _ (by omega) (by omega)) ?_
                  refine WL.op rfl rfl rfl (Go.Proofs.YtlagdgkjpnocfaaGreatDoor.W.quiet_bin rfl rfl rfl (fun W => (qb_add_uint64 W _ _ _ _ (by omega) (by omega)).trans (by rw [hn2]))) ?_
                  refine WL.op rfl rfl rfl (Go.Proofs.YtlagdgkjpnocfaaGreatDoor.W.quiet_assign rfl rfl) ?_
                  refine WL.nil ?_
                  refine TW.seq ?_
                  refine TW.sreg ?_
                  refine WL.op rfl rfl rfl (Go.Proofs.YtlagdgkjpnocfaaGreatDoor.W.quiet_move rfl rfl) ?_
                  refine WL.op rfl rfl rfl (Go.Proofs.YtlagdgkjpnocfaaGreatDoor.W.quiet_move rfl rfl) ?_
                  refine WL.op rfl rfl rfl (Go.Proofs.YtlagdgkjpnocfaaGreatDoor.W.quiet_bin rfl rfl rfl (fun W => qb_lss_uint64 W _ _ _ _)) ?_
                  refine O.split (fun hb => by exfalso; revert hb; first | (simp; done) | (simp; omega)) (fun hb => ?_)
                  refine WL.op rfl rfl rfl (Go.Proofs.YtlagdgkjpnocfaaGreatDoor.W.quiet_move rfl rfl) ?_
                  refine WL.op rfl rfl rfl (Go.Proofs.YtlagdgkjpnocfaaGreatDoor.W.quiet_move rfl rfl) ?_
                  refine WL.op rfl rfl rfl (Go.Proofs.YtlagdgkjpnocfaaGreatDoor.W.quiet_move rfl rfl) ?_
                  refine WL.op rfl rfl rfl (Go.Proofs.YtlagdgkjpnocfaaGreatDoor.W.quiet_bin rfl rfl rfl (fun W => qb_gtr_uint64 W _ _ _ _)) ?_
                  refine O.split (fun hb9 => ?_) (fun hb9 => ?_)
                  · skip
                    refine WL.op rfl rfl rfl (Go.Proofs.YtlagdgkjpnocfaaGreatDoor.W.quiet_pick rfl rfl rfl) ?_
                    refine WL.nil ?_
                    refine TW.cond rfl (fun _ => ?_) (fun hb => by cases hb)
                    refine TW.sreg ?_
                    refine WL.op rfl rfl rfl (Go.Proofs.YtlagdgkjpnocfaaGreatDoor.W.quiet_move rfl rfl) ?_
                    refine O.mi rfl rfl rfl rfl rfl (qm_strconv_Error _ _) ?_
                    refine WL.op rfl rfl rfl (Go.Proofs.YtlagdgkjpnocfaaGreatDoor.W.quiet_assign rfl rfl) ?_
                    refine WL.op rfl rfl rfl (Go.Proofs.YtlagdgkjpnocfaaGreatDoor.W.quiet_assign rfl rfl) ?_
                    refine WL.nil ?_
                    refine TW.rt ?_
                    refine Xw.thn (by simp) ?_
                    refine Xw.rblk ?_
                    refine Xw.thn (by simp) ?_
                    refine Xw.thn (by simp) ?_
                    refine Xw.rblk ?_
                    refine Xw.thn (by simp) ?_
                    refine O.ret2 rfl rfl rfl ?_
                    have hbb := of_decide_eq_true hb9
                    have q : puT s = (4294967295, 1) := by
                      rw [hpu, hp, drop_at s j hjl]
                      unfold pU
                      simp only [show s[j] = c from hc.symm, hdv]
                      rw [if_neg hd16, if_pos (by omega)]
                    exact ⟨by rw [q]; rfl, ff⟩
                  · skip
                    have hbb := of_decide_eq_false hb9
                    refine WL.op rfl rfl rfl (Go.Proofs.YtlagdgkjpnocfaaGreatDoor.W.quiet_pick rfl rfl rfl) ?_
                    refine WL.nil ?_
                    refine TW.cond rfl (fun hb => by cases hb) (fun _ => ?_)
                    refine TW.skip ?_
                    refine TW.reg ?_
                    refine WL.op rfl rfl rfl (Go.Proofs.YtlagdgkjpnocfaaGreatDoor.W.quiet_move rfl rfl) ?_
                    refine WL.op rfl rfl rfl (Go.Proofs.YtlagdgkjpnocfaaGreatDoor.W.quiet_assign rfl rfl) ?_
                    refine WL.end ?_
                    refine Xw.nblk ?_
                    refine Xw.nrm ?_
                    refine TW.reg ?_
                    refine WL.op rfl rfl rfl (Go.Proofs.YtlagdgkjpnocfaaGreatDoor.W.quiet_bin rfl rfl rfl (fun W => qb_add_int W _ _ _ _ (by omega) (by omega))) ?_
                    refine WL.op rfl rfl rfl (Go.Proofs.YtlagdgkjpnocfaaGreatDoor.W.quiet_move rfl rfl) ?_
                    refine WL.end ?_
                    refine Xw.any (fun a k => ?_)
                    refine ⟨j + 1, by omega, by omega, n * 16 + d, by (repeat (refine Kn.cons k rfl ?_)); exact k.base, rfl, by omega, ?_⟩
                    rw [hp, drop_at s j hjl]
                    conv => lhs; unfold pU
                    simp only [show s[j] = c from hc.symm, hdv]
                    rw [if_neg hd16, if_neg (by omega)]
              · skip
                have h122 : ¬ lw c ≤ 122 := of_decide_eq_false hb5
                have hdv : dvH c = none := by unfold dvH; rw [if_neg (by omega), if_neg (fun h => h122 h.2)]
                refine WL.op rfl rfl rfl (Go.Proofs.YtlagdgkjpnocfaaGreatDoor.W.quiet_pick rfl rfl rfl) ?_
                refine WL.op rfl rfl rfl (Go.Proofs.YtlagdgkjpnocfaaGreatDoor.W.quiet_assign rfl rfl) ?_
                refine WL.nil ?_
                refine TW.cond rfl (fun hb => by cases hb) (fun _ => ?_)
                refine TW.sreg ?_
                refine O.mi rfl rfl rfl rfl rfl (qm_strconv_Error _ _) ?_
                refine WL.op rfl rfl rfl (Go.Proofs.YtlagdgkjpnocfaaGreatDoor.W.quiet_assign rfl rfl) ?_
                refine WL.op rfl rfl rfl (Go.Proofs.YtlagdgkjpnocfaaGreatDoor.W.quiet_assign rfl rfl) ?_
                refine WL.nil ?_
                refine TW.rt ?_
                refine Xw.rblk ?_
                refine Xw.thn (by simp) ?_
                refine Xw.rblk ?_
                refine Xw.thn (by simp) ?_
                refine Xw.thn (by simp) ?_
                refine Xw.rblk ?_
                refine Xw.thn (by simp) ?_
                refine O.ret2 rfl rfl rfl ?_
                have q : puT s = (0, 2) := by
                  rw [hpu, hp, drop_at s j hjl]
                  unfold pU
                  simp only [show s[j] = c from hc.symm, hdv]
                exact ⟨by rw [q]; rfl, ff⟩
            · skip
              have h97 : ¬ 97 ≤ lw c := of_decide_eq_false hb4
              have hdv : dvH c = none := by unfold dvH; rw [if_neg (by omega), if_neg (fun h => h97 h.1)]
              refine WL.op rfl rfl rfl (Go.Proofs.YtlagdgkjpnocfaaGreatDoor.W.quiet_move rfl rfl) ?_
              refine WL.skip rfl rfl rfl ?_
              refine WL.skip rfl rfl rfl ?_
              refine WL.skip rfl rfl rfl ?_
              refine WL.op rfl rfl rfl (Go.Proofs.YtlagdgkjpnocfaaGreatDoor.W.quiet_pick rfl rfl rfl) ?_
              refine WL.op rfl rfl rfl (Go.Proofs.YtlagdgkjpnocfaaGreatDoor.W.quiet_assign rfl rfl) ?_
              refine WL.nil ?_
              refine TW.cond rfl (fun hb => by cases hb) (fun _ => ?_)
              refine TW.sreg ?_
              refine O.mi rfl rfl rfl rfl rfl (qm_strconv_Error _ _) ?_
              refine WL.op rfl rfl rfl (Go.Proofs.YtlagdgkjpnocfaaGreatDoor.W.quiet_assign rfl rfl) ?_
              refine WL.op rfl rfl rfl (Go.Proofs.YtlagdgkjpnocfaaGreatDoor.W.quiet_assign rfl rfl) ?_
              refine WL.nil ?_
              refine TW.rt ?_
              refine Xw.rblk ?_
              refine Xw.thn (by simp) ?_
              refine Xw.rblk ?_
              refine Xw.thn (by simp) ?_
              refine Xw.thn (by simp) ?_
              refine Xw.rblk ?_
              refine Xw.thn (by simp) ?_
              refine O.ret2 rfl rfl rfl ?_
              have q : puT s = (0, 2) := by
                rw [hpu, hp, drop_at s j hjl]
                unfold pU
                simp only [show s[j] = c from hc.symm, hdv]
              exact ⟨by rw [q]; rfl, ff⟩
        · skip
          have h48 := of_decide_eq_false hb2
          refine WL.op rfl rfl rfl (Go.Proofs.YtlagdgkjpnocfaaGreatDoor.W.quiet_move rfl rfl) ?_
          refine WL.skip rfl rfl rfl ?_
          refine WL.skip rfl rfl rfl ?_
          refine WL.op rfl rfl rfl (Go.Proofs.YtlagdgkjpnocfaaGreatDoor.W.quiet_pick rfl rfl rfl) ?_
          refine WL.op rfl rfl rfl (Go.Proofs.YtlagdgkjpnocfaaGreatDoor.W.quiet_assign rfl rfl) ?_
          refine WL.nil ?_
          refine TW.cond rfl (fun hb => by cases hb) (fun _ => ?_)
          refine TW.sreg ?_
          refine WL.op rfl rfl rfl (Go.Proofs.YtlagdgkjpnocfaaGreatDoor.W.quiet_move rfl rfl) ?_
          refine WL.call (hr := (Tryz.internal_strconv_lower (c.toNat : Int) w2)) rfl rfl rfl rfl rfl (fun W => qk_internal_strconv_lower W _) ?_
          rintro e wz ⟨rfl, hwz⟩
          refine ⟨_, rfl, ?_⟩
          obtain rfl := hwz.symm
          refine WL.op rfl rfl rfl (Go.Proofs.YtlagdgkjpnocfaaGreatDoor.W.quiet_bin rfl rfl rfl (fun W => qb_leq_uint8 W _ _ _ _)) ?_
          refine O.split (fun hb4 => ?_) (fun hb4 => ?_)
          · skip
            refine WL.op rfl rfl rfl (Go.Proofs.YtlagdgkjpnocfaaGreatDoor.W.quiet_move rfl rfl) ?_
            refine WL.op rfl rfl rfl (Go.Proofs.YtlagdgkjpnocfaaGreatDoor.W.quiet_move rfl rfl) ?_
            refine WL.call (hr := (Tryz.internal_strconv_lower (c.toNat : Int) w2)) rfl rfl rfl rfl rfl (fun W => qk_internal_strconv_lower W _) ?_
            rintro e wz ⟨rfl, hwz⟩
            refine ⟨_, rfl, ?_⟩
            obtain rfl := hwz.symm
            refine WL.op rfl rfl rfl (Go.Proofs.YtlagdgkjpnocfaaGreatDoor.W.quiet_bin rfl rfl rfl (fun W => qb_leq_uint8 W _ _ _ _)) ?_
            refine O.split (fun hb5 => ?_) (fun hb5 => ?_)
            · skip
              have h97 : 97 ≤ lw c := of_decide_eq_true hb4
              have h122 : lw c ≤ 122 := of_decide_eq_true hb5
              have hdv : dvH c = some (lw c - 87).toNat := by unfold dvH; rw [if_neg (by omega), if_pos ⟨h97, h122⟩]
              obtain ⟨d, hd⟩ : ∃ d : Nat, lw c - 97 + 10 = (d : Int) := ⟨(lw c - 87).toNat, by omega⟩
              rw [show (lw c - 87).toNat = d by omega] at hdv
              refine WL.op rfl rfl rfl (Go.Proofs.YtlagdgkjpnocfaaGreatDoor.W.quiet_pick rfl rfl rfl) ?_
              refine WL.op rfl rfl rfl (Go.Proofs.YtlagdgkjpnocfaaGreatDoor.W.quiet_assign rfl rfl) ?_
              refine WL.nil ?_
              refine TW.cond rfl (fun _ => ?_) (fun hb => by cases hb)
              refine TW.reg ?_
              refine WL.op rfl rfl rfl (Go.Proofs.YtlagdgkjpnocfaaGreatDoor.W.quiet_move rfl rfl) ?_
              refine WL.call (hr := (Tryz.internal_strconv_lower (c.toNat : Int) w2)) rfl rfl rfl rfl rfl (fun W => qk_internal_strconv_lower W _) ?_
              rintro e wz ⟨rfl, hwz⟩
              refine ⟨_, rfl, ?_⟩
              obtain rfl := hwz.symm
              refine WL.op rfl rfl rfl (Go.Proofs.YtlagdgkjpnocfaaGreatDoor.W.quiet_bin rfl rfl rfl (fun W => qb_sub_uint8 W _ _ (lw c) _ (by omega) (by omega))) ?_
              refine WL.op rfl rfl rfl (Go.Proofs.YtlagdgkjpnocfaaGreatDoor.W.quiet_bin rfl rfl rfl (fun W => (qb_add_uint8 W _ _ _ _ (by omega) (by omega)).trans (by rw [hd]))) ?_
              refine WL.op rfl rfl rfl (Go.Proofs.YtlagdgkjpnocfaaGreatDoor.W.quiet_assign rfl rfl) ?_
              refine WL.end ?_
              refine Xw.nblk ?_
              refine Xw.nrm ?_
              refine TW.seq ?_
              refine TW.sreg ?_
              refine WL.op rfl rfl rfl (Go.Proofs.YtlagdgkjpnocfaaGreatDoor.W.quiet_move rfl rfl) ?_
              refine WL.op rfl rfl rfl (Go.Proofs.YtlagdgkjpnocfaaGreatDoor.W.quiet_move rfl rfl) ?_
              refine O.cv rfl rfl rfl rfl rfl (qc_int_uint8 _ _ (by omega) (by omega)) ?_
              refine WL.op rfl rfl rfl (Go.Proofs.YtlagdgkjpnocfaaGreatDoor.W.quiet_bin rfl rfl rfl (fun W => qb_geq_uint8 W _ _ _ _)) ?_
              refine O.split (fun hb => ?_) (fun hb => ?_)
              · skip
                refine WL.nil ?_
                refine TW.cond rfl (fun _ => ?_) (fun hb => by cases hb)
                refine TW.sreg ?_
                refine O.mi rfl rfl rfl rfl rfl (qm_strconv_Error _ _) ?_
                refine WL.op rfl rfl rfl (Go.Proofs.YtlagdgkjpnocfaaGreatDoor.W.quiet_assign rfl rfl) ?_
                refine WL.op rfl rfl rfl (Go.Proofs.YtlagdgkjpnocfaaGreatDoor.W.quiet_assign rfl rfl) ?_
                refine WL.nil ?_
                refine TW.rt ?_
                refine Xw.thn (by simp) ?_
                refine Xw.rblk ?_
                refine Xw.thn (by simp) ?_
                refine Xw.thn (by simp) ?_
                refine Xw.rblk ?_
                refine Xw.thn (by simp) ?_
                refine O.ret2 rfl rfl rfl ?_
                have q : puT s = (0, 2) := by
                  rw [hpu, hp, drop_at s j hjl]
                  unfold pU
                  simp only [show s[j] = c from hc.symm, hdv]
                  rw [if_pos (by have := of_decide_eq_true hb; omega)]
                exact ⟨by rw [q]; rfl, ff⟩
              · skip
                have hd16 : ¬ 16 ≤ d := by have := of_decide_eq_false hb; omega
                have hn2 : (n : Int) * 16 + (d : Int) = ((n * 16 + d : Nat) : Int) := by omega
                refine WL.nil ?_
                refine TW.cond rfl (fun hb => by cases hb) (fun _ => ?_)
                refine TW.skip ?_
                refine TW.seq ?_
                refine TW.sreg ?_
                refine WL.op rfl rfl rfl (Go.Proofs.YtlagdgkjpnocfaaGreatDoor.W.quiet_move rfl rfl) ?_
                refine WL.op rfl rfl rfl (Go.Proofs.YtlagdgkjpnocfaaGreatDoor.W.quiet_move rfl rfl) ?_
                refine WL.op rfl rfl rfl (Go.Proofs.YtlagdgkjpnocfaaGreatDoor.W.quiet_bin rfl rfl rfl (fun W => qb_geq_uint64 W _ _ _ _)) ?_
                refine O.split (fun hb => by exfalso; revert hb; first | (simp; done) | (simp; omega)) (fun hb => ?_)
                refine WL.nil ?_
                refine TW.cond rfl (fun hb => by cases hb) (fun _ => ?_)
                refine TW.skip ?_
                refine TW.sreg ?_
                refine WL.op rfl rfl rfl (Go.Proofs.YtlagdgkjpnocfaaGreatDoor.W.quiet_move rfl rfl) ?_
                refine WL.op rfl rfl rfl (Go.Proofs.YtlagdgkjpnocfaaGreatDoor.W.quiet_move rfl rfl) ?_
                refine O.cv rfl rfl rfl rfl rfl (qc_int_uint64 _ _ (by omega) (by omega)) ?_
                refine WL.op rfl rfl rfl (Go.Proofs.YtlagdgkjpnocfaaGreatDoor.W.quiet_bin rfl rfl rfl (fun W => qb_mul_uint64 W _ _ _ _ (by omega) (by omega))) ?_
                refine WL.op rfl rfl rfl (Go.Proofs.YtlagdgkjpnocfaaGreatDoor.W.quiet_assign rfl rfl) ?_
                refine WL.nil ?_
                refine TW.sreg ?_
                refine WL.op rfl rfl rfl (Go.Proofs.YtlagdgkjpnocfaaGreatDoor.W.quiet_move rfl rfl) ?_
                refine WL.op rfl rfl rfl (Go.Proofs.YtlagdgkjpnocfaaGreatDoor.W.quiet_move rfl rfl) ?_
                refine O.cv rfl rfl rfl rfl rfl (qc_uint8_uint64 _ _ (by omega) (by omega)) ?_
                refine WL.op rfl rfl rfl (Go.Proofs.YtlagdgkjpnocfaaGreatDoor.W.quiet_bin rfl rfl rfl (fun W => (qb_add_uint64 W _ _ _ _ (by omega) (by omega)).trans (by rw [hn2]))) ?_
                refine WL.op rfl rfl rfl (Go.Proofs.YtlagdgkjpnocfaaGreatDoor.W.quiet_assign rfl rfl) ?_
                refine WL.nil ?_
                refine TW.seq ?_
                refine TW.sreg ?_
                refine WL.op rfl rfl rfl (Go.Proofs.YtlagdgkjpnocfaaGreatDoor.W.quiet_move rfl rfl) ?_
                refine WL.op rfl rfl rfl (Go.Proofs.YtlagdgkjpnocfaaGreatDoor.W.quiet_move rfl rfl) ?_
                refine WL.op rfl rfl rfl (Go.Proofs.YtlagdgkjpnocfaaGreatDoor.W.quiet_bin rfl rfl rfl (fun W => qb_lss_uint64 W _ _ _ _)) ?_
                refine O.split (fun hb => by exfalso; revert hb; first | (simp; done) | (simp; omega)) (fun hb => ?_)
                refine WL.op rfl rfl rfl (Go.Proofs.YtlagdgkjpnocfaaGreatDoor.W.quiet_move rfl rfl) ?_
                refine WL.op rfl rfl rfl (Go.Proofs.YtlagdgkjpnocfaaGreatDoor.W.quiet_move rfl rfl) ?_
                refine WL.op rfl rfl rfl (Go.Proofs.YtlagdgkjpnocfaaGreatDoor.W.quiet_move rfl rfl) ?_
                refine WL.op rfl rfl rfl (Go.Proofs.YtlagdgkjpnocfaaGreatDoor.W.quiet_bin rfl rfl rfl (fun W => qb_gtr_uint64 W _ _ _ _)) ?_
                refine O.split (fun hb9 => ?_) (fun hb9 => ?_)
                · skip
                  refine WL.op rfl rfl rfl (Go.Proofs.YtlagdgkjpnocfaaGreatDoor.W.quiet_pick rfl rfl rfl) ?_
                  refine WL.nil ?_
                  refine TW.cond rfl (fun _ => ?_) (fun hb => by cases hb)
                  refine TW.sreg ?_
                  refine WL.op rfl rfl rfl (Go.Proofs.YtlagdgkjpnocfaaGreatDoor.W.quiet_move rfl rfl) ?_
                  refine O.mi rfl rfl rfl rfl rfl (qm_strconv_Error _ _) ?_
                  refine WL.op rfl rfl rfl (Go.Proofs.YtlagdgkjpnocfaaGreatDoor.W.quiet_assign rfl rfl) ?_
                  refine WL.op rfl rfl rfl (Go.Proofs.YtlagdgkjpnocfaaGreatDoor.W.quiet_assign rfl rfl) ?_
                  refine WL.nil ?_
                  refine TW.rt ?_
                  refine Xw.thn (by simp) ?_
                  refine Xw.rblk ?_
                  refine Xw.thn (by simp) ?_
                  refine Xw.thn (by simp) ?_
                  refine Xw.rblk ?_
                  refine Xw.thn (by simp) ?_
                  refine O.ret2 rfl rfl rfl ?_
                  have hbb := of_decide_eq_true hb9
                  have q : puT s = (4294967295, 1) := by
                    rw [hpu, hp, drop_at s j hjl]
                    unfold pU
                    simp only [show s[j] = c from hc.symm, hdv]
                    rw [if_neg hd16, if_pos (by omega)]
                  exact ⟨by rw [q]; rfl, ff⟩
                · skip
                  have hbb := of_decide_eq_false hb9
                  refine WL.op rfl rfl rfl (Go.Proofs.YtlagdgkjpnocfaaGreatDoor.W.quiet_pick rfl rfl rfl) ?_
                  refine WL.nil ?_
                  refine TW.cond rfl (fun hb => by cases hb) (fun _ => ?_)
                  refine TW.skip ?_
                  refine TW.reg ?_
                  refine WL.op rfl rfl rfl (Go.Proofs.YtlagdgkjpnocfaaGreatDoor.W.quiet_move rfl rfl) ?_
                  refine WL.op rfl rfl rfl (Go.Proofs.YtlagdgkjpnocfaaGreatDoor.W.quiet_assign rfl rfl) ?_
                  refine WL.end ?_
                  refine Xw.nblk ?_
                  refine Xw.nrm ?_
                  refine TW.reg ?_
                  refine WL.op rfl rfl rfl (Go.Proofs.YtlagdgkjpnocfaaGreatDoor.W.quiet_bin rfl rfl rfl (fun W => qb_add_int W _ _ _ _ (by omega) (by omega))) ?_
                  refine WL.op rfl rfl rfl (Go.Proofs.YtlagdgkjpnocfaaGreatDoor.W.quiet_move rfl rfl) ?_
                  refine WL.end ?_
                  refine Xw.any (fun a k => ?_)
                  refine ⟨j + 1, by omega, by omega, n * 16 + d, by (repeat (refine Kn.cons k rfl ?_)); exact k.base, rfl, by omega, ?_⟩
                  rw [hp, drop_at s j hjl]
                  conv => lhs; unfold pU
                  simp only [show s[j] = c from hc.symm, hdv]
                  rw [if_neg hd16, if_neg (by omega)]
            · skip
              have h122 : ¬ lw c ≤ 122 := of_decide_eq_false hb5
              have hdv : dvH c = none := by unfold dvH; rw [if_neg (by omega), if_neg (fun h => h122 h.2)]
              refine WL.op rfl rfl rfl (Go.Proofs.YtlagdgkjpnocfaaGreatDoor.W.quiet_pick rfl rfl rfl) ?_
              refine WL.op rfl rfl rfl (Go.Proofs.YtlagdgkjpnocfaaGreatDoor.W.quiet_assign rfl rfl) ?_
              refine WL.nil ?_
              refine TW.cond rfl (fun hb => by cases hb) (fun _ => ?_)
              refine TW.sreg ?_
              refine O.mi rfl rfl rfl rfl rfl (qm_strconv_Error _ _) ?_
              refine WL.op rfl rfl rfl (Go.Proofs.YtlagdgkjpnocfaaGreatDoor.W.quiet_assign rfl rfl) ?_
              refine WL.op rfl rfl rfl (Go.Proofs.YtlagdgkjpnocfaaGreatDoor.W.quiet_assign rfl rfl) ?_
              refine WL.nil ?_
              refine TW.rt ?_
              refine Xw.rblk ?_
              refine Xw.thn (by simp) ?_
              refine Xw.rblk ?_
              refine Xw.thn (by simp) ?_
              refine Xw.thn (by simp) ?_
              refine Xw.rblk ?_
              refine Xw.thn (by simp) ?_
              refine O.ret2 rfl rfl rfl ?_
              have q : puT s = (0, 2) := by
                rw [hpu, hp, drop_at s j hjl]
                unfold pU
                simp only [show s[j] = c from hc.symm, hdv]
              exact ⟨by rw [q]; rfl, ff⟩
          · skip
            have h97 : ¬ 97 ≤ lw c := of_decide_eq_false hb4
            have hdv : dvH c = none := by unfold dvH; rw [if_neg (by omega), if_neg (fun h => h97 h.1)]
            refine WL.op rfl rfl rfl (Go.Proofs.YtlagdgkjpnocfaaGreatDoor.W.quiet_move rfl rfl) ?_
            refine WL.skip rfl rfl rfl ?_
            refine WL.skip rfl rfl rfl ?_
            refine WL.skip rfl rfl rfl ?_
            refine WL.op rfl rfl rfl (Go.Proofs.YtlagdgkjpnocfaaGreatDoor.W.quiet_pick rfl rfl rfl) ?_
            refine WL.op rfl rfl rfl (Go.Proofs.YtlagdgkjpnocfaaGreatDoor.W.quiet_assign rfl rfl) ?_
            refine WL.nil ?_
            refine TW.cond rfl (fun hb => by cases hb) (fun _ => ?_)
            refine TW.sreg ?_
            refine O.mi rfl rfl rfl rfl rfl (qm_strconv_Error _ _) ?_
            refine WL.op rfl rfl rfl (Go.Proofs.YtlagdgkjpnocfaaGreatDoor.W.quiet_assign rfl rfl) ?_
            refine WL.op rfl rfl rfl (Go.Proofs.YtlagdgkjpnocfaaGreatDoor.W.quiet_assign rfl rfl) ?_
            refine WL.nil ?_
            refine TW.rt ?_
            refine Xw.rblk ?_
            refine Xw.thn (by simp) ?_
            refine Xw.rblk ?_
            refine Xw.thn (by simp) ?_
            refine Xw.thn (by simp) ?_
            refine Xw.rblk ?_
            refine Xw.thn (by simp) ?_
            refine O.ret2 rfl rfl rfl ?_
            have q : puT s = (0, 2) := by
              rw [hpu, hp, drop_at s j hjl]
              unfold pU
              simp only [show s[j] = c from hc.symm, hdv]
            exact ⟨by rw [q]; rfl, ff⟩
      · skip
        refine WL.op rfl rfl rfl (Go.Proofs.YtlagdgkjpnocfaaGreatDoor.W.quiet_move rfl rfl) ?_
        refine WL.skip rfl rfl rfl ?_
        refine WL.op rfl rfl rfl (Go.Proofs.YtlagdgkjpnocfaaGreatDoor.W.quiet_pick rfl rfl rfl) ?_
        refine WL.op rfl rfl rfl (Go.Proofs.YtlagdgkjpnocfaaGreatDoor.W.quiet_assign rfl rfl) ?_
        refine WL.nil ?_
        refine TW.cond rfl (fun hb => by cases hb) (fun _ => ?_)
        refine TW.sreg ?_
        refine WL.op rfl rfl rfl (Go.Proofs.YtlagdgkjpnocfaaGreatDoor.W.quiet_move rfl rfl) ?_
        refine WL.op rfl rfl rfl (Go.Proofs.YtlagdgkjpnocfaaGreatDoor.W.quiet_bin rfl rfl rfl (fun W => qb_leq_uint8 W _ _ _ _)) ?_
        refine O.split (fun hb2 => ?_) (fun hb2 => ?_)
        · skip
          refine WL.op rfl rfl rfl (Go.Proofs.YtlagdgkjpnocfaaGreatDoor.W.quiet_move rfl rfl) ?_
          refine WL.op rfl rfl rfl (Go.Proofs.YtlagdgkjpnocfaaGreatDoor.W.quiet_move rfl rfl) ?_
          refine WL.op rfl rfl rfl (Go.Proofs.YtlagdgkjpnocfaaGreatDoor.W.quiet_bin rfl rfl rfl (fun W => qb_leq_uint8 W _ _ _ _)) ?_
          refine O.split (fun hb3 => ?_) (fun hb3 => ?_)
          · skip
            have h48 := of_decide_eq_true hb2
            have h57 := of_decide_eq_true hb3
            have hdv : dvH c = some (c.toNat - 48) := by unfold dvH; rw [if_pos (by omega)]
            obtain ⟨d, hd⟩ : ∃ d : Nat, (c.toNat : Int) - 48 = (d : Int) := ⟨c.toNat - 48, by omega⟩
            rw [show c.toNat - 48 = d by omega] at hdv
            refine WL.op rfl rfl rfl (Go.Proofs.YtlagdgkjpnocfaaGreatDoor.W.quiet_pick rfl rfl rfl) ?_
            refine WL.op rfl rfl rfl (Go.Proofs.YtlagdgkjpnocfaaGreatDoor.W.quiet_assign rfl rfl) ?_
            refine WL.nil ?_
            refine TW.cond rfl (fun _ => ?_) (fun hb => by cases hb)
            refine TW.reg ?_
            refine WL.op rfl rfl rfl (Go.Proofs.YtlagdgkjpnocfaaGreatDoor.W.quiet_move rfl rfl) ?_
            refine WL.op rfl rfl rfl (Go.Proofs.YtlagdgkjpnocfaaGreatDoor.W.quiet_bin rfl rfl rfl (fun W => (qb_sub_uint8 W _ _ _ _ (by omega) (by omega)).trans (by rw [hd]))) ?_
            refine WL.op rfl rfl rfl (Go.Proofs.YtlagdgkjpnocfaaGreatDoor.W.quiet_assign rfl rfl) ?_
            refine WL.end ?_
            refine Xw.nblk ?_
            refine Xw.nrm ?_
            refine TW.seq ?_
            refine TW.sreg ?_
            refine WL.op rfl rfl rfl (Go.Proofs.YtlagdgkjpnocfaaGreatDoor.W.quiet_move rfl rfl) ?_
            refine WL.op rfl rfl rfl (Go.Proofs.YtlagdgkjpnocfaaGreatDoor.W.quiet_move rfl rfl) ?_
            refine O.cv rfl rfl rfl rfl rfl (qc_int_uint8 _ _ (by omega) (by omega)) ?_
            refine WL.op rfl rfl rfl (Go.Proofs.YtlagdgkjpnocfaaGreatDoor.W.quiet_bin rfl rfl rfl (fun W => qb_geq_uint8 W _ _ _ _)) ?_
            refine O.split (fun hb => ?_) (fun hb => ?_)
            · skip
              refine WL.nil ?_
              refine TW.cond rfl (fun _ => ?_) (fun hb => by cases hb)
              refine TW.sreg ?_
              refine O.mi rfl rfl rfl rfl rfl (qm_strconv_Error _ _) ?_
              refine WL.op rfl rfl rfl (Go.Proofs.YtlagdgkjpnocfaaGreatDoor.W.quiet_assign rfl rfl) ?_
              refine WL.op rfl rfl rfl (Go.Proofs.YtlagdgkjpnocfaaGreatDoor.W.quiet_assign rfl rfl) ?_
              refine WL.nil ?_
              refine TW.rt ?_
              refine Xw.thn (by simp) ?_
              refine Xw.rblk ?_
              refine Xw.thn (by simp) ?_
              refine Xw.thn (by simp) ?_
              refine Xw.rblk ?_
              refine Xw.thn (by simp) ?_
              refine O.ret2 rfl rfl rfl ?_
              have q : puT s = (0, 2) := by
                rw [hpu, hp, drop_at s j hjl]
                unfold pU
                simp only [show s[j] = c from hc.symm, hdv]
                rw [if_pos (by have := of_decide_eq_true hb; omega)]
              exact ⟨by rw [q]; rfl, ff⟩
            · skip
              have hd16 : ¬ 16 ≤ d := by have := of_decide_eq_false hb; omega
              have hn2 : (n : Int) * 16 + (d : Int) = ((n * 16 + d : Nat) : Int) := by omega
              refine WL.nil ?_
              refine TW.cond rfl (fun hb => by cases hb) (fun _ => ?_)
              refine TW.skip ?_
              refine TW.seq ?_
              refine TW.sreg ?_
              refine WL.op rfl rfl rfl (Go.Proofs.YtlagdgkjpnocfaaGreatDoor.W.quiet_move rfl rfl) ?_
              refine WL.op rfl rfl rfl (Go.Proofs.YtlagdgkjpnocfaaGreatDoor.W.quiet_move rfl rfl) ?_
              refine WL.op rfl rfl rfl (Go.Proofs.YtlagdgkjpnocfaaGreatDoor.W.quiet_bin rfl rfl rfl (fun W => qb_geq_uint64 W _ _ _ _)) ?_
              refine O.split (fun hb => by exfalso; revert hb; first | (simp; done) | (simp; omega)) (fun hb => ?_)
              refine WL.nil ?_
              refine TW.cond rfl (fun hb => by cases hb) (fun _ => ?_)
              refine TW.skip ?_
              refine TW.sreg ?_
              refine WL.op rfl rfl rfl (Go.Proofs.YtlagdgkjpnocfaaGreatDoor.W.quiet_move rfl rfl) ?_
              refine WL.op rfl rfl rfl (Go.Proofs.YtlagdgkjpnocfaaGreatDoor.W.quiet_move rfl rfl) ?_
              refine O.cv rfl rfl rfl rfl rfl (qc_int_uint64 _ _ (by omega) (by omega)) ?_
              refine WL.op rfl rfl rfl (Go.Proofs.YtlagdgkjpnocfaaGreatDoor.W.quiet_bin rfl rfl rfl (fun W => qb_mul_uint64 W _ _ _ _ (by omega) (by omega))) ?_
              refine WL.op rfl rfl rfl (Go.Proofs.YtlagdgkjpnocfaaGreatDoor.W.quiet_assign rfl rfl) ?_
              refine WL.nil ?_
              refine TW.sreg ?_
              refine WL.op rfl rfl rfl (Go.Proofs.YtlagdgkjpnocfaaGreatDoor.W.quiet_move rfl rfl) ?_
              refine WL.op rfl rfl rfl (Go.Proofs.YtlagdgkjpnocfaaGreatDoor.W.quiet_move rfl rfl) ?_
              refine O.cv rfl rfl rfl rfl rfl (qc_uint8_uint64 _ _ (by omega) (by omega)) ?_
              refine WL.op rfl rfl rfl (Go.Proofs.YtlagdgkjpnocfaaGreatDoor.W.quiet_bin rfl rfl rfl (fun W => (qb_add_uint64 W _ _ _ _ (by omega) (by omega)).trans (by rw [hn2]))) ?_
              refine WL.op rfl rfl rfl (Go.Proofs.YtlagdgkjpnocfaaGreatDoor.W.quiet_assign rfl rfl) ?_
              refine WL.nil ?_
              refine TW.seq ?_
              refine TW.sreg ?_
              refine WL.op rfl rfl rfl (Go.Proofs.YtlagdgkjpnocfaaGreatDoor.W.quiet_move rfl rfl) ?_
              refine WL.op rfl rfl rfl (Go.Proofs.YtlagdgkjpnocfaaGreatDoor.W.quiet_move rfl rfl) ?_
              refine WL.op rfl rfl rfl (Go.Proofs.YtlagdgkjpnocfaaGreatDoor.W.quiet_bin rfl rfl rfl (fun W => qb_lss_uint64 W _ _ _ _)) ?_
              refine O.split (fun hb => by exfalso; revert hb; first | (simp; done) | (simp; omega)) (fun hb => ?_)
              refine WL.op rfl rfl rfl (Go.Proofs.YtlagdgkjpnocfaaGreatDoor.W.quiet_move rfl rfl) ?_
              refine WL.op rfl rfl rfl (Go.Proofs.YtlagdgkjpnocfaaGreatDoor.W.quiet_move rfl rfl) ?_
              refine WL.op rfl rfl rfl (Go.Proofs.YtlagdgkjpnocfaaGreatDoor.W.quiet_move rfl rfl) ?_
              refine WL.op rfl rfl rfl (Go.Proofs.YtlagdgkjpnocfaaGreatDoor.W.quiet_bin rfl rfl rfl (fun W => qb_gtr_uint64 W _ _ _ _)) ?_
              refine O.split (fun hb9 => ?_) (fun hb9 => ?_)
              · skip
                refine WL.op rfl rfl rfl (Go.Proofs.YtlagdgkjpnocfaaGreatDoor.W.quiet_pick rfl rfl rfl) ?_
                refine WL.nil ?_
                refine TW.cond rfl (fun _ => ?_) (fun hb => by cases hb)
                refine TW.sreg ?_
                refine WL.op rfl rfl rfl (Go.Proofs.YtlagdgkjpnocfaaGreatDoor.W.quiet_move rfl rfl) ?_
                refine O.mi rfl rfl rfl rfl rfl (qm_strconv_Error _ _) ?_
                refine WL.op rfl rfl rfl (Go.Proofs.YtlagdgkjpnocfaaGreatDoor.W.quiet_assign rfl rfl) ?_
                refine WL.op rfl rfl rfl (Go.Proofs.YtlagdgkjpnocfaaGreatDoor.W.quiet_assign rfl rfl) ?_
                refine WL.nil ?_
                refine TW.rt ?_
                refine Xw.thn (by simp) ?_
                refine Xw.rblk ?_
                refine Xw.thn (by simp) ?_
                refine Xw.thn (by simp) ?_
                refine Xw.rblk ?_
                refine Xw.thn (by simp) ?_
                refine O.ret2 rfl rfl rfl ?_
                have hbb := of_decide_eq_true hb9
                have q : puT s = (4294967295, 1) := by
                  rw [hpu, hp, drop_at s j hjl]
                  unfold pU
                  simp only [show s[j] = c from hc.symm, hdv]
                  rw [if_neg hd16, if_pos (by omega)]
                exact ⟨by rw [q]; rfl, ff⟩
              · skip
                have hbb := of_decide_eq_false hb9
                refine WL.op rfl rfl rfl (Go.Proofs.YtlagdgkjpnocfaaGreatDoor.W.quiet_pick rfl rfl rfl) ?_
                refine WL.nil ?_
                refine TW.cond rfl (fun hb => by cases hb) (fun _ => ?_)
                refine TW.skip ?_
                refine TW.reg ?_
                refine WL.op rfl rfl rfl (Go.Proofs.YtlagdgkjpnocfaaGreatDoor.W.quiet_move rfl rfl) ?_
                refine WL.op rfl rfl rfl (Go.Proofs.YtlagdgkjpnocfaaGreatDoor.W.quiet_assign rfl rfl) ?_
                refine WL.end ?_
                refine Xw.nblk ?_
                refine Xw.nrm ?_
                refine TW.reg ?_
                refine WL.op rfl rfl rfl (Go.Proofs.YtlagdgkjpnocfaaGreatDoor.W.quiet_bin rfl rfl rfl (fun W => qb_add_int W _ _ _ _ (by omega) (by omega))) ?_
                refine WL.op rfl rfl rfl (Go.Proofs.YtlagdgkjpnocfaaGreatDoor.W.quiet_move rfl rfl) ?_
                refine WL.end ?_
                refine Xw.any (fun a k => ?_)
                refine ⟨j + 1, by omega, by omega, n * 16 + d, by (repeat (refine Kn.cons k rfl ?_)); exact k.base, rfl, by omega, ?_⟩
                rw [hp, drop_at s j hjl]
                conv => lhs; unfold pU
                simp only [show s[j] = c from hc.symm, hdv]
                rw [if_neg hd16, if_neg (by omega)]
          · skip
            have h57 := of_decide_eq_false hb3
            refine WL.op rfl rfl rfl (Go.Proofs.YtlagdgkjpnocfaaGreatDoor.W.quiet_pick rfl rfl rfl) ?_
            refine WL.op rfl rfl rfl (Go.Proofs.YtlagdgkjpnocfaaGreatDoor.W.quiet_assign rfl rfl) ?_
            refine WL.nil ?_
            refine TW.cond rfl (fun hb => by cases hb) (fun _ => ?_)
            refine TW.sreg ?_
            refine WL.op rfl rfl rfl (Go.Proofs.YtlagdgkjpnocfaaGreatDoor.W.quiet_move rfl rfl) ?_
            refine WL.call (hr := (Tryz.internal_strconv_lower (c.toNat : Int) w2)) rfl rfl rfl rfl rfl (fun W => qk_internal_strconv_lower W _) ?_
            rintro e wz ⟨rfl, hwz⟩
            refine ⟨_, rfl, ?_⟩
            obtain rfl := hwz.symm
            refine WL.op rfl rfl rfl (Go.Proofs.YtlagdgkjpnocfaaGreatDoor.W.quiet_bin rfl rfl rfl (fun W => qb_leq_uint8 W _ _ _ _)) ?_
            refine O.split (fun hb4 => ?_) (fun hb4 => ?_)
            · skip
              refine WL.op rfl rfl rfl (Go.Proofs.YtlagdgkjpnocfaaGreatDoor.W.quiet_move rfl rfl) ?_
              refine WL.op rfl rfl rfl (Go.Proofs.YtlagdgkjpnocfaaGreatDoor.W.quiet_move rfl rfl) ?_
              refine WL.call (hr := (Tryz.internal_strconv_lower (c.toNat : Int) w2)) rfl rfl rfl rfl rfl (fun W => qk_internal_strconv_lower W _) ?_
              rintro e wz ⟨rfl, hwz⟩
              refine ⟨_, rfl, ?_⟩
              obtain rfl := hwz.symm
              refine WL.op rfl rfl rfl (Go.Proofs.YtlagdgkjpnocfaaGreatDoor.W.quiet_bin rfl rfl rfl (fun W => qb_leq_uint8 W _ _ _ _)) ?_
              refine O.split (fun hb5 => ?_) (fun hb5 => ?_)
              · skip
                have h97 : 97 ≤ lw c := of_decide_eq_true hb4
                have h122 : lw c ≤ 122 := of_decide_eq_true hb5
                have hdv : dvH c = some (lw c - 87).toNat := by unfold dvH; rw [if_neg (by omega), if_pos ⟨h97, h122⟩]
                obtain ⟨d, hd⟩ : ∃ d : Nat, lw c - 97 + 10 = (d : Int) := ⟨(lw c - 87).toNat, by omega⟩
                rw [show (lw c - 87).toNat = d by omega] at hdv
                refine WL.op rfl rfl rfl (Go.Proofs.YtlagdgkjpnocfaaGreatDoor.W.quiet_pick rfl rfl rfl) ?_
                refine WL.op rfl rfl rfl (Go.Proofs.YtlagdgkjpnocfaaGreatDoor.W.quiet_assign rfl rfl) ?_
                refine WL.nil ?_
                refine TW.cond rfl (fun _ => ?_) (fun hb => by cases hb)
                refine TW.reg ?_
                refine WL.op rfl rfl rfl (Go.Proofs.YtlagdgkjpnocfaaGreatDoor.W.quiet_move rfl rfl) ?_
                refine WL.call (hr := (Tryz.internal_strconv_lower (c.toNat : Int) w2)) rfl rfl rfl rfl rfl (fun W => qk_internal_strconv_lower W _) ?_
                rintro e wz ⟨rfl, hwz⟩
                refine ⟨_, rfl, ?_⟩
                obtain rfl := hwz.symm
                refine WL.op rfl rfl rfl (Go.Proofs.YtlagdgkjpnocfaaGreatDoor.W.quiet_bin rfl rfl rfl (fun W => qb_sub_uint8 W _ _ (lw c) _ (by omega) (by omega))) ?_
                refine WL.op rfl rfl rfl (Go.Proofs.YtlagdgkjpnocfaaGreatDoor.W.quiet_bin rfl rfl rfl (fun W => (qb_add_uint8 W _ _ _ _ (by omega) (by omega)).trans (by rw [hd]))) ?_
                refine WL.op rfl rfl rfl (Go.Proofs.YtlagdgkjpnocfaaGreatDoor.W.quiet_assign rfl rfl) ?_
                refine WL.end ?_
                refine Xw.nblk ?_
                refine Xw.nrm ?_
                refine TW.seq ?_
                refine TW.sreg ?_
                refine WL.op rfl rfl rfl (Go.Proofs.YtlagdgkjpnocfaaGreatDoor.W.quiet_move rfl rfl) ?_
                refine WL.op rfl rfl rfl (Go.Proofs.YtlagdgkjpnocfaaGreatDoor.W.quiet_move rfl rfl) ?_
                refine O.cv rfl rfl rfl rfl rfl (qc_int_uint8 _ _ (by omega) (by omega)) ?_
                refine WL.op rfl rfl rfl (Go.Proofs.YtlagdgkjpnocfaaGreatDoor.W.quiet_bin rfl rfl rfl (fun W => qb_geq_uint8 W _ _ _ _)) ?_
                refine O.split (fun hb => ?_) (fun hb => ?_)
                · skip
                  refine WL.nil ?_
                  refine TW.cond rfl (fun _ => ?_) (fun hb => by cases hb)
                  refine TW.sreg ?_
                  refine O.mi rfl rfl rfl rfl rfl (qm_strconv_Error _ _) ?_
                  refine WL.op rfl rfl rfl (Go.Proofs.YtlagdgkjpnocfaaGreatDoor.W.quiet_assign rfl rfl) ?_
                  refine WL.op rfl rfl rfl (Go.Proofs.YtlagdgkjpnocfaaGreatDoor.W.quiet_assign rfl rfl) ?_
                  refine WL.nil ?_
                  refine TW.rt ?_
                  refine Xw.thn (by simp) ?_
                  refine Xw.rblk ?_
                  refine Xw.thn (by simp) ?_
                  refine Xw.thn (by simp) ?_
                  refine Xw.rblk ?_
                  refine Xw.thn (by simp) ?_
                  refine O.ret2 rfl rfl rfl ?_
                  have q : puT s = (0, 2) := by
                    rw [hpu, hp, drop_at s j hjl]
                    unfold pU
                    simp only [show s[j] = c from hc.symm, hdv]
                    rw [if_pos (by have := of_decide_eq_true hb; omega)]
                  exact ⟨by rw [q]; rfl, ff⟩
                · skip
                  have hd16 : ¬ 16 ≤ d := by have := of_decide_eq_false hb; omega
                  have hn2 : (n : Int) * 16 + (d : Int) = ((n * 16 + d : Nat) : Int) := by omega
                  refine WL.nil ?_
                  refine TW.cond rfl (fun hb => by cases hb) (fun _ => ?_)
                  refine TW.skip ?_
                  refine TW.seq ?_
                  refine TW.sreg ?_
                  refine WL.op rfl rfl rfl (Go.Proofs.YtlagdgkjpnocfaaGreatDoor.W.quiet_move rfl rfl) ?_
                  refine WL.op rfl rfl rfl (Go.Proofs.YtlagdgkjpnocfaaGreatDoor.W.quiet_move rfl rfl) ?_
                  refine WL.op rfl rfl rfl (Go.Proofs.YtlagdgkjpnocfaaGreatDoor.W.quiet_bin rfl rfl rfl (fun W => qb_geq_uint64 W _ _ _ _)) ?_
                  refine O.split (fun hb => by exfalso; revert hb; first | (simp; done) | (simp; omega)) (fun hb => ?_)
                  refine WL.nil ?_
                  refine TW.cond rfl (fun hb => by cases hb) (fun _ => ?_)
                  refine TW.skip ?_
                  refine TW.sreg ?_
                  refine WL.op rfl rfl rfl (Go.Proofs.YtlagdgkjpnocfaaGreatDoor.W.quiet_move rfl rfl) ?_
                  refine WL.op rfl rfl rfl (Go.Proofs.YtlagdgkjpnocfaaGreatDoor.W.quiet_move rfl rfl) ?_
                  refine O.cv rfl rfl rfl rfl rfl (qc_int_uint64 _ _ (by omega) (by omega)) ?_
                  refine WL.op rfl rfl rfl (Go.Proofs.YtlagdgkjpnocfaaGreatDoor.W.quiet_bin rfl rfl rfl (fun W => qb_mul_uint64 W _ _ _ _ (by omega) (by omega))) ?_
                  refine WL.op rfl rfl rfl (Go.Proofs.YtlagdgkjpnocfaaGreatDoor.W.quiet_assign rfl rfl) ?_
                  refine WL.nil ?_
                  refine TW.sreg ?_
                  refine WL.op rfl rfl rfl (Go.Proofs.YtlagdgkjpnocfaaGreatDoor.W.quiet_move rfl rfl) ?_
                  refine WL.op rfl rfl rfl (Go.Proofs.YtlagdgkjpnocfaaGreatDoor.W.quiet_move rfl rfl) ?_
                  refine O.cv rfl rfl rfl rfl rfl (qc_uint8_uint64 _ _ (by omega) (by omega)) ?_
                  refine WL.op rfl rfl rfl (Go.Proofs.YtlagdgkjpnocfaaGreatDoor.W.quiet_bin rfl rfl rfl (fun W => (qb_add_uint64 W _ _ _ _ (by omega) (by omega)).trans (by rw [hn2]))) ?_
                  refine WL.op rfl rfl rfl (Go.Proofs.YtlagdgkjpnocfaaGreatDoor.W.quiet_assign rfl rfl) ?_
                  refine WL.nil ?_
                  refine TW.seq ?_
                  refine TW.sreg ?_
                  refine WL.op rfl rfl rfl (Go.Proofs.YtlagdgkjpnocfaaGreatDoor.W.quiet_move rfl rfl) ?_
                  refine WL.op rfl rfl rfl (Go.Proofs.YtlagdgkjpnocfaaGreatDoor.W.quiet_move rfl rfl) ?_
                  refine WL.op rfl rfl rfl (Go.Proofs.YtlagdgkjpnocfaaGreatDoor.W.quiet_bin rfl rfl rfl (fun W => qb_lss_uint64 W _ _ _ _)) ?_
                  refine O.split (fun hb => by exfalso; revert hb; first | (simp; done) | (simp; omega)) (fun hb => ?_)
                  refine WL.op rfl rfl rfl (Go.Proofs.YtlagdgkjpnocfaaGreatDoor.W.quiet_move rfl rfl) ?_
                  refine WL.op rfl rfl rfl (Go.Proofs.YtlagdgkjpnocfaaGreatDoor.W.quiet_move rfl rfl) ?_
                  refine WL.op rfl rfl rfl (Go.Proofs.YtlagdgkjpnocfaaGreatDoor.W.quiet_move rfl rfl) ?_
                  refine WL.op rfl rfl rfl (Go.Proofs.YtlagdgkjpnocfaaGreatDoor.W.quiet_bin rfl rfl rfl (fun W => qb_gtr_uint64 W _ _ _ _)) ?_
                  refine O.split (fun hb9 => ?_) (fun hb9 => ?_)
                  · skip
                    refine WL.op rfl rfl rfl (Go.Proofs.YtlagdgkjpnocfaaGreatDoor.W.quiet_pick rfl rfl rfl) ?_
                    refine WL.nil ?_
                    refine TW.cond rfl (fun _ => ?_) (fun hb => by cases hb)
                    refine TW.sreg ?_
                    refine WL.op rfl rfl rfl (Go.Proofs.YtlagdgkjpnocfaaGreatDoor.W.quiet_move rfl rfl) ?_
                    refine O.mi rfl rfl rfl rfl rfl (qm_strconv_Error _ _) ?_
                    refine WL.op rfl rfl rfl (Go.Proofs.YtlagdgkjpnocfaaGreatDoor.W.quiet_assign rfl rfl) ?_
                    refine WL.op rfl rfl rfl (Go.Proofs.YtlagdgkjpnocfaaGreatDoor.W.quiet_assign rfl rfl) ?_
                    refine WL.nil ?_
                    refine TW.rt ?_
                    refine Xw.thn (by simp) ?_
                    refine Xw.rblk ?_
                    refine Xw.thn (by simp) ?_
                    refine Xw.thn (by simp) ?_
                    refine Xw.rblk ?_
                    refine Xw.thn (by simp) ?_
                    refine O.ret2 rfl rfl rfl ?_
                    have hbb := of_decide_eq_true hb9
                    have q : puT s = (4294967295, 1) := by
                      rw [hpu, hp, drop_at s j hjl]
                      unfold pU
                      simp only [show s[j] = c from hc.symm, hdv]
                      rw [if_neg hd16, if_pos (by omega)]
                    exact ⟨by rw [q]; rfl, ff⟩
                  · skip
                    have hbb := of_decide_eq_false hb9
                    refine WL.op rfl rfl rfl (Go.Proofs.YtlagdgkjpnocfaaGreatDoor.W.quiet_pick rfl rfl rfl) ?_
                    refine WL.nil ?_
                    refine TW.cond rfl (fun hb => by cases hb) (fun _ => ?_)
                    refine TW.skip ?_
                    refine TW.reg ?_
                    refine WL.op rfl rfl rfl (Go.Proofs.YtlagdgkjpnocfaaGreatDoor.W.quiet_move rfl rfl) ?_
                    refine WL.op rfl rfl rfl (Go.Proofs.YtlagdgkjpnocfaaGreatDoor.W.quiet_assign rfl rfl) ?_
                    refine WL.end ?_
                    refine Xw.nblk ?_
                    refine Xw.nrm ?_
                    refine TW.reg ?_
                    refine WL.op rfl rfl rfl (Go.Proofs.YtlagdgkjpnocfaaGreatDoor.W.quiet_bin rfl rfl rfl (fun W => qb_add_int W _ _ _ _ (by omega) (by omega))) ?_
                    refine WL.op rfl rfl rfl (Go.Proofs.YtlagdgkjpnocfaaGreatDoor.W.quiet_move rfl rfl) ?_
                    refine WL.end ?_
                    refine Xw.any (fun a k => ?_)
                    refine ⟨j + 1, by omega, by omega, n * 16 + d, by (repeat (refine Kn.cons k rfl ?_)); exact k.base, rfl, by omega, ?_⟩
                    rw [hp, drop_at s j hjl]
                    conv => lhs; unfold pU
                    simp only [show s[j] = c from hc.symm, hdv]
                    rw [if_neg hd16, if_neg (by omega)]
              · skip
                have h122 : ¬ lw c ≤ 122 := of_decide_eq_false hb5
                have hdv : dvH c = none := by unfold dvH; rw [if_neg (by omega), if_neg (fun h => h122 h.2)]
                refine WL.op rfl rfl rfl (Go.Proofs.YtlagdgkjpnocfaaGreatDoor.W.quiet_pick rfl rfl rfl) ?_
                refine WL.op rfl rfl rfl (Go.Proofs.YtlagdgkjpnocfaaGreatDoor.W.quiet_assign rfl rfl) ?_
                refine WL.nil ?_
                refine TW.cond rfl (fun hb => by cases hb) (fun _ => ?_)
                refine TW.sreg ?_
                refine O.mi rfl rfl rfl rfl rfl (qm_strconv_Error _ _) ?_
                refine WL.op rfl rfl rfl (Go.Proofs.YtlagdgkjpnocfaaGreatDoor.W.quiet_assign rfl rfl) ?_
                refine WL.op rfl rfl rfl (Go.Proofs.YtlagdgkjpnocfaaGreatDoor.W.quiet_assign rfl rfl) ?_
                refine WL.nil ?_
                refine TW.rt ?_
                refine Xw.rblk ?_
                refine Xw.thn (by simp) ?_
                refine Xw.rblk ?_
                refine Xw.thn (by simp) ?_
                refine Xw.thn (by simp) ?_
                refine Xw.rblk ?_
                refine Xw.thn (by simp) ?_
                refine O.ret2 rfl rfl rfl ?_
                have q : puT s = (0, 2) := by
                  rw [hpu, hp, drop_at s j hjl]
                  unfold pU
                  simp only [show s[j] = c from hc.symm, hdv]
                exact ⟨by rw [q]; rfl, ff⟩
            · skip
              have h97 : ¬ 97 ≤ lw c := of_decide_eq_false hb4
              have hdv : dvH c = none := by unfold dvH; rw [if_neg (by omega), if_neg (fun h => h97 h.1)]
              refine WL.op rfl rfl rfl (Go.Proofs.YtlagdgkjpnocfaaGreatDoor.W.quiet_move rfl rfl) ?_
              refine WL.skip rfl rfl rfl ?_
              refine WL.skip rfl rfl rfl ?_
              refine WL.skip rfl rfl rfl ?_
              refine WL.op rfl rfl rfl (Go.Proofs.YtlagdgkjpnocfaaGreatDoor.W.quiet_pick rfl rfl rfl) ?_
              refine WL.op rfl rfl rfl (Go.Proofs.YtlagdgkjpnocfaaGreatDoor.W.quiet_assign rfl rfl) ?_
              refine WL.nil ?_
              refine TW.cond rfl (fun hb => by cases hb) (fun _ => ?_)
              refine TW.sreg ?_
              refine O.mi rfl rfl rfl rfl rfl (qm_strconv_Error _ _) ?_
              refine WL.op rfl rfl rfl (Go.Proofs.YtlagdgkjpnocfaaGreatDoor.W.quiet_assign rfl rfl) ?_
              refine WL.op rfl rfl rfl (Go.Proofs.YtlagdgkjpnocfaaGreatDoor.W.quiet_assign rfl rfl) ?_
              refine WL.nil ?_
              refine TW.rt ?_
              refine Xw.rblk ?_
              refine Xw.thn (by simp) ?_
              refine Xw.rblk ?_
              refine Xw.thn (by simp) ?_
              refine Xw.thn (by simp) ?_
              refine Xw.rblk ?_
              refine Xw.thn (by simp) ?_
              refine O.ret2 rfl rfl rfl ?_
              have q : puT s = (0, 2) := by
                rw [hpu, hp, drop_at s j hjl]
                unfold pU
                simp only [show s[j] = c from hc.symm, hdv]
              exact ⟨by rw [q]; rfl, ff⟩
        · skip
          have h48 := of_decide_eq_false hb2
          refine WL.op rfl rfl rfl (Go.Proofs.YtlagdgkjpnocfaaGreatDoor.W.quiet_move rfl rfl) ?_
          refine WL.skip rfl rfl rfl ?_
          refine WL.skip rfl rfl rfl ?_
          refine WL.op rfl rfl rfl (Go.Proofs.YtlagdgkjpnocfaaGreatDoor.W.quiet_pick rfl rfl rfl) ?_
          refine WL.op rfl rfl rfl (Go.Proofs.YtlagdgkjpnocfaaGreatDoor.W.quiet_assign rfl rfl) ?_
          refine WL.nil ?_
          refine TW.cond rfl (fun hb => by cases hb) (fun _ => ?_)
          refine TW.sreg ?_
          refine WL.op rfl rfl rfl (Go.Proofs.YtlagdgkjpnocfaaGreatDoor.W.quiet_move rfl rfl) ?_
          refine WL.call (hr := (Tryz.internal_strconv_lower (c.toNat : Int) w2)) rfl rfl rfl rfl rfl (fun W => qk_internal_strconv_lower W _) ?_
          rintro e wz ⟨rfl, hwz⟩
          refine ⟨_, rfl, ?_⟩
          obtain rfl := hwz.symm
          refine WL.op rfl rfl rfl (Go.Proofs.YtlagdgkjpnocfaaGreatDoor.W.quiet_bin rfl rfl rfl (fun W => qb_leq_uint8 W _ _ _ _)) ?_
          refine O.split (fun hb4 => ?_) (fun hb4 => ?_)
          · skip
            refine WL.op rfl rfl rfl (Go.Proofs.YtlagdgkjpnocfaaGreatDoor.W.quiet_move rfl rfl) ?_
            refine WL.op rfl rfl rfl (Go.Proofs.YtlagdgkjpnocfaaGreatDoor.W.quiet_move rfl rfl) ?_
            refine WL.call (hr := (Tryz.internal_strconv_lower (c.toNat : Int) w2)) rfl rfl rfl rfl rfl (fun W => qk_internal_strconv_lower W _) ?_
            rintro e wz ⟨rfl, hwz⟩
            refine ⟨_, rfl, ?_⟩
            obtain rfl := hwz.symm
            refine WL.op rfl rfl rfl (Go.Proofs.YtlagdgkjpnocfaaGreatDoor.W.quiet_bin rfl rfl rfl (fun W => qb_leq_uint8 W _ _ _ _)) ?_
            refine O.split (fun hb5 => ?_) (fun hb5 => ?_)
            · skip
              have h97 : 97 ≤ lw c := of_decide_eq_true hb4
              have h122 : lw c ≤ 122 := of_decide_eq_true hb5
              have hdv : dvH c = some (lw c - 87).toNat := by unfold dvH; rw [if_neg (by omega), if_pos ⟨h97, h122⟩]
              obtain ⟨d, hd⟩ : ∃ d : Nat, lw c - 97 + 10 = (d : Int) := ⟨(lw c - 87).toNat, by omega⟩
              rw [show (lw c - 87).toNat = d by omega] at hdv
              refine WL.op rfl rfl rfl (Go.Proofs.YtlagdgkjpnocfaaGreatDoor.W.quiet_pick rfl rfl rfl) ?_
              refine WL.op rfl rfl rfl (Go.Proofs.YtlagdgkjpnocfaaGreatDoor.W.quiet_assign rfl rfl) ?_
              refine WL.nil ?_
              refine TW.cond rfl (fun _ => ?_) (fun hb => by cases hb)
              refine TW.reg ?_
              refine WL.op rfl rfl rfl (Go.Proofs.YtlagdgkjpnocfaaGreatDoor.W.quiet_move rfl rfl) ?_
              refine WL.call (hr := (Tryz.internal_strconv_lower (c.toNat : Int) w2)) rfl rfl rfl rfl rfl (fun W => qk_internal_strconv_lower W _) ?_
              rintro e wz ⟨rfl, hwz⟩
              refine ⟨_, rfl, ?_⟩
              obtain rfl := hwz.symm
              refine WL.op rfl rfl rfl (Go.Proofs.YtlagdgkjpnocfaaGreatDoor.W.quiet_bin rfl rfl rfl (fun W => qb_sub_uint8 W _ _ (lw c) _ (by omega) (by omega))) ?_
              refine WL.op rfl rfl rfl (Go.Proofs.YtlagdgkjpnocfaaGreatDoor.W.quiet_bin rfl rfl rfl (fun W => (qb_add_uint8 W _ _ _ _ (by omega) (by omega)).trans (by rw [hd]))) ?_
              refine WL.op rfl rfl rfl (Go.Proofs.YtlagdgkjpnocfaaGreatDoor.W.quiet_assign rfl rfl) ?_
              refine WL.end ?_
              refine Xw.nblk ?_
              refine Xw.nrm ?_
              refine TW.seq ?_
              refine TW.sreg ?_
              refine WL.op rfl rfl rfl (Go.Proofs.YtlagdgkjpnocfaaGreatDoor.W.quiet_move rfl rfl) ?_
              refine WL.op rfl rfl rfl (Go.Proofs.YtlagdgkjpnocfaaGreatDoor.W.quiet_move rfl rfl) ?_
              refine O.cv rfl rfl rfl rfl rfl (qc_int_uint8 _ _ (by omega) (by omega)) ?_
              refine WL.op rfl rfl rfl (Go.Proofs.YtlagdgkjpnocfaaGreatDoor.W.quiet_bin rfl rfl rfl (fun W => qb_geq_uint8 W _ _ _ _)) ?_
              refine O.split (fun hb => ?_) (fun hb => ?_)
              · skip
                refine WL.nil ?_
                refine TW.cond rfl (fun _ => ?_) (fun hb => by cases hb)
                refine TW.sreg ?_
                refine O.mi rfl rfl rfl rfl rfl (qm_strconv_Error _ _) ?_
                refine WL.op rfl rfl rfl (Go.Proofs.YtlagdgkjpnocfaaGreatDoor.W.quiet_assign rfl rfl) ?_
                refine WL.op rfl rfl rfl (Go.Proofs.YtlagdgkjpnocfaaGreatDoor.W.quiet_assign rfl rfl) ?_
                refine WL.nil ?_
                refine TW.rt ?_
                refine Xw.thn (by simp) ?_
                refine Xw.rblk ?_
                refine Xw.thn (by simp) ?_
                refine Xw.thn (by simp) ?_
                refine Xw.rblk ?_
                refine Xw.thn (by simp) ?_
                refine O.ret2 rfl rfl rfl ?_
                have q : puT s = (0, 2) := by
                  rw [hpu, hp, drop_at s j hjl]
                  unfold pU
                  simp only [show s[j] = c from hc.symm, hdv]
                  rw [if_pos (by have := of_decide_eq_true hb; omega)]
                exact ⟨by rw [q]; rfl, ff⟩
              · skip
                have hd16 : ¬ 16 ≤ d := by have := of_decide_eq_false hb; omega
                have hn2 : (n : Int) * 16 + (d : Int) = ((n * 16 + d : Nat) : Int) := by omega
                refine WL.nil ?_
                refine TW.cond rfl (fun hb => by cases hb) (fun _ => ?_)
                refine TW.skip ?_
                refine TW.seq ?_
                refine TW.sreg ?_
                refine WL.op rfl rfl rfl (Go.Proofs.YtlagdgkjpnocfaaGreatDoor.W.quiet_move rfl rfl) ?_
                refine WL.op rfl rfl rfl (Go.Proofs.YtlagdgkjpnocfaaGreatDoor.W.quiet_move rfl rfl) ?_
                refine WL.op rfl rfl rfl (Go.Proofs.YtlagdgkjpnocfaaGreatDoor.W.quiet_bin rfl rfl rfl (fun W => qb_geq_uint64 W _ _ _ _)) ?_
                refine O.split (fun hb => by exfalso; revert hb; first | (simp; done) | (simp; omega)) (fun hb => ?_)
                refine WL.nil ?_
                refine TW.cond rfl (fun hb => by cases hb) (fun _ => ?_)
                refine TW.skip ?_
                refine TW.sreg ?_
                refine WL.op rfl rfl rfl (Go.Proofs.YtlagdgkjpnocfaaGreatDoor.W.quiet_move rfl rfl) ?_
                refine WL.op rfl rfl rfl (Go.Proofs.YtlagdgkjpnocfaaGreatDoor.W.quiet_move rfl rfl) ?_
                refine O.cv rfl rfl rfl rfl rfl (qc_int_uint64 _ _ (by omega) (by omega)) ?_
                refine WL.op rfl rfl rfl (Go.Proofs.YtlagdgkjpnocfaaGreatDoor.W.quiet_bin rfl rfl rfl (fun W => qb_mul_uint64 W _ _ _ _ (by omega) (by omega))) ?_
                refine WL.op rfl rfl rfl (Go.Proofs.YtlagdgkjpnocfaaGreatDoor.W.quiet_assign rfl rfl) ?_
                refine WL.nil ?_
                refine TW.sreg ?_
                refine WL.op rfl rfl rfl (Go.Proofs.YtlagdgkjpnocfaaGreatDoor.W.quiet_move rfl rfl) ?_
                refine WL.op rfl rfl rfl (Go.Proofs.YtlagdgkjpnocfaaGreatDoor.W.quiet_move rfl rfl) ?_
                refine O.cv rfl rfl rfl rfl rfl (qc_uint8_uint64 _ _ (by omega) (by omega)) ?_
                refine WL.op rfl rfl rfl (Go.Proofs.YtlagdgkjpnocfaaGreatDoor.W.quiet_bin rfl rfl rfl (fun W => (qb_add_uint64 W _ _ _ _ (by omega) (by omega)).trans (by rw [hn2]))) ?_
                refine WL.op rfl rfl rfl (Go.Proofs.YtlagdgkjpnocfaaGreatDoor.W.quiet_assign rfl rfl) ?_
                refine WL.nil ?_
                refine TW.seq ?_
                refine TW.sreg ?_
                refine WL.op rfl rfl rfl (Go.Proofs.YtlagdgkjpnocfaaGreatDoor.W.quiet_move rfl rfl) ?_
                refine WL.op rfl rfl rfl (Go.Proofs.YtlagdgkjpnocfaaGreatDoor.W.quiet_move rfl rfl) ?_
                refine WL.op rfl rfl rfl (Go.Proofs.YtlagdgkjpnocfaaGreatDoor.W.quiet_bin rfl rfl rfl (fun W => qb_lss_uint64 W _ _ _ _)) ?_
                refine O.split (fun hb => by exfalso; revert hb; first | (simp; done) | (simp; omega)) (fun hb => ?_)
                refine WL.op rfl rfl rfl (Go.Proofs.YtlagdgkjpnocfaaGreatDoor.W.quiet_move rfl rfl) ?_
                refine WL.op rfl rfl rfl (Go.Proofs.YtlagdgkjpnocfaaGreatDoor.W.quiet_move rfl rfl) ?_
                refine WL.op rfl rfl rfl (Go.Proofs.YtlagdgkjpnocfaaGreatDoor.W.quiet_move rfl rfl) ?_
                refine WL.op rfl rfl rfl (Go.Proofs.YtlagdgkjpnocfaaGreatDoor.W.quiet_bin rfl rfl rfl (fun W => qb_gtr_uint64 W _ _ _ _)) ?_
                refine O.split (fun hb9 => ?_) (fun hb9 => ?_)
                · skip
                  refine WL.op rfl rfl rfl (Go.Proofs.YtlagdgkjpnocfaaGreatDoor.W.quiet_pick rfl rfl rfl) ?_
                  refine WL.nil ?_
                  refine TW.cond rfl (fun _ => ?_) (fun hb => by cases hb)
                  refine TW.sreg ?_
                  refine WL.op rfl rfl rfl (Go.Proofs.YtlagdgkjpnocfaaGreatDoor.W.quiet_move rfl rfl) ?_
                  refine O.mi rfl rfl rfl rfl rfl (qm_strconv_Error _ _) ?_
                  refine WL.op rfl rfl rfl (Go.Proofs.YtlagdgkjpnocfaaGreatDoor.W.quiet_assign rfl rfl) ?_
                  refine WL.op rfl rfl rfl (Go.Proofs.YtlagdgkjpnocfaaGreatDoor.W.quiet_assign rfl rfl) ?_
                  refine WL.nil ?_
                  refine TW.rt ?_
                  refine Xw.thn (by simp) ?_
                  refine Xw.rblk ?_
                  refine Xw.thn (by simp) ?_
                  refine Xw.thn (by simp) ?_
                  refine Xw.rblk ?_
                  refine Xw.thn (by simp) ?_
                  refine O.ret2 rfl rfl rfl ?_
                  have hbb := of_decide_eq_true hb9
                  have q : puT s = (4294967295, 1) := by
                    rw [hpu, hp, drop_at s j hjl]
                    unfold pU
                    simp only [show s[j] = c from hc.symm, hdv]
                    rw [if_neg hd16, if_pos (by omega)]
                  exact ⟨by rw [q]; rfl, ff⟩
                · skip
                  have hbb := of_decide_eq_false hb9
                  refine WL.op rfl rfl rfl (Go.Proofs.YtlagdgkjpnocfaaGreatDoor.W.quiet_pick rfl rfl rfl) ?_
                  refine WL.nil ?_
                  refine TW.cond rfl (fun hb => by cases hb) (fun _ => ?_)
                  refine TW.skip ?_
                  refine TW.reg ?_
                  refine WL.op rfl rfl rfl (Go.Proofs.YtlagdgkjpnocfaaGreatDoor.W.quiet_move rfl rfl) ?_
                  refine WL.op rfl rfl rfl (Go.Proofs.YtlagdgkjpnocfaaGreatDoor.W.quiet_assign rfl rfl) ?_
                  refine WL.end ?_
                  refine Xw.nblk ?_
                  refine Xw.nrm ?_
                  refine TW.reg ?_
                  refine WL.op rfl rfl rfl (Go.Proofs.YtlagdgkjpnocfaaGreatDoor.W.quiet_bin rfl rfl rfl (fun W => qb_add_int W _ _ _ _ (by omega) (by omega))) ?_
                  refine WL.op rfl rfl rfl (Go.Proofs.YtlagdgkjpnocfaaGreatDoor.W.quiet_move rfl rfl) ?_
                  refine WL.end ?_
                  refine Xw.any (fun a k => ?_)
                  refine ⟨j + 1, by omega, by omega, n * 16 + d, by (repeat (refine Kn.cons k rfl ?_)); exact k.base, rfl, by omega, ?_⟩
                  rw [hp, drop_at s j hjl]
                  conv => lhs; unfold pU
                  simp only [show s[j] = c from hc.symm, hdv]
                  rw [if_neg hd16, if_neg (by omega)]
            · skip
              have h122 : ¬ lw c ≤ 122 := of_decide_eq_false hb5
              have hdv : dvH c = none := by unfold dvH; rw [if_neg (by omega), if_neg (fun h => h122 h.2)]
              refine WL.op rfl rfl rfl (Go.Proofs.YtlagdgkjpnocfaaGreatDoor.W.quiet_pick rfl rfl rfl) ?_
              refine WL.op rfl rfl rfl (Go.Proofs.YtlagdgkjpnocfaaGreatDoor.W.quiet_assign rfl rfl) ?_
              refine WL.nil ?_
              refine TW.cond rfl (fun hb => by cases hb) (fun _ => ?_)
              refine TW.sreg ?_
              refine O.mi rfl rfl rfl rfl rfl (qm_strconv_Error _ _) ?_
              refine WL.op rfl rfl rfl (Go.Proofs.YtlagdgkjpnocfaaGreatDoor.W.quiet_assign rfl rfl) ?_
              refine WL.op rfl rfl rfl (Go.Proofs.YtlagdgkjpnocfaaGreatDoor.W.quiet_assign rfl rfl) ?_
              refine WL.nil ?_
              refine TW.rt ?_
              refine Xw.rblk ?_
              refine Xw.thn (by simp) ?_
              refine Xw.rblk ?_
              refine Xw.thn (by simp) ?_
              refine Xw.thn (by simp) ?_
              refine Xw.rblk ?_
              refine Xw.thn (by simp) ?_
              refine O.ret2 rfl rfl rfl ?_
              have q : puT s = (0, 2) := by
                rw [hpu, hp, drop_at s j hjl]
                unfold pU
                simp only [show s[j] = c from hc.symm, hdv]
              exact ⟨by rw [q]; rfl, ff⟩
          · skip
            have h97 : ¬ 97 ≤ lw c := of_decide_eq_false hb4
            have hdv : dvH c = none := by unfold dvH; rw [if_neg (by omega), if_neg (fun h => h97 h.1)]
            refine WL.op rfl rfl rfl (Go.Proofs.YtlagdgkjpnocfaaGreatDoor.W.quiet_move rfl rfl) ?_
            refine WL.skip rfl rfl rfl ?_
            refine WL.skip rfl rfl rfl ?_
            refine WL.skip rfl rfl rfl ?_
            refine WL.op rfl rfl rfl (Go.Proofs.YtlagdgkjpnocfaaGreatDoor.W.quiet_pick rfl rfl rfl) ?_
            refine WL.op rfl rfl rfl (Go.Proofs.YtlagdgkjpnocfaaGreatDoor.W.quiet_assign rfl rfl) ?_
            refine WL.nil ?_
            refine TW.cond rfl (fun hb => by cases hb) (fun _ => ?_)
            refine TW.sreg ?_
            refine O.mi rfl rfl rfl rfl rfl (qm_strconv_Error _ _) ?_
            refine WL.op rfl rfl rfl (Go.Proofs.YtlagdgkjpnocfaaGreatDoor.W.quiet_assign rfl rfl) ?_
            refine WL.op rfl rfl rfl (Go.Proofs.YtlagdgkjpnocfaaGreatDoor.W.quiet_assign rfl rfl) ?_
            refine WL.nil ?_
            refine TW.rt ?_
            refine Xw.rblk ?_
            refine Xw.thn (by simp) ?_
            refine Xw.rblk ?_
            refine Xw.thn (by simp) ?_
            refine Xw.thn (by simp) ?_
            refine Xw.rblk ?_
            refine Xw.thn (by simp) ?_
            refine O.ret2 rfl rfl rfl ?_
            have q : puT s = (0, 2) := by
              rw [hpu, hp, drop_at s j hjl]
              unfold pU
              simp only [show s[j] = c from hc.symm, hdv]
            exact ⟨by rw [q]; rfl, ff⟩
    · skip
      refine WL.nil ?_
      refine TW.seq ?_
      refine TW.cond rfl (fun hb => by cases hb) (fun _ => ?_)
      refine TW.exit ?_
      refine Xw.thn (by simp) ?_
      refine Xw.thn (by simp) ?_
      refine Xw.hit ?_
      refine Xw.nrm ?_
      refine TW.seq ?_
      refine TW.sreg ?_
      refine WL.op rfl rfl rfl (Go.Proofs.YtlagdgkjpnocfaaGreatDoor.W.quiet_move rfl rfl) ?_
      refine WL.op rfl rfl rfl (Go.Proofs.YtlagdgkjpnocfaaGreatDoor.W.quiet_move rfl rfl) ?_
      refine WL.skip rfl rfl rfl ?_
      refine WL.skip rfl rfl rfl ?_
      refine WL.skip rfl rfl rfl ?_
      refine WL.op rfl rfl rfl (Go.Proofs.YtlagdgkjpnocfaaGreatDoor.W.quiet_pick rfl rfl rfl) ?_
      refine WL.nil ?_
      refine TW.cond rfl (fun hb => by cases hb) (fun _ => ?_)
      refine TW.skip ?_
      refine TW.sreg ?_
      refine WL.op rfl rfl rfl (Go.Proofs.YtlagdgkjpnocfaaGreatDoor.W.quiet_move rfl rfl) ?_
      refine WL.op rfl rfl rfl (Go.Proofs.YtlagdgkjpnocfaaGreatDoor.W.quiet_assign rfl rfl) ?_
      refine WL.op rfl rfl rfl (Go.Proofs.YtlagdgkjpnocfaaGreatDoor.W.quiet_assign rfl rfl) ?_
      refine WL.nil ?_
      refine TW.rt ?_
      refine O.ret2 rfl rfl rfl ?_
      have hje : j = s.length := by have := of_decide_eq_false hlt; omega
      have q : puT s = (n, 0) := by
        rw [hpu, hp, hje, List.drop_length]
        rfl
      exact ⟨by rw [q]; rfl, ff⟩
theorem qk_internal_strconv_ParseUint (w : World) (vs : Array Value) : (callFunc 75 vs).run Tryz.prog w = .ok (.enter 75 vs) w := by simp [go_sem]
theorem qk_strconv_toError (w : World) (vs : Array Value) : (callFunc 76 vs).run Tryz.prog w = .ok (.enter 76 vs) w := by simp [go_sem]
theorem qk_strings_Cut (w : World) (vs : Array Value) : (callFunc 30 vs).run Tryz.prog w = .ok (.enter 30 vs) w := by simp [go_sem]
theorem qk_strings_CutPrefix (w : World) (vs : Array Value) : (callFunc 50 vs).run Tryz.prog w = .ok (.enter 50 vs) w := by simp [go_sem]
theorem qk_strconv_ParseUint (w : World) (vs : Array Value) : (callFunc 51 vs).run Tryz.prog w = .ok (.enter 51 vs) w := by simp [go_sem]
theorem qc_uint64_uint32 (w : World) (m : Int) (h0 : 0 ≤ m) (h1 : m ≤ 4294967295) : (convert 85 40 (.int .u64 m)).run Tryz.prog w = .ok (.int .u32 m) w := by
  have h : IntKind.u32.wrap m = m := IntWalk.u32_in _ (by omega)
  simp [go_sem, h]
theorem qk_listing_parse (w : World) (vs : Array Value) : (callFunc 22 vs).run Tryz.prog w = .ok (.enter 22 vs) w := by simp [go_sem]
theorem qk_inst_Encode (w : World) (vs : Array Value) : (callFunc 52 vs).run Tryz.prog w = .ok (.enter 52 vs) w := by simp [go_sem]
theorem t_cut (s sep : List UInt8) (hs : s.length ≤ 10000000) (hp : 0 < sep.length ∧ sep.length ≤ 100) (w : World) (hm : MlW w) : Calls Tryz.prog 30 #[bts s, bts sep] w fun e w' => e = .returned (.tuple #[bts (Lib.cut s sep).1, bts (Lib.cut s sep).2.1, .bool (Lib.cut s sep).2.2]) ∧ Fr (fun _ => False) w w' := by
  obtain ⟨m, hm⟩ := hm
  have KC := Tryz.strings_Cut ⟨s.toArray⟩ ⟨sep.toArray⟩ m w (by simp [ByteArray.size]; omega) hm
  rw [show (⟨s.toArray⟩ : ByteArray).data.toList = s by simp, show (⟨sep.toArray⟩ : ByteArray).data.toList = sep by simp] at KC
  refine KC.mono fun e w' q => ?_
  obtain ⟨rfl, nd, rfl⟩ := q
  exact ⟨rfl, (Fr.refl _ _).drewN nd⟩
theorem t_cutp (s sep : List UInt8) (w : World) : Calls Tryz.prog 50 #[bts s, bts sep] w fun e w' => e = .returned (.tuple #[bts (Lib.trimPrefix s sep), .bool (Lib.hasPrefix s sep)]) ∧ Fr (fun _ => False) w w' := by
  have KC := Tryz.strings_CutPrefix ⟨s.toArray⟩ ⟨sep.toArray⟩ w
  rw [show (⟨s.toArray⟩ : ByteArray).data.toList = s by simp, show (⟨sep.toArray⟩ : ByteArray).data.toList = sep by simp] at KC
  refine KC.mono fun e w' q => ?_
  obtain ⟨rfl, rfl⟩ := q
  exact ⟨rfl, Fr.refl _ _⟩
theorem er_ne0 (w : World) (x  : Operand) : (do eqGuard .neq 56 x (.const .nilIface) .nilIface .nilIface; binOp .neq 56 .nilIface .nilIface : Sem Value).run Tryz.prog w = .ok (.bool false) w := by simp [go_sem]
theorem er_ne1 (w : World) (x  : Operand) (t : TypeId) (v : Value) : (do eqGuard .neq 56 x (.const .nilIface) (.iface t v) .nilIface; binOp .neq 56 (.iface t v) .nilIface : Sem Value).run Tryz.prog w = .ok (.bool true) w := by simp [go_sem]
theorem er_eq0 (w : World) (x  : Operand) : (do eqGuard .eql 56 x (.const .nilIface) .nilIface .nilIface; binOp .eql 56 .nilIface .nilIface : Sem Value).run Tryz.prog w = .ok (.bool true) w := by simp [go_sem]
theorem er_eq1 (w : World) (x  : Operand) (t : TypeId) (v : Value) : (do eqGuard .eql 56 x (.const .nilIface) (.iface t v) .nilIface; binOp .eql 56 (.iface t v) .nilIface : Sem Value).run Tryz.prog w = .ok (.bool false) w := by simp [go_sem]
/-- What ParseUint hands back beside the number. -/
def ErV (c : Nat) (er : Value) : Prop := (c = 0 ∧ er = .nilIface) ∨ (c ≠ 0 ∧ ∃ te pe, er = .iface te pe)
theorem t_toerr (s : List UInt8) (hs : s.length ≤ 1000000) (c : Nat) (hc : c = 1 ∨ c = 2) (w : World) (he : ErW w) : Calls Tryz.prog 76 #[.string ⟨#[80, 97, 114, 115, 101, 85, 105, 110, 116]⟩, bts s, .int .i64 16, .int .i64 32, .iface 126 (.int .i64 (c : Int))] w fun e w' => (∃ te pe, e = .returned (.iface te pe)) ∧ Fr (fun _ => False) w w' := by
  obtain ⟨⟨ts, ps, h1⟩, tr, pr, h2⟩ := he
  have hsz : (⟨s.toArray⟩ : ByteArray).size = s.length := by simp [ByteArray.size]
  rcases hc with rfl | rfl
  · refine (Tryz.strconv_toError_range _ ⟨s.toArray⟩ 16 32 _ w (by rw [hsz]; omega) h2 (.inr ⟨_, _, rfl⟩)).mono fun e w' q => ?_
    obtain ⟨N, rfl, _, _, hb⟩ := q
    exact ⟨⟨_, _, rfl⟩, Fr.of_below' hb⟩
  · refine (Tryz.strconv_toError_syntax _ ⟨s.toArray⟩ 16 32 _ w (by rw [hsz]; omega) h1 (.inr ⟨_, _, rfl⟩)).mono fun e w' q => ?_
    obtain ⟨N, rfl, _, _, hb⟩ := q
    exact ⟨⟨_, _, rfl⟩, Fr.of_below' hb⟩
set_option maxRecDepth 100000 in
theorem t_sparse (s : List UInt8) (hs : s.length ≤ 1000000) (w : World) (he : ErW w) : Calls Tryz.prog 51 #[bts s, .int .i64 16, .int .i64 32] w fun e w' => ∃ er, e = .returned (.tuple #[.int .u64 ((puT s).1 : Int), er]) ∧ ErV (puT s).2 er ∧ Fr (fun _ => False) w w' := by
  refine calls_tw Tryz.func51 rfl rfl (Nat.le_of_ble_eq_true rfl) ?_
  have KI := t_iparse s hs w
  rcases puT_code s with hq | hq | hq
  · have hI : IpV (puT s) = .tuple #[.int .u64 ((puT s).1 : Int), .nilIface] := by unfold IpV; rw [hq]; rfl
    rw [hI] at KI
    refine TW.sreg ?_
    refine WL.op rfl rfl rfl (Go.Proofs.YtlagdgkjpnocfaaGreatDoor.W.quiet_assign rfl rfl) ?_
    refine WL.op rfl rfl rfl (Go.Proofs.YtlagdgkjpnocfaaGreatDoor.W.quiet_assign rfl rfl) ?_
    refine WL.nil ?_
    refine TW.sreg ?_
    refine WL.op rfl rfl rfl (Go.Proofs.YtlagdgkjpnocfaaGreatDoor.W.quiet_move rfl rfl) ?_
    refine WL.op rfl rfl rfl (Go.Proofs.YtlagdgkjpnocfaaGreatDoor.W.quiet_move rfl rfl) ?_
    refine WL.op rfl rfl rfl (Go.Proofs.YtlagdgkjpnocfaaGreatDoor.W.quiet_move rfl rfl) ?_
    refine WL.call (hr := KI) rfl rfl rfl rfl rfl (fun W => qk_internal_strconv_ParseUint W _) ?_
    rintro e w1 ⟨rfl, f1⟩
    refine ⟨_, rfl, ?_⟩
    refine WL.op rfl rfl rfl (Go.Proofs.YtlagdgkjpnocfaaGreatDoor.W.quiet_move rfl rfl) ?_
    refine O.ext rfl rfl rfl rfl rfl rfl ?_
    refine O.ext rfl rfl rfl rfl rfl rfl ?_
    refine WL.op rfl rfl rfl (Go.Proofs.YtlagdgkjpnocfaaGreatDoor.W.quiet_assign rfl rfl) ?_
    refine WL.op rfl rfl rfl (Go.Proofs.YtlagdgkjpnocfaaGreatDoor.W.quiet_assign rfl rfl) ?_
    refine WL.nil ?_
    refine TW.seq ?_
    refine TW.sreg ?_
    refine WL.op rfl rfl rfl (Go.Proofs.YtlagdgkjpnocfaaGreatDoor.W.quiet_move rfl rfl) ?_
    refine WL.op rfl rfl rfl (Go.Proofs.YtlagdgkjpnocfaaGreatDoor.W.quiet_bin rfl rfl rfl (fun W => er_ne0 W _)) ?_
    refine O.split (fun hb => by exfalso; revert hb; first | (simp; done) | (simp; omega)) (fun hb => ?_)
    refine WL.nil ?_
    refine TW.cond rfl (fun hb => by cases hb) (fun _ => ?_)
    refine TW.skip ?_
    refine TW.sreg ?_
    refine WL.op rfl rfl rfl (Go.Proofs.YtlagdgkjpnocfaaGreatDoor.W.quiet_move rfl rfl) ?_
    refine WL.op rfl rfl rfl (Go.Proofs.YtlagdgkjpnocfaaGreatDoor.W.quiet_assign rfl rfl) ?_
    refine WL.op rfl rfl rfl (Go.Proofs.YtlagdgkjpnocfaaGreatDoor.W.quiet_assign rfl rfl) ?_
    refine WL.nil ?_
    refine TW.rt ?_
    refine O.ret2 rfl rfl rfl ?_
    exact ⟨_, rfl, .inl ⟨hq, rfl⟩, f1⟩
  · skip
    refine TW.sreg ?_
    refine WL.op rfl rfl rfl (Go.Proofs.YtlagdgkjpnocfaaGreatDoor.W.quiet_assign rfl rfl) ?_
    refine WL.op rfl rfl rfl (Go.Proofs.YtlagdgkjpnocfaaGreatDoor.W.quiet_assign rfl rfl) ?_
    refine WL.nil ?_
    refine TW.sreg ?_
    refine WL.op rfl rfl rfl (Go.Proofs.YtlagdgkjpnocfaaGreatDoor.W.quiet_move rfl rfl) ?_
    refine WL.op rfl rfl rfl (Go.Proofs.YtlagdgkjpnocfaaGreatDoor.W.quiet_move rfl rfl) ?_
    refine WL.op rfl rfl rfl (Go.Proofs.YtlagdgkjpnocfaaGreatDoor.W.quiet_move rfl rfl) ?_
    have hI : IpV (puT s) = .tuple #[.int .u64 ((puT s).1 : Int), .iface 126 (.int .i64 1)] := by unfold IpV; rw [hq]; rfl
    rw [hI] at KI
    refine WL.call (hr := KI) rfl rfl rfl rfl rfl (fun W => qk_internal_strconv_ParseUint W _) ?_
    rintro e w1 ⟨rfl, f1⟩
    refine ⟨.tuple #[.int .u64 ((puT s).1 : Int), .iface 126 (.int .i64 1)], rfl, ?_⟩
    refine WL.op rfl rfl rfl (Go.Proofs.YtlagdgkjpnocfaaGreatDoor.W.quiet_move rfl rfl) ?_
    refine O.ext rfl rfl rfl rfl rfl rfl ?_
    refine O.ext rfl rfl rfl rfl rfl rfl ?_
    refine WL.op rfl rfl rfl (Go.Proofs.YtlagdgkjpnocfaaGreatDoor.W.quiet_assign rfl rfl) ?_
    refine WL.op rfl rfl rfl (Go.Proofs.YtlagdgkjpnocfaaGreatDoor.W.quiet_assign rfl rfl) ?_
    refine WL.nil ?_
    refine TW.seq ?_
    refine TW.sreg ?_
    refine WL.op rfl rfl rfl (Go.Proofs.YtlagdgkjpnocfaaGreatDoor.W.quiet_move rfl rfl) ?_
    refine WL.op rfl rfl rfl (Go.Proofs.YtlagdgkjpnocfaaGreatDoor.W.quiet_bin rfl rfl rfl (fun W => er_ne1 W _ _ _)) ?_
    refine O.split (fun hb => ?_) (fun hb => by exfalso; revert hb; first | (simp; done) | (simp; omega))
    refine WL.nil ?_
    refine TW.cond rfl (fun _ => ?_) (fun hb => by cases hb)
    refine TW.sreg ?_
    refine WL.op rfl rfl rfl (Go.Proofs.YtlagdgkjpnocfaaGreatDoor.W.quiet_move rfl rfl) ?_
    refine WL.op rfl rfl rfl (Go.Proofs.YtlagdgkjpnocfaaGreatDoor.W.quiet_move rfl rfl) ?_
    refine WL.op rfl rfl rfl (Go.Proofs.YtlagdgkjpnocfaaGreatDoor.W.quiet_move rfl rfl) ?_
    refine WL.op rfl rfl rfl (Go.Proofs.YtlagdgkjpnocfaaGreatDoor.W.quiet_move rfl rfl) ?_
    refine WL.op rfl rfl rfl (Go.Proofs.YtlagdgkjpnocfaaGreatDoor.W.quiet_move rfl rfl) ?_
    refine WL.call (hr := t_toerr s hs 1 (by decide) w1 (he.fr f1 id id)) rfl rfl rfl rfl rfl (fun W => qk_strconv_toError W _) ?_
    rintro e w2 ⟨⟨te, pe, rfl⟩, f2⟩
    refine ⟨_, rfl, ?_⟩
    refine WL.op rfl rfl rfl (Go.Proofs.YtlagdgkjpnocfaaGreatDoor.W.quiet_assign rfl rfl) ?_
    refine WL.op rfl rfl rfl (Go.Proofs.YtlagdgkjpnocfaaGreatDoor.W.quiet_assign rfl rfl) ?_
    refine WL.nil ?_
    refine TW.rt ?_
    refine Xw.thn (by simp) ?_
    refine O.ret2 rfl rfl rfl ?_
    exact ⟨_, rfl, .inr ⟨by rw [hq]; decide, te, pe, rfl⟩, f1.trans f2⟩
  · skip
    refine TW.sreg ?_
    refine WL.op rfl rfl rfl (Go.Proofs.YtlagdgkjpnocfaaGreatDoor.W.quiet_assign rfl rfl) ?_
    refine WL.op rfl rfl rfl (Go.Proofs.YtlagdgkjpnocfaaGreatDoor.W.quiet_assign rfl rfl) ?_
    refine WL.nil ?_
    refine TW.sreg ?_
    refine WL.op rfl rfl rfl (Go.Proofs.YtlagdgkjpnocfaaGreatDoor.W.quiet_move rfl rfl) ?_
    refine WL.op rfl rfl rfl (Go.Proofs.YtlagdgkjpnocfaaGreatDoor.W.quiet_move rfl rfl) ?_
    refine WL.op rfl rfl rfl (Go.Proofs.YtlagdgkjpnocfaaGreatDoor.W.quiet_move rfl rfl) ?_
    have hI : IpV (puT s) = .tuple #[.int .u64 ((puT s).1 : Int), .iface 126 (.int .i64 2)] := by unfold IpV; rw [hq]; rfl
    rw [hI] at KI
    refine WL.call (hr := KI) rfl rfl rfl rfl rfl (fun W => qk_internal_strconv_ParseUint W _) ?_
    rintro e w1 ⟨rfl, f1⟩
    refine ⟨.tuple #[.int .u64 ((puT s).1 : Int), .iface 126 (.int .i64 2)], rfl, ?_⟩
    refine WL.op rfl rfl rfl (Go.Proofs.YtlagdgkjpnocfaaGreatDoor.W.quiet_move rfl rfl) ?_
    refine O.ext rfl rfl rfl rfl rfl rfl ?_
    refine O.ext rfl rfl rfl rfl rfl rfl ?_
    refine WL.op rfl rfl rfl (Go.Proofs.YtlagdgkjpnocfaaGreatDoor.W.quiet_assign rfl rfl) ?_
    refine WL.op rfl rfl rfl (Go.Proofs.YtlagdgkjpnocfaaGreatDoor.W.quiet_assign rfl rfl) ?_
    refine WL.nil ?_
    refine TW.seq ?_
    refine TW.sreg ?_
    refine WL.op rfl rfl rfl (Go.Proofs.YtlagdgkjpnocfaaGreatDoor.W.quiet_move rfl rfl) ?_
    refine WL.op rfl rfl rfl (Go.Proofs.YtlagdgkjpnocfaaGreatDoor.W.quiet_bin rfl rfl rfl (fun W => er_ne1 W _ _ _)) ?_
    refine O.split (fun hb => ?_) (fun hb => by exfalso; revert hb; first | (simp; done) | (simp; omega))
    refine WL.nil ?_
    refine TW.cond rfl (fun _ => ?_) (fun hb => by cases hb)
    refine TW.sreg ?_
    refine WL.op rfl rfl rfl (Go.Proofs.YtlagdgkjpnocfaaGreatDoor.W.quiet_move rfl rfl) ?_
    refine WL.op rfl rfl rfl (Go.Proofs.YtlagdgkjpnocfaaGreatDoor.W.quiet_move rfl rfl) ?_
    refine WL.op rfl rfl rfl (Go.Proofs.YtlagdgkjpnocfaaGreatDoor.W.quiet_move rfl rfl) ?_
    refine WL.op rfl rfl rfl (Go.Proofs.YtlagdgkjpnocfaaGreatDoor.W.quiet_move rfl rfl) ?_
    refine WL.op rfl rfl rfl (Go.Proofs.YtlagdgkjpnocfaaGreatDoor.W.quiet_move rfl rfl) ?_
    refine WL.call (hr := t_toerr s hs 2 (by decide) w1 (he.fr f1 id id)) rfl rfl rfl rfl rfl (fun W => qk_strconv_toError W _) ?_
    rintro e w2 ⟨⟨te, pe, rfl⟩, f2⟩
    refine ⟨_, rfl, ?_⟩
    refine WL.op rfl rfl rfl (Go.Proofs.YtlagdgkjpnocfaaGreatDoor.W.quiet_assign rfl rfl) ?_
    refine WL.op rfl rfl rfl (Go.Proofs.YtlagdgkjpnocfaaGreatDoor.W.quiet_assign rfl rfl) ?_
    refine WL.nil ?_
    refine TW.rt ?_
    refine Xw.thn (by simp) ?_
    refine O.ret2 rfl rfl rfl ?_
    exact ⟨_, rfl, .inr ⟨by rw [hq]; decide, te, pe, rfl⟩, f1.trans f2⟩
theorem encW_in (op rd r1 r2 imm : Int) : 0 ≤ encW op rd r1 r2 imm ∧ encW op rd r1 r2 imm ≤ 4294967295 := or_in _ _
/-- The word of a line behind its address, and if there is one. -/
def pwR (s : List UInt8) : Nat × Bool :=
  let b := (Lib.cut s [58, 32]).2.1
  if Lib.hasPrefix b [46, 119, 111, 114, 100, 32, 48, 120] = true then ((puT (Lib.trimPrefix b [46, 119, 111, 114, 100, 32, 48, 120])).1, (puT (Lib.trimPrefix b [46, 119, 111, 114, 100, 32, 48, 120])).2 == 0)
  else match parseR b with
    | some i => if fitsB i.rd i.r1 i.r2 i.imm (fm (ix i.op)) = true then ((encW i.op i.rd i.r1 i.r2 i.imm).toNat, true) else (0, false)
    | none => (0, false)
theorem trim_len2 (s p : List UInt8) : (Lib.trimPrefix s p).length ≤ s.length := by
  unfold Lib.trimPrefix
  split
  · simp
  · exact Nat.le_refl _
set_option maxRecDepth 100000 in
theorem t_pword (s : List UInt8) (hs : s.length ≤ 1000000) (w : World) (he : ErW w) (hm : MlW w) : Calls Tryz.prog 31 #[bts s] w fun e w' => e = .returned (.tuple #[.int .u32 ((pwR s).1 : Int), .bool (pwR s).2]) ∧ Fr (fun _ => False) w w' := by
  have hpw : pwR s = (if Lib.hasPrefix (Lib.cut s [58, 32]).2.1 [46, 119, 111, 114, 100, 32, 48, 120] = true then ((puT (Lib.trimPrefix (Lib.cut s [58, 32]).2.1 [46, 119, 111, 114, 100, 32, 48, 120])).1, (puT (Lib.trimPrefix (Lib.cut s [58, 32]).2.1 [46, 119, 111, 114, 100, 32, 48, 120])).2 == 0) else match parseR (Lib.cut s [58, 32]).2.1 with | some i => if fitsB i.rd i.r1 i.r2 i.imm (fm (ix i.op)) = true then ((encW i.op i.rd i.r1 i.r2 i.imm).toNat, true) else (0, false) | none => (0, false)) := rfl
  refine calls_tw Tryz.func31 rfl rfl (Nat.le_of_ble_eq_true rfl) ?_
  refine TW.sreg ?_
  refine WL.op rfl rfl rfl (Go.Proofs.YtlagdgkjpnocfaaGreatDoor.W.quiet_assign rfl rfl) ?_
  refine WL.op rfl rfl rfl (Go.Proofs.YtlagdgkjpnocfaaGreatDoor.W.quiet_assign rfl rfl) ?_
  refine WL.nil ?_
  refine TW.sreg ?_
  refine WL.op rfl rfl rfl (Go.Proofs.YtlagdgkjpnocfaaGreatDoor.W.quiet_move rfl rfl) ?_
  obtain ⟨cl1, cl2⟩ := cut_len s [58, 32]
  refine WL.call (hr := t_cut s [58, 32] (by omega) (by decide) w hm) rfl rfl rfl rfl rfl (fun W => qk_strings_Cut W _) ?_
  rintro e w1 ⟨rfl, f1⟩
  refine ⟨_, rfl, ?_⟩
  generalize (Lib.cut s [58, 32]).2.1 = b at *
  refine WL.op rfl rfl rfl (Go.Proofs.YtlagdgkjpnocfaaGreatDoor.W.quiet_move rfl rfl) ?_
  refine O.ext rfl rfl rfl rfl rfl rfl ?_
  refine O.ext rfl rfl rfl rfl rfl rfl ?_
  refine O.ext rfl rfl rfl rfl rfl rfl ?_
  refine WL.op rfl rfl rfl (Go.Proofs.YtlagdgkjpnocfaaGreatDoor.W.quiet_assign rfl rfl) ?_
  refine WL.op rfl rfl rfl (Go.Proofs.YtlagdgkjpnocfaaGreatDoor.W.quiet_assign rfl rfl) ?_
  refine WL.op rfl rfl rfl (Go.Proofs.YtlagdgkjpnocfaaGreatDoor.W.quiet_assign rfl rfl) ?_
  refine WL.nil ?_
  refine TW.seq ?_
  refine TW.sreg ?_
  refine WL.op rfl rfl rfl (Go.Proofs.YtlagdgkjpnocfaaGreatDoor.W.quiet_move rfl rfl) ?_
  refine WL.call (hr := t_cutp b [46, 119, 111, 114, 100, 32, 48, 120] w1) rfl rfl rfl rfl rfl (fun W => qk_strings_CutPrefix W _) ?_
  rintro e w2 ⟨rfl, f2⟩
  refine ⟨_, rfl, ?_⟩
  have tl := trim_len2 b [46, 119, 111, 114, 100, 32, 48, 120]
  generalize Lib.trimPrefix b [46, 119, 111, 114, 100, 32, 48, 120] = d at *
  refine WL.op rfl rfl rfl (Go.Proofs.YtlagdgkjpnocfaaGreatDoor.W.quiet_move rfl rfl) ?_
  refine O.ext rfl rfl rfl rfl rfl rfl ?_
  refine O.ext rfl rfl rfl rfl rfl rfl ?_
  refine WL.op rfl rfl rfl (Go.Proofs.YtlagdgkjpnocfaaGreatDoor.W.quiet_assign rfl rfl) ?_
  refine WL.op rfl rfl rfl (Go.Proofs.YtlagdgkjpnocfaaGreatDoor.W.quiet_assign rfl rfl) ?_
  refine WL.nil ?_
  refine TW.sreg ?_
  refine WL.op rfl rfl rfl (Go.Proofs.YtlagdgkjpnocfaaGreatDoor.W.quiet_move rfl rfl) ?_
  refine WL.nil ?_
  refine TW.cond rfl (fun hpf => ?_) (fun hpf => ?_)
  · skip
    rw [if_pos hpf] at hpw
    refine TW.sreg ?_
    refine WL.op rfl rfl rfl (Go.Proofs.YtlagdgkjpnocfaaGreatDoor.W.quiet_move rfl rfl) ?_
    have hlt := puT_lt d
    refine WL.call (hr := t_sparse d (by omega) w2 (he.fr (f1.trans f2) id id)) rfl rfl rfl rfl rfl (fun W => qk_strconv_ParseUint W _) ?_
    rintro e w3 ⟨er, rfl, her, f3⟩
    refine ⟨_, rfl, ?_⟩
    rcases her with ⟨h0, rfl⟩ | ⟨h0, te, pe, rfl⟩
    · skip
      refine WL.op rfl rfl rfl (Go.Proofs.YtlagdgkjpnocfaaGreatDoor.W.quiet_move rfl rfl) ?_
      refine O.ext rfl rfl rfl rfl rfl rfl ?_
      refine O.ext rfl rfl rfl rfl rfl rfl ?_
      refine WL.op rfl rfl rfl (Go.Proofs.YtlagdgkjpnocfaaGreatDoor.W.quiet_assign rfl rfl) ?_
      refine WL.op rfl rfl rfl (Go.Proofs.YtlagdgkjpnocfaaGreatDoor.W.quiet_assign rfl rfl) ?_
      refine WL.nil ?_
      refine Q.sreg (C := fun W => Fr (fun _ => False) w3 W) (by kernel_rfl) (by kernel_rfl) (fun W h => h.drewN 1) (Fr.refl _ _) ?_
      refine W.op rfl rfl rfl (Go.Proofs.YtlagdgkjpnocfaaGreatDoor.W.quiet_move rfl rfl) ?_
      refine W.op rfl rfl rfl (Q.cv rfl rfl (fun W hW => (qc_uint64_uint32 _ _ (by omega) (by omega)))) ?_
      refine W.op rfl rfl rfl (Go.Proofs.YtlagdgkjpnocfaaGreatDoor.W.quiet_move rfl rfl) ?_
      refine W.op rfl rfl rfl (Go.Proofs.YtlagdgkjpnocfaaGreatDoor.W.quiet_bin rfl rfl rfl (fun W => er_eq0 W _)) ?_
      refine W.op rfl rfl rfl (Go.Proofs.YtlagdgkjpnocfaaGreatDoor.W.quiet_assign rfl rfl) ?_
      refine W.op rfl rfl rfl (Go.Proofs.YtlagdgkjpnocfaaGreatDoor.W.quiet_assign rfl rfl) ?_
      refine Q.nil (T.tw fun wq1 fq1 => ?_)
      refine TW.rt ?_
      refine Xw.thn (by simp) ?_
      refine O.ret2 rfl rfl rfl ?_
      exact ⟨by rw [hpw, h0]; rfl, (f1.trans (f2.trans f3)).trans fq1⟩
    · skip
      refine WL.op rfl rfl rfl (Go.Proofs.YtlagdgkjpnocfaaGreatDoor.W.quiet_move rfl rfl) ?_
      refine O.ext rfl rfl rfl rfl rfl rfl ?_
      refine O.ext rfl rfl rfl rfl rfl rfl ?_
      refine WL.op rfl rfl rfl (Go.Proofs.YtlagdgkjpnocfaaGreatDoor.W.quiet_assign rfl rfl) ?_
      refine WL.op rfl rfl rfl (Go.Proofs.YtlagdgkjpnocfaaGreatDoor.W.quiet_assign rfl rfl) ?_
      refine WL.nil ?_
      refine Q.sreg (C := fun W => Fr (fun _ => False) w3 W) (by kernel_rfl) (by kernel_rfl) (fun W h => h.drewN 1) (Fr.refl _ _) ?_
      refine W.op rfl rfl rfl (Go.Proofs.YtlagdgkjpnocfaaGreatDoor.W.quiet_move rfl rfl) ?_
      refine W.op rfl rfl rfl (Q.cv rfl rfl (fun W hW => (qc_uint64_uint32 _ _ (by omega) (by omega)))) ?_
      refine W.op rfl rfl rfl (Go.Proofs.YtlagdgkjpnocfaaGreatDoor.W.quiet_move rfl rfl) ?_
      refine W.op rfl rfl rfl (Go.Proofs.YtlagdgkjpnocfaaGreatDoor.W.quiet_bin rfl rfl rfl (fun W => er_eq1 W _ _ _)) ?_
      refine W.op rfl rfl rfl (Go.Proofs.YtlagdgkjpnocfaaGreatDoor.W.quiet_assign rfl rfl) ?_
      refine W.op rfl rfl rfl (Go.Proofs.YtlagdgkjpnocfaaGreatDoor.W.quiet_assign rfl rfl) ?_
      refine Q.nil (T.tw fun wq2 fq2 => ?_)
      refine TW.rt ?_
      refine Xw.thn (by simp) ?_
      refine O.ret2 rfl rfl rfl ?_
      exact ⟨by rw [hpw]; simp [h0], (f1.trans (f2.trans f3)).trans fq2⟩
  · skip
    rw [if_neg (by rw [hpf]; decide)] at hpw
    have ff := f1.trans f2
    have KP := t_parse b (by omega) w2 (he.fr ff id id) (hm.fr ff id)
    unfold PaP at KP
    cases hp : parseR b
    · rw [hp] at KP hpw
      simp only at KP hpw
      refine TW.skip ?_
      refine TW.sreg ?_
      refine WL.op rfl rfl rfl (Go.Proofs.YtlagdgkjpnocfaaGreatDoor.W.quiet_move rfl rfl) ?_
      refine WL.call (hr := KP) rfl rfl rfl rfl rfl (fun W => qk_listing_parse W _) ?_
      rintro e w3 ⟨rfl, f3⟩
      refine ⟨.tuple #[.agg #[.int .i64 0, .int .i64 0, .int .i64 0, .int .i64 0, .int .i64 0], .bool false], rfl, ?_⟩
      refine WL.op rfl rfl rfl (Go.Proofs.YtlagdgkjpnocfaaGreatDoor.W.quiet_move rfl rfl) ?_
      refine O.ext rfl rfl rfl rfl rfl rfl ?_
      refine O.ext rfl rfl rfl rfl rfl rfl ?_
      refine O.split (fun hb => by exfalso; revert hb; first | (simp; done) | (simp; omega)) (fun hb => ?_)
      refine WL.alloc rfl rfl rfl rfl (pal_ins _) ?_
      have fa := fr_al (Fr.refl (fun _ => False) w3) (.cells #[.int .i64 0, .int .i64 0, .int .i64 0, .int .i64 0, .int .i64 0] 23)
      have ra : RwL (w3.alloc (.cells #[.int .i64 0, .int .i64 0, .int .i64 0, .int .i64 0, .int .i64 0] 23)) w3.heap.size #[.int .i64 0, .int .i64 0, .int .i64 0, .int .i64 0, .int .i64 0] 23 := heap_alloc_new w3 _
      generalize w3.alloc (.cells #[.int .i64 0, .int .i64 0, .int .i64 0, .int .i64 0, .int .i64 0] 23) = wa at *
      obtain ⟨ba, hba⟩ : ∃ z, w3.heap.size = z := ⟨_, rfl⟩
      rw [hba] at ra ⊢
      obtain ⟨w4, sa, qa, ga⟩ := st_ins wa ba _ _ _ _ _ 0 0 0 0 0 ra
      have fn : Fr (fun _ => False) w3 w4 := fa.trans' ga (fun q hq e => by omega)
      -- world w4
      refine WL.store rfl rfl rfl rfl rfl sa ?_
      refine WL.op rfl rfl rfl (Go.Proofs.YtlagdgkjpnocfaaGreatDoor.W.quiet_assign rfl rfl) ?_
      refine WL.nil ?_
      refine TW.seq ?_
      refine TW.sreg ?_
      refine WL.op rfl rfl rfl (Go.Proofs.YtlagdgkjpnocfaaGreatDoor.W.quiet_move rfl rfl) ?_
      refine WL.op rfl rfl rfl (Go.Proofs.YtlagdgkjpnocfaaGreatDoor.W.quiet_not rfl rfl) ?_
      refine WL.nil ?_
      refine TW.cond rfl (fun _ => ?_) (fun hb => by cases hb)
      refine TW.sreg ?_
      refine WL.op rfl rfl rfl (Go.Proofs.YtlagdgkjpnocfaaGreatDoor.W.quiet_assign rfl rfl) ?_
      refine WL.op rfl rfl rfl (Go.Proofs.YtlagdgkjpnocfaaGreatDoor.W.quiet_assign rfl rfl) ?_
      refine WL.nil ?_
      refine TW.rt ?_
      refine Xw.thn (by simp) ?_
      refine O.ret2 rfl rfl rfl ?_
      exact ⟨by rw [hpw]; rfl, (ff.trans f3).trans fn⟩
    · rename_i i
      rw [hp] at KP hpw
      simp only at KP hpw
      refine TW.skip ?_
      refine TW.sreg ?_
      refine WL.op rfl rfl rfl (Go.Proofs.YtlagdgkjpnocfaaGreatDoor.W.quiet_move rfl rfl) ?_
      refine WL.call (hr := KP) rfl rfl rfl rfl rfl (fun W => qk_listing_parse W _) ?_
      rintro e w3 ⟨rfl, f3⟩
      refine ⟨.tuple #[.agg #[.int .i64 i.op, .int .i64 i.rd, .int .i64 i.r1, .int .i64 i.r2, .int .i64 i.imm], .bool true], rfl, ?_⟩
      refine WL.op rfl rfl rfl (Go.Proofs.YtlagdgkjpnocfaaGreatDoor.W.quiet_move rfl rfl) ?_
      refine O.ext rfl rfl rfl rfl rfl rfl ?_
      refine O.ext rfl rfl rfl rfl rfl rfl ?_
      refine O.split (fun hb => ?_) (fun hb => by exfalso; revert hb; first | (simp; done) | (simp; omega))
      refine WL.alloc rfl rfl rfl rfl (pal_ins _) ?_
      have fa := fr_al (Fr.refl (fun _ => False) w3) (.cells #[.int .i64 0, .int .i64 0, .int .i64 0, .int .i64 0, .int .i64 0] 23)
      have ra : RwL (w3.alloc (.cells #[.int .i64 0, .int .i64 0, .int .i64 0, .int .i64 0, .int .i64 0] 23)) w3.heap.size #[.int .i64 0, .int .i64 0, .int .i64 0, .int .i64 0, .int .i64 0] 23 := heap_alloc_new w3 _
      generalize w3.alloc (.cells #[.int .i64 0, .int .i64 0, .int .i64 0, .int .i64 0, .int .i64 0] 23) = wa at *
      obtain ⟨ba, hba⟩ : ∃ z, w3.heap.size = z := ⟨_, rfl⟩
      rw [hba] at ra ⊢
      obtain ⟨w4, sa, qa, ga⟩ := st_ins wa ba _ _ _ _ _ i.op i.rd i.r1 i.r2 i.imm ra
      have fn : Fr (fun _ => False) w3 w4 := fa.trans' ga (fun q hq e => by omega)
      -- world w4
      refine WL.store rfl rfl rfl rfl rfl sa ?_
      refine WL.op rfl rfl rfl (Go.Proofs.YtlagdgkjpnocfaaGreatDoor.W.quiet_assign rfl rfl) ?_
      refine WL.nil ?_
      refine TW.seq ?_
      refine TW.sreg ?_
      refine WL.op rfl rfl rfl (Go.Proofs.YtlagdgkjpnocfaaGreatDoor.W.quiet_move rfl rfl) ?_
      refine WL.op rfl rfl rfl (Go.Proofs.YtlagdgkjpnocfaaGreatDoor.W.quiet_not rfl rfl) ?_
      refine WL.nil ?_
      refine TW.cond rfl (fun hb => by cases hb) (fun _ => ?_)
      refine TW.skip ?_
      refine TW.sreg ?_
      refine WL.ld rfl rfl rfl rfl rfl (ldins _ _ _ _ _ _ _ _ (qa.cell (j := 0) rfl) (by rw [Nat.zero_add]; exact (qa.cell (j := 1) rfl)) (by rw [Nat.zero_add]; exact (qa.cell (j := 2) rfl)) (by rw [Nat.zero_add]; exact (qa.cell (j := 3) rfl)) (by rw [Nat.zero_add]; exact (qa.cell (j := 4) rfl))) ?_
      cases hR : fitsB i.rd i.r1 i.r2 i.imm (fm (ix i.op))
      · rw [hR] at hpw
        simp only [Bool.false_eq_true, if_false] at hpw
        refine WL.call (hr := c52_no i.op i.rd i.r1 i.r2 i.imm w4 hR) rfl rfl rfl rfl rfl (fun W => qk_inst_Encode W _) ?_
        rintro e w5 ⟨rfl, g5⟩
        refine ⟨_, rfl, ?_⟩
        refine WL.op rfl rfl rfl (Go.Proofs.YtlagdgkjpnocfaaGreatDoor.W.quiet_move rfl rfl) ?_
        refine O.ext rfl rfl rfl rfl rfl rfl ?_
        refine O.ext rfl rfl rfl rfl rfl rfl ?_
        refine WL.op rfl rfl rfl (Go.Proofs.YtlagdgkjpnocfaaGreatDoor.W.quiet_assign rfl rfl) ?_
        refine WL.op rfl rfl rfl (Go.Proofs.YtlagdgkjpnocfaaGreatDoor.W.quiet_assign rfl rfl) ?_
        refine WL.nil ?_
        refine TW.sreg ?_
        refine WL.op rfl rfl rfl (Go.Proofs.YtlagdgkjpnocfaaGreatDoor.W.quiet_move rfl rfl) ?_
        refine WL.op rfl rfl rfl (Go.Proofs.YtlagdgkjpnocfaaGreatDoor.W.quiet_move rfl rfl) ?_
        refine WL.op rfl rfl rfl (Go.Proofs.YtlagdgkjpnocfaaGreatDoor.W.quiet_bin rfl rfl rfl (fun W => qb_eql_api_Errno W _ _ _ _)) ?_
        refine WL.op rfl rfl rfl (Go.Proofs.YtlagdgkjpnocfaaGreatDoor.W.quiet_assign rfl rfl) ?_
        refine WL.op rfl rfl rfl (Go.Proofs.YtlagdgkjpnocfaaGreatDoor.W.quiet_assign rfl rfl) ?_
        refine WL.nil ?_
        refine TW.rt ?_
        refine O.ret2 rfl rfl rfl ?_
        exact ⟨by rw [hpw]; rfl, (ff.trans f3).trans (fn.trans (Fr.of_grown g5))⟩
      · rw [hR] at hpw
        simp only [if_true] at hpw
        refine WL.call (hr := c52_yes i.op i.rd i.r1 i.r2 i.imm w4 hR) rfl rfl rfl rfl rfl (fun W => qk_inst_Encode W _) ?_
        rintro e w5 ⟨rfl, g5⟩
        refine ⟨_, rfl, ?_⟩
        refine WL.op rfl rfl rfl (Go.Proofs.YtlagdgkjpnocfaaGreatDoor.W.quiet_move rfl rfl) ?_
        refine O.ext rfl rfl rfl rfl rfl rfl ?_
        refine O.ext rfl rfl rfl rfl rfl rfl ?_
        refine WL.op rfl rfl rfl (Go.Proofs.YtlagdgkjpnocfaaGreatDoor.W.quiet_assign rfl rfl) ?_
        refine WL.op rfl rfl rfl (Go.Proofs.YtlagdgkjpnocfaaGreatDoor.W.quiet_assign rfl rfl) ?_
        refine WL.nil ?_
        refine TW.sreg ?_
        refine WL.op rfl rfl rfl (Go.Proofs.YtlagdgkjpnocfaaGreatDoor.W.quiet_move rfl rfl) ?_
        refine WL.op rfl rfl rfl (Go.Proofs.YtlagdgkjpnocfaaGreatDoor.W.quiet_move rfl rfl) ?_
        refine WL.op rfl rfl rfl (Go.Proofs.YtlagdgkjpnocfaaGreatDoor.W.quiet_bin rfl rfl rfl (fun W => qb_eql_api_Errno W _ _ _ _)) ?_
        refine WL.op rfl rfl rfl (Go.Proofs.YtlagdgkjpnocfaaGreatDoor.W.quiet_assign rfl rfl) ?_
        refine WL.op rfl rfl rfl (Go.Proofs.YtlagdgkjpnocfaaGreatDoor.W.quiet_assign rfl rfl) ?_
        refine WL.nil ?_
        refine TW.rt ?_
        refine O.ret2 rfl rfl rfl ?_
        have he0 := encW_in i.op i.rd i.r1 i.r2 i.imm
        exact ⟨by rw [hpw]; simp only [Int.toNat_of_nonneg he0.1]; rfl, (ff.trans f3).trans (fn.trans (Fr.of_grown g5))⟩
end Go.Proofs.YtlagdgkjpnocfaaGreatDoor
