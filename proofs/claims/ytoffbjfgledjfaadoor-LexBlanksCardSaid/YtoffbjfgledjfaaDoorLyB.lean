/-
  Lex (layer 7): strings and numbers of the library.
-/
import Derived.Test.YtoffbjfgledjfaaDoorLyA
import Derived.Test.YtoffbjfgledjfaaDoorLexP
import Derived.Test.YtoffbjfgledjfaaDoorWt
import Derived.Test.YtoffbjfgledjfaaDoorBldA
namespace Go.Proofs.YtoffbjfgledjfaaDoor
open Go.RowKit
set_option linter.unusedVariables false
set_option linter.unusedSimpArgs false
set_option linter.unnecessarySimpa false
theorem qm_strconv_Error (w : World) (m : Int) : (Instr.makeInterface 79 (.int .i64 m)).run Tryd.prog w = .ok (.iface 79 (.int .i64 m)) w := by simp [go_sem]
theorem qb_eql_int (w : World) (x y : Operand) (m n : Int) : ((do eqGuard .eql 3 x y (.int .i64 m) (.int .i64 n); binOp .eql 3 (.int .i64 m) (.int .i64 n) : Sem Value)).run Tryd.prog w = .ok (.bool (m == n)) w := by simp [go_sem]
theorem qb_leq_int (w : World) (x y : Operand) (m n : Int) : ((do eqGuard .leq 3 x y (.int .i64 m) (.int .i64 n); binOp .leq 3 (.int .i64 m) (.int .i64 n) : Sem Value)).run Tryd.prog w = .ok (.bool (decide (m ≤ n))) w := by simp [go_sem]
theorem qb_lss_int (w : World) (x y : Operand) (m n : Int) : ((do eqGuard .lss 3 x y (.int .i64 m) (.int .i64 n); binOp .lss 3 (.int .i64 m) (.int .i64 n) : Sem Value)).run Tryd.prog w = .ok (.bool (decide (m < n))) w := by simp [go_sem]
theorem qb_gtr_int (w : World) (x y : Operand) (m n : Int) : ((do eqGuard .gtr 3 x y (.int .i64 m) (.int .i64 n); binOp .gtr 3 (.int .i64 m) (.int .i64 n) : Sem Value)).run Tryd.prog w = .ok (.bool (decide (n < m))) w := by simp [go_sem]
theorem qc_int_uint (w : World) (m : Int) (h0 : 0 ≤ m) (h1 : m ≤ 18446744073709551615) : (convert 3 75 (.int .i64 m)).run Tryd.prog w = .ok (.int .u64 m) w := by
  have h : IntKind.u64.wrap m = m := IntWalk.u64_in _ (by omega)
  simp [go_sem, h]
theorem qb_sub_uint64 (w : World) (x y : Operand) (m n : Int) (h0 : 0 ≤ m - n) (h1 : m - n ≤ 18446744073709551615) : ((do eqGuard .sub 67 x y (.int .u64 m) (.int .u64 n); binOp .sub 67 (.int .u64 m) (.int .u64 n) : Sem Value)).run Tryd.prog w = .ok (.int .u64 (m - n)) w := by
  have h : IntKind.u64.wrap (m - n) = m - n := IntWalk.u64_in _ (by omega)
  simp [go_sem, h]
theorem qn_s_uint8 (w : World) (a : Option Addr) (k l : Nat) : (Builtin.len_ #[34] 3 #[.slice a k l]).run Tryd.prog w = .ok (.int .i64 k) w := by simp [go_sem]
theorem qi_s_uint8 (w : World) (b o n c j : Nat) (hj : j < n) : (Instr.indexAt 34 (.slice (some ⟨b, o, none⟩) n c) (.int .i64 (j : Int))).run Tryd.prog w = .ok (.pointer (some ⟨b, o + j, none⟩)) w := by
  have h : (j : Int) < (n : Int) := by omega
  simp [go_sem, h, hj]
theorem ql_uint8 (w : World) (m : Int) (d : Addr) (h : w.cell? d = some (.int .u8 m)) : (Instr.loadAt 5 (.pointer (some d))).run Tryd.prog w = .ok (.int .u8 m) w := by simp [go_sem, h]
theorem qb_eql_uint8 (w : World) (x y : Operand) (m n : Int) : ((do eqGuard .eql 5 x y (.int .u8 m) (.int .u8 n); binOp .eql 5 (.int .u8 m) (.int .u8 n) : Sem Value)).run Tryd.prog w = .ok (.bool (m == n)) w := by simp [go_sem]
theorem qb_leq_uint8 (w : World) (x y : Operand) (m n : Int) : ((do eqGuard .leq 5 x y (.int .u8 m) (.int .u8 n); binOp .leq 5 (.int .u8 m) (.int .u8 n) : Sem Value)).run Tryd.prog w = .ok (.bool (decide (m ≤ n))) w := by simp [go_sem]
theorem qb_sub_uint8 (w : World) (x y : Operand) (m n : Int) (h0 : 0 ≤ m - n) (h1 : m - n ≤ 255) : ((do eqGuard .sub 5 x y (.int .u8 m) (.int .u8 n); binOp .sub 5 (.int .u8 m) (.int .u8 n) : Sem Value)).run Tryd.prog w = .ok (.int .u8 (m - n)) w := by
  have h : IntKind.u8.wrap (m - n) = m - n := IntWalk.u8_in _ (by omega)
  simp [go_sem, h]
theorem qc_int_uint8 (w : World) (m : Int) (h0 : 0 ≤ m) (h1 : m ≤ 255) : (convert 3 5 (.int .i64 m)).run Tryd.prog w = .ok (.int .u8 m) w := by
  have h : IntKind.u8.wrap m = m := IntWalk.u8_in _ (by omega)
  simp [go_sem, h]
theorem qb_geq_uint8 (w : World) (x y : Operand) (m n : Int) : ((do eqGuard .geq 5 x y (.int .u8 m) (.int .u8 n); binOp .geq 5 (.int .u8 m) (.int .u8 n) : Sem Value)).run Tryd.prog w = .ok (.bool (decide (n ≤ m))) w := by simp [go_sem]
theorem qb_geq_uint64 (w : World) (x y : Operand) (m n : Int) : ((do eqGuard .geq 67 x y (.int .u64 m) (.int .u64 n); binOp .geq 67 (.int .u64 m) (.int .u64 n) : Sem Value)).run Tryd.prog w = .ok (.bool (decide (n ≤ m))) w := by simp [go_sem]
theorem qc_int_uint64 (w : World) (m : Int) (h0 : 0 ≤ m) (h1 : m ≤ 18446744073709551615) : (convert 3 67 (.int .i64 m)).run Tryd.prog w = .ok (.int .u64 m) w := by
  have h : IntKind.u64.wrap m = m := IntWalk.u64_in _ (by omega)
  simp [go_sem, h]
theorem qb_mul_uint64 (w : World) (x y : Operand) (m n : Int) (h0 : 0 ≤ m * n) (h1 : m * n ≤ 18446744073709551615) : ((do eqGuard .mul 67 x y (.int .u64 m) (.int .u64 n); binOp .mul 67 (.int .u64 m) (.int .u64 n) : Sem Value)).run Tryd.prog w = .ok (.int .u64 (m * n)) w := by
  have h : IntKind.u64.wrap (m * n) = m * n := IntWalk.u64_in _ (by omega)
  simp [go_sem, h]
theorem qc_uint8_uint64 (w : World) (m : Int) (h0 : 0 ≤ m) (h1 : m ≤ 18446744073709551615) : (convert 5 67 (.int .u8 m)).run Tryd.prog w = .ok (.int .u64 m) w := by
  have h : IntKind.u64.wrap m = m := IntWalk.u64_in _ (by omega)
  simp [go_sem, h]
theorem qb_add_uint64 (w : World) (x y : Operand) (m n : Int) (h0 : 0 ≤ m + n) (h1 : m + n ≤ 18446744073709551615) : ((do eqGuard .add 67 x y (.int .u64 m) (.int .u64 n); binOp .add 67 (.int .u64 m) (.int .u64 n) : Sem Value)).run Tryd.prog w = .ok (.int .u64 (m + n)) w := by
  have h : IntKind.u64.wrap (m + n) = m + n := IntWalk.u64_in _ (by omega)
  simp [go_sem, h]
theorem qb_lss_uint64 (w : World) (x y : Operand) (m n : Int) : ((do eqGuard .lss 67 x y (.int .u64 m) (.int .u64 n); binOp .lss 67 (.int .u64 m) (.int .u64 n) : Sem Value)).run Tryd.prog w = .ok (.bool (decide (m < n))) w := by simp [go_sem]
theorem qb_gtr_uint64 (w : World) (x y : Operand) (m n : Int) : ((do eqGuard .gtr 67 x y (.int .u64 m) (.int .u64 n); binOp .gtr 67 (.int .u64 m) (.int .u64 n) : Sem Value)).run Tryd.prog w = .ok (.bool (decide (n < m))) w := by simp [go_sem]
theorem qb_add_int (w : World) (x y : Operand) (m n : Int) (h0 : -9223372036854775808 ≤ m + n) (h1 : m + n ≤ 9223372036854775807) : ((do eqGuard .add 3 x y (.int .i64 m) (.int .i64 n); binOp .add 3 (.int .i64 m) (.int .i64 n) : Sem Value)).run Tryd.prog w = .ok (.int .i64 (m + n)) w := by
  have h : IntKind.i64.wrap (m + n) = m + n := IntWalk.i64_in _ (by omega)
  simp [go_sem, h]
theorem qk_internal_strconv_lower (w : World) (vs : Array Value) : (callFunc 51 vs).run Tryd.prog w = .ok (.enter 51 vs) w := by simp [go_sem]
theorem qb_add_uint8 (w : World) (x y : Operand) (m n : Int) (h0 : 0 ≤ m + n) (h1 : m + n ≤ 255) : ((do eqGuard .add 5 x y (.int .u8 m) (.int .u8 n); binOp .add 5 (.int .u8 m) (.int .u8 n) : Sem Value)).run Tryd.prog w = .ok (.int .u8 (m + n)) w := by
  have h : IntKind.u8.wrap (m + n) = m + n := IntWalk.u8_in _ (by omega)
  simp [go_sem, h]
theorem qk_internal_strconv_ParseUint (w : World) (vs : Array Value) : (callFunc 47 vs).run Tryd.prog w = .ok (.enter 47 vs) w := by simp [go_sem]
theorem qk_strconv_toError (w : World) (vs : Array Value) : (callFunc 48 vs).run Tryd.prog w = .ok (.enter 48 vs) w := by simp [go_sem]
abbrev bts (l : List UInt8) : Value := .string ⟨l.toArray⟩
theorem bn_eqs (w : World) (x y : Operand) (a b : List UInt8) : (do eqGuard .eql 9 x y (bts a) (bts b); binOp .eql 9 (bts a) (bts b) : Sem Value).run Tryd.prog w = .ok (.bool (decide (a = b))) w := by
  by_cases h : a = b
  · subst h; simp [go_sem]
  · simp [go_sem, h]
def MlW (w : World) : Prop := ∃ m, w.cell? ⟨0, 0, none⟩ = some (.int .i64 m)
theorem MlW.fr {w w' : World} {F : Nat → Prop} (h : MlW w) (hf : Fr F w w') (h1 : ¬F 0) : MlW w' := by
  obtain ⟨m, h⟩ := h
  exact ⟨m, hf.cell h h1⟩
def ErW (w : World) : Prop := (∃ t p, w.cell? ⟨1, 0, none⟩ = some (.iface t p)) ∧ ∃ t p, w.cell? ⟨2, 0, none⟩ = some (.iface t p)
theorem ErW.fr {w w' : World} {F : Nat → Prop} (h : ErW w) (hf : Fr F w w') (h1 : ¬F 1) (h2 : ¬F 2) : ErW w' := by
  obtain ⟨⟨t, p, a⟩, u, q, b⟩ := h
  exact ⟨⟨t, p, hf.cell a h1⟩, u, q, hf.cell b h2⟩
/-- A letter in lower case, as the library has it. -/
def lw (c : UInt8) : Int := bits .or .u8 (c.toNat : Int) 32
theorem lw_fin : ∀ k : Fin 256, 0 ≤ bits .or .u8 (k.val : Int) 32 ∧ bits .or .u8 (k.val : Int) 32 ≤ 255 := by decide +kernel
theorem lw_in (c : UInt8) : 0 ≤ lw c ∧ lw c ≤ 255 := lw_fin ⟨c.toNat, c.toNat_lt⟩
theorem lw_95 : bits .or .u8 95 32 = 127 := by decide +kernel
/-- The digit that a byte is. -/
def dvH (c : UInt8) : Option Nat := if 48 ≤ c.toNat ∧ c.toNat ≤ 57 then some (c.toNat - 48) else if 97 ≤ lw c ∧ lw c ≤ 122 then some (lw c - 87).toNat else none
/-- A number to base 16, at most 32 bits wide: the value and 0, or an error's number. -/
def pU : List UInt8 → Nat → Nat × Nat
  | [], n => (n, 0)
  | c :: r, n => match dvH c with
    | none => (0, 2)
    | some d => if 16 ≤ d then (0, 2) else if 4294967295 < n * 16 + d then (4294967295, 1) else pU r (n * 16 + d)
def puT (s : List UInt8) : Nat × Nat := if s = [] then (0, 2) else pU s 0
theorem pU_lt : ∀ (s : List UInt8) (n : Nat), n ≤ 4294967295 → (pU s n).1 ≤ 4294967295
  | [], n, h => h
  | c :: r, n, h => by
    unfold pU
    split
    · exact Nat.zero_le _
    · split
      · exact Nat.zero_le _
      · split
        · exact Nat.le_refl _
        · exact pU_lt r _ (by omega)
theorem puT_lt (s : List UInt8) : (puT s).1 ≤ 4294967295 := by
  unfold puT
  split
  · exact Nat.zero_le _
  · exact pU_lt _ _ (by omega)
theorem pU_code : ∀ (s : List UInt8) (n : Nat), (pU s n).2 = 0 ∨ (pU s n).2 = 1 ∨ (pU s n).2 = 2
  | [], n => .inl rfl
  | c :: r, n => by
    unfold pU
    split
    · exact .inr (.inr rfl)
    · split
      · exact .inr (.inr rfl)
      · split
        · exact .inr (.inl rfl)
        · exact pU_code r _
theorem puT_code (s : List UInt8) : (puT s).2 = 0 ∨ (puT s).2 = 1 ∨ (puT s).2 = 2 := by
  unfold puT
  split
  · exact .inr (.inr rfl)
  · exact pU_code _ _
def IpV (r : Nat × Nat) : Value := .tuple #[.int .u64 (r.1 : Int), if r.2 = 0 then .nilIface else .iface 79 (.int .i64 (r.2 : Int))]
theorem drop_at (s : List UInt8) (j : Nat) (h : j < s.length) : s.drop j = s[j] :: s.drop (j + 1) := List.drop_eq_getElem_cons h
theorem cv_sb (w : World) (s : List UInt8) : ∃ c w', (convert 9 34 (bts s)).run Tryd.prog w = .ok (.slice (some ⟨w.heap.size, 0, none⟩) s.length c) w' ∧ Fr (fun _ => False) w w' ∧ ∀ j (h : j < s.length), w'.cell? ⟨w.heap.size, j, none⟩ = some (.int .u8 (s[j].toNat : Int)) := by
  refine ⟨_, _, run_bytes_of_string w 9 34 5 ⟨s.toArray⟩ Tryd.underlying9 Tryd.underlying34 Tryd.underlying5, fr_al ((Fr.refl _ w).drewN 1) _, fun j h => ?_⟩
  rw [show w.heap.size = w.drew.heap.size from rfl]
  rw [cell_of_row _ _ _ _ _ _ (heap_alloc_new _ _)]
  exact bytesRow_at ⟨s.toArray⟩ _ j (by simpa using h)
theorem bn_shl (w : World) (x y : Operand) : (do eqGuard .shl 67 x y (.int .u64 1) (.int .u64 32); binOp .shl 67 (.int .u64 1) (.int .u64 32) : Sem Value).run Tryd.prog w = .ok (.int .u64 4294967296) w := by
  have h : IntKind.u64.wrap 4294967296 = 4294967296 := by decide
  simp [go_sem, h]
theorem bn_or32 (w : World) (x y : Operand) (c : UInt8) : ((do eqGuard .or 5 x y (.int .u8 (c.toNat : Int)) (.int .u8 32); binOp .or 5 (.int .u8 (c.toNat : Int)) (.int .u8 32) : Sem Value)).run Tryd.prog w = .ok (.int .u8 (lw c)) w := by simp [go_sem, lw]
set_option maxRecDepth 100000 in
theorem t_lower (c : UInt8) (w : World) : Calls Tryd.prog 51 #[.int .u8 (c.toNat : Int)] w fun e w' => e = .returned (.int .u8 (lw c)) ∧ w' = w := by
  refine calls_tw Tryd.func51 rfl rfl (Nat.le_of_ble_eq_true rfl) ?_
  refine TW.sreg ?_
  refine WL.op rfl rfl rfl (Go.Proofs.YtoffbjfgledjfaaDoor.W.quiet_assign rfl rfl) ?_
  refine WL.nil ?_
  refine TW.sreg ?_
  refine WL.op rfl rfl rfl (Go.Proofs.YtoffbjfgledjfaaDoor.W.quiet_move rfl rfl) ?_
  refine WL.op rfl rfl rfl (Go.Proofs.YtoffbjfgledjfaaDoor.W.quiet_bin rfl rfl rfl (fun W => bn_or32 W _ _ c)) ?_
  refine WL.op rfl rfl rfl (Go.Proofs.YtoffbjfgledjfaaDoor.W.quiet_assign rfl rfl) ?_
  refine WL.nil ?_
  refine TW.rt ?_
  refine bodyw_ret rfl rfl ?_
  exact ⟨rfl, rfl⟩
set_option maxRecDepth 100000 in
theorem t_iparse (s : List UInt8) (hs : s.length ≤ 1000000) (w : World) : Calls Tryd.prog 47 #[bts s, .int .i64 16, .int .i64 32] w fun e w' => e = .returned (IpV (puT s)) ∧ Fr (fun _ => False) w w' := by
  refine calls_tw Tryd.func47 rfl rfl (Nat.le_of_ble_eq_true rfl) ?_
  refine TW.sreg ?_
  refine WL.op rfl rfl rfl (Go.Proofs.YtoffbjfgledjfaaDoor.W.quiet_assign rfl rfl) ?_
  refine WL.op rfl rfl rfl (Go.Proofs.YtoffbjfgledjfaaDoor.W.quiet_assign rfl rfl) ?_
  refine WL.nil ?_
  refine TW.seq ?_
  refine TW.sreg ?_
  refine WL.op rfl rfl rfl (Go.Proofs.YtoffbjfgledjfaaDoor.W.quiet_move rfl rfl) ?_
  refine WL.op rfl rfl rfl (Go.Proofs.YtoffbjfgledjfaaDoor.W.quiet_bin rfl rfl rfl (fun W => bn_eqs W _ _ _ _)) ?_
  refine O.split (fun he => ?_) (fun he => ?_)
  · skip
    refine WL.nil ?_
    refine TW.cond rfl (fun _ => ?_) (fun hb => by cases hb)
    refine TW.sreg ?_
    refine O.mi rfl rfl rfl rfl rfl (qm_strconv_Error _ _) ?_
    refine WL.op rfl rfl rfl (Go.Proofs.YtoffbjfgledjfaaDoor.W.quiet_assign rfl rfl) ?_
    refine WL.op rfl rfl rfl (Go.Proofs.YtoffbjfgledjfaaDoor.W.quiet_assign rfl rfl) ?_
    refine WL.nil ?_
    refine TW.rt ?_
    refine Xw.thn (by simp) ?_
    refine O.ret2 rfl rfl rfl ?_
    have q : puT s = (0, 2) := by unfold puT; rw [if_pos (of_decide_eq_true he)]
    exact ⟨by rw [q]; rfl, Fr.refl _ _⟩
  · skip
    have hpu : puT s = pU s 0 := by unfold puT; rw [if_neg (of_decide_eq_false he)]
    refine WL.nil ?_
    refine TW.cond rfl (fun hb => by cases hb) (fun _ => ?_)
    refine TW.skip ?_
    refine TW.sreg ?_
    refine WL.op rfl rfl rfl (Go.Proofs.YtoffbjfgledjfaaDoor.W.quiet_move rfl rfl) ?_
    refine WL.op rfl rfl rfl (Go.Proofs.YtoffbjfgledjfaaDoor.W.quiet_bin rfl rfl rfl (fun W => qb_eql_int W _ _ _ _)) ?_
    refine O.split (fun hb => by exfalso; revert hb; first | (simp; done) | (simp; omega)) (fun hb => ?_)
    refine WL.op rfl rfl rfl (Go.Proofs.YtoffbjfgledjfaaDoor.W.quiet_assign rfl rfl) ?_
    refine WL.nil ?_
    refine TW.sreg ?_
    refine WL.op rfl rfl rfl (Go.Proofs.YtoffbjfgledjfaaDoor.W.quiet_move rfl rfl) ?_
    refine WL.op rfl rfl rfl (Go.Proofs.YtoffbjfgledjfaaDoor.W.quiet_assign rfl rfl) ?_
    refine WL.nil ?_
    refine TW.seq ?_
    refine TW.block ?_
    refine TW.sreg ?_
    refine WL.op rfl rfl rfl (Go.Proofs.YtoffbjfgledjfaaDoor.W.quiet_move rfl rfl) ?_
    refine WL.op rfl rfl rfl (Go.Proofs.YtoffbjfgledjfaaDoor.W.quiet_bin rfl rfl rfl (fun W => qb_leq_int W _ _ _ _)) ?_
    refine O.split (fun hb => ?_) (fun hb => by exfalso; revert hb; first | (simp; done) | (simp; omega))
    refine WL.op rfl rfl rfl (Go.Proofs.YtoffbjfgledjfaaDoor.W.quiet_move rfl rfl) ?_
    refine WL.op rfl rfl rfl (Go.Proofs.YtoffbjfgledjfaaDoor.W.quiet_move rfl rfl) ?_
    refine WL.op rfl rfl rfl (Go.Proofs.YtoffbjfgledjfaaDoor.W.quiet_bin rfl rfl rfl (fun W => qb_leq_int W _ _ _ _)) ?_
    refine O.split (fun hb => ?_) (fun hb => by exfalso; revert hb; first | (simp; done) | (simp; omega))
    refine WL.op rfl rfl rfl (Go.Proofs.YtoffbjfgledjfaaDoor.W.quiet_pick rfl rfl rfl) ?_
    refine WL.op rfl rfl rfl (Go.Proofs.YtoffbjfgledjfaaDoor.W.quiet_assign rfl rfl) ?_
    refine WL.nil ?_
    refine TW.cond rfl (fun _ => ?_) (fun hb => by cases hb)
    refine TW.skipx ?_
    refine Xw.nblk ?_
    refine Xw.nrm ?_
    refine TW.seq ?_
    refine TW.sreg ?_
    refine WL.op rfl rfl rfl (Go.Proofs.YtoffbjfgledjfaaDoor.W.quiet_move rfl rfl) ?_
    refine WL.op rfl rfl rfl (Go.Proofs.YtoffbjfgledjfaaDoor.W.quiet_bin rfl rfl rfl (fun W => qb_eql_int W _ _ _ _)) ?_
    refine O.split (fun hb => by exfalso; revert hb; first | (simp; done) | (simp; omega)) (fun hb => ?_)
    refine WL.nil ?_
    refine TW.cond rfl (fun hb => by cases hb) (fun _ => ?_)
    refine TW.sreg ?_
    refine WL.op rfl rfl rfl (Go.Proofs.YtoffbjfgledjfaaDoor.W.quiet_move rfl rfl) ?_
    refine WL.op rfl rfl rfl (Go.Proofs.YtoffbjfgledjfaaDoor.W.quiet_bin rfl rfl rfl (fun W => qb_lss_int W _ _ _ _)) ?_
    refine O.split (fun hb => by exfalso; revert hb; first | (simp; done) | (simp; omega)) (fun hb => ?_)
    refine WL.op rfl rfl rfl (Go.Proofs.YtoffbjfgledjfaaDoor.W.quiet_move rfl rfl) ?_
    refine WL.op rfl rfl rfl (Go.Proofs.YtoffbjfgledjfaaDoor.W.quiet_move rfl rfl) ?_
    refine WL.op rfl rfl rfl (Go.Proofs.YtoffbjfgledjfaaDoor.W.quiet_bin rfl rfl rfl (fun W => qb_gtr_int W _ _ _ _)) ?_
    refine O.split (fun hb => by exfalso; revert hb; first | (simp; done) | (simp; omega)) (fun hb => ?_)
    refine WL.op rfl rfl rfl (Go.Proofs.YtoffbjfgledjfaaDoor.W.quiet_pick rfl rfl rfl) ?_
    refine WL.nil ?_
    refine TW.cond rfl (fun hb => by cases hb) (fun _ => ?_)
    refine TW.skip ?_
    refine TW.sreg ?_
    refine WL.op rfl rfl rfl (Go.Proofs.YtoffbjfgledjfaaDoor.W.quiet_assign rfl rfl) ?_
    refine WL.nil ?_
    refine TW.seq ?_
    refine TW.sreg ?_
    refine WL.op rfl rfl rfl (Go.Proofs.YtoffbjfgledjfaaDoor.W.quiet_move rfl rfl) ?_
    refine WL.nil ?_
    refine TW.block ?_
    refine TW.sreg ?_
    refine WL.op rfl rfl rfl (Go.Proofs.YtoffbjfgledjfaaDoor.W.quiet_bin rfl rfl rfl (fun W => qb_eql_int W _ _ _ _)) ?_
    refine O.split (fun hb => by exfalso; revert hb; first | (simp; done) | (simp; omega)) (fun hb => ?_)
    refine WL.op rfl rfl rfl (Go.Proofs.YtoffbjfgledjfaaDoor.W.quiet_assign rfl rfl) ?_
    refine WL.nil ?_
    refine TW.cond rfl (fun hb => by cases hb) (fun _ => ?_)
    refine TW.sreg ?_
    refine WL.op rfl rfl rfl (Go.Proofs.YtoffbjfgledjfaaDoor.W.quiet_bin rfl rfl rfl (fun W => qb_eql_int W _ _ _ _)) ?_
    refine O.split (fun hb => ?_) (fun hb => by exfalso; revert hb; first | (simp; done) | (simp; omega))
    refine WL.op rfl rfl rfl (Go.Proofs.YtoffbjfgledjfaaDoor.W.quiet_assign rfl rfl) ?_
    refine WL.nil ?_
    refine TW.cond rfl (fun _ => ?_) (fun hb => by cases hb)
    refine TW.reg ?_
    refine WL.op rfl rfl rfl (Go.Proofs.YtoffbjfgledjfaaDoor.W.quiet_assign rfl rfl) ?_
    refine WL.end ?_
    refine Xw.nblk ?_
    refine Xw.nrm ?_
    refine TW.sreg ?_
    refine WL.op rfl rfl rfl (Go.Proofs.YtoffbjfgledjfaaDoor.W.quiet_move rfl rfl) ?_
    refine O.cv rfl rfl rfl rfl rfl (qc_int_uint _ _ (by omega) (by omega)) ?_
    refine WL.op rfl rfl rfl (Go.Proofs.YtoffbjfgledjfaaDoor.W.quiet_bin rfl rfl rfl (fun W => bn_shl W _ _)) ?_
    refine WL.op rfl rfl rfl (Go.Proofs.YtoffbjfgledjfaaDoor.W.quiet_bin rfl rfl rfl (fun W => qb_sub_uint64 W _ _ _ _ (by omega) (by omega))) ?_
    refine WL.op rfl rfl rfl (Go.Proofs.YtoffbjfgledjfaaDoor.W.quiet_assign rfl rfl) ?_
    refine WL.nil ?_
    refine TW.sreg ?_
    refine WL.op rfl rfl rfl (Go.Proofs.YtoffbjfgledjfaaDoor.W.quiet_assign rfl rfl) ?_
    refine WL.nil ?_
    refine TW.sreg ?_
    refine WL.op rfl rfl rfl (Go.Proofs.YtoffbjfgledjfaaDoor.W.quiet_assign rfl rfl) ?_
    refine WL.nil ?_
    refine TW.seq ?_
    refine TW.sreg ?_
    refine WL.op rfl rfl rfl (Go.Proofs.YtoffbjfgledjfaaDoor.W.quiet_move rfl rfl) ?_
    obtain ⟨cp, w2, hcv, ff, hcs⟩ := cv_sb w s
    refine O.cv rfl rfl rfl rfl rfl hcv ?_
    generalize w.heap.size = g at hcs ⊢
    -- world w2
    refine O.len rfl rfl rfl rfl rfl (qn_s_uint8 _ _ _ _) ?_
    refine WL.op rfl rfl rfl (Go.Proofs.YtoffbjfgledjfaaDoor.W.quiet_move rfl rfl) ?_
    refine WL.nil ?_
    refine TW.block ?_
    refine O.loopG (n := s.length) (fun a _ => (intOf (a.tmps.getD 101 undef)).toNat) (fun j a W => ∃ (n : Nat), Kn Tryd.f47.ntmps [(0, bts s), (1, .int .i64 16), (8, .bool false), (10, .int .u64 1152921504606846976), (11, .int .u64 (4294967296 - 1)), (12, .bool false), (13, .int .u64 (n : Int)), (99, .slice (some ⟨g, 0, none⟩) s.length cp), (100, .int .i64 (s.length : Int)), (101, .int .i64 (j : Int))] a ∧ w2 = W ∧ n ≤ 4294967295 ∧ pU s 0 = pU (s.drop j) n) (fun j a W h => by obtain ⟨_, h⟩ := h; exact O.slotv h.1 rfl) 0 (Nat.zero_le _) (fun a k => ⟨0, (by (repeat (refine Kn.cons k rfl ?_)); exact k.base), rfl, by omega, by rw [List.drop_zero]⟩) ?_
    rintro j a wl hj ⟨n, k, rfl, hn, hp⟩
    refine TW.app (s := [(0, bts s), (1, .int .i64 16), (8, .bool false), (10, .int .u64 1152921504606846976), (11, .int .u64 (4294967296 - 1)), (12, .bool false), (13, .int .u64 (n : Int)), (99, .slice (some ⟨g, 0, none⟩) s.length cp), (100, .int .i64 (s.length : Int)), (101, .int .i64 (j : Int))]) ?_ k
    refine TW.sreg ?_
    refine WL.op rfl rfl rfl (Go.Proofs.YtoffbjfgledjfaaDoor.W.quiet_bin rfl rfl rfl (fun W => qb_lss_int W _ _ _ _)) ?_
    refine O.split (fun hlt => ?_) (fun hlt => ?_)
    · skip
      have hjl : j < s.length := by have := of_decide_eq_true hlt; omega
      have hcell := hcs j hjl
      obtain ⟨c, hc⟩ : ∃ c, c = s[j] := ⟨_, rfl⟩
      rw [← hc] at hcell
      have hc256 := c.toNat_lt
      have hlw := lw_in c
      refine WL.nil ?_
      refine TW.seq ?_
      refine TW.cond rfl (fun _ => ?_) (fun hb => by cases hb)
      refine TW.skip ?_
      refine TW.seq ?_
      refine TW.block ?_
      refine TW.sreg ?_
      refine O.ixa rfl rfl rfl rfl rfl rfl (qi_s_uint8 _ _ _ _ _ _ (by omega)) ?_
      refine WL.ld rfl rfl rfl rfl rfl (ql_uint8 _ _ _ (by rw [Nat.zero_add]; exact hcell)) ?_
      refine WL.op rfl rfl rfl (Go.Proofs.YtoffbjfgledjfaaDoor.W.quiet_assign rfl rfl) ?_
      refine WL.nil ?_
      refine TW.sreg ?_
      refine WL.op rfl rfl rfl (Go.Proofs.YtoffbjfgledjfaaDoor.W.quiet_assign rfl rfl) ?_
      refine WL.nil ?_
      refine TW.seq ?_
      refine TW.block ?_
      refine TW.sreg ?_
      refine WL.op rfl rfl rfl (Go.Proofs.YtoffbjfgledjfaaDoor.W.quiet_move rfl rfl) ?_
      refine WL.op rfl rfl rfl (Go.Proofs.YtoffbjfgledjfaaDoor.W.quiet_bin rfl rfl rfl (fun W => qb_eql_uint8 W _ _ _ _)) ?_
      refine O.split (fun h95b => ?_) (fun h95b => ?_)
      · skip
        have h95 : (c.toNat : Int) = 95 := eq_of_beq h95b
        have hlw95 : lw c = 127 := by unfold lw; rw [h95]; exact lw_95
        refine WL.op rfl rfl rfl (Go.Proofs.YtoffbjfgledjfaaDoor.W.quiet_move rfl rfl) ?_
        refine WL.op rfl rfl rfl (Go.Proofs.YtoffbjfgledjfaaDoor.W.quiet_move rfl rfl) ?_
        refine WL.op rfl rfl rfl (Go.Proofs.YtoffbjfgledjfaaDoor.W.quiet_pick rfl rfl rfl) ?_
        refine WL.op rfl rfl rfl (Go.Proofs.YtoffbjfgledjfaaDoor.W.quiet_assign rfl rfl) ?_
        refine WL.nil ?_
        refine TW.cond rfl (fun hb => by cases hb) (fun _ => ?_)
        refine TW.sreg ?_
        refine WL.op rfl rfl rfl (Go.Proofs.YtoffbjfgledjfaaDoor.W.quiet_move rfl rfl) ?_
        refine WL.op rfl rfl rfl (Go.Proofs.YtoffbjfgledjfaaDoor.W.quiet_bin rfl rfl rfl (fun W => qb_leq_uint8 W _ _ _ _)) ?_
        refine O.split (fun hb2 => ?_) (fun hb2 => ?_)
        · skip
          refine WL.op rfl rfl rfl (Go.Proofs.YtoffbjfgledjfaaDoor.W.quiet_move rfl rfl) ?_
          refine WL.op rfl rfl rfl (Go.Proofs.YtoffbjfgledjfaaDoor.W.quiet_move rfl rfl) ?_
          refine WL.op rfl rfl rfl (Go.Proofs.YtoffbjfgledjfaaDoor.W.quiet_bin rfl rfl rfl (fun W => qb_leq_uint8 W _ _ _ _)) ?_
          refine O.split (fun hb3 => ?_) (fun hb3 => ?_)
          · skip
            have h48 := of_decide_eq_true hb2
            have h57 := of_decide_eq_true hb3
            have hdv : dvH c = some (c.toNat - 48) := by unfold dvH; rw [if_pos (by omega)]
            obtain ⟨d, hd⟩ : ∃ d : Nat, (c.toNat : Int) - 48 = (d : Int) := ⟨c.toNat - 48, by omega⟩
            rw [show c.toNat - 48 = d by omega] at hdv
            refine WL.op rfl rfl rfl (Go.Proofs.YtoffbjfgledjfaaDoor.W.quiet_pick rfl rfl rfl) ?_
            refine WL.op rfl rfl rfl (Go.Proofs.YtoffbjfgledjfaaDoor.W.quiet_assign rfl rfl) ?_
            refine WL.nil ?_
            refine TW.cond rfl (fun _ => ?_) (fun hb => by cases hb)
            refine TW.reg ?_
            refine WL.op rfl rfl rfl (Go.Proofs.YtoffbjfgledjfaaDoor.W.quiet_move rfl rfl) ?_
            refine WL.op rfl rfl rfl (Go.Proofs.YtoffbjfgledjfaaDoor.W.quiet_bin rfl rfl rfl (fun W => (qb_sub_uint8 W _ _ _ _ (by omega) (by omega)).trans (by rw [hd]))) ?_
            refine WL.op rfl rfl rfl (Go.Proofs.YtoffbjfgledjfaaDoor.W.quiet_assign rfl rfl) ?_
            refine WL.end ?_
            refine Xw.nblk ?_
            refine Xw.nrm ?_
            refine TW.seq ?_
            refine TW.sreg ?_
            refine WL.op rfl rfl rfl (Go.Proofs.YtoffbjfgledjfaaDoor.W.quiet_move rfl rfl) ?_
            refine WL.op rfl rfl rfl (Go.Proofs.YtoffbjfgledjfaaDoor.W.quiet_move rfl rfl) ?_
            refine O.cv rfl rfl rfl rfl rfl (qc_int_uint8 _ _ (by omega) (by omega)) ?_
            refine WL.op rfl rfl rfl (Go.Proofs.YtoffbjfgledjfaaDoor.W.quiet_bin rfl rfl rfl (fun W => qb_geq_uint8 W _ _ _ _)) ?_
            refine O.split (fun hb => ?_) (fun hb => ?_)
            · skip
              refine WL.nil ?_
              refine TW.cond rfl (fun _ => ?_) (fun hb => by cases hb)
              refine TW.sreg ?_
              refine O.mi rfl rfl rfl rfl rfl (qm_strconv_Error _ _) ?_
              refine WL.op rfl rfl rfl (Go.Proofs.YtoffbjfgledjfaaDoor.W.quiet_assign rfl rfl) ?_
              refine WL.op rfl rfl rfl (Go.Proofs.YtoffbjfgledjfaaDoor.W.quiet_assign rfl rfl) ?_
              refine WL.nil ?_
              refine TW.rt ?_
              refine Xw.thn (by simp) ?_
              refine Xw.rblk ?_
              refine Xw.thn (by simp) ?_
              refine Xw.thn (by simp) ?_
              refine Xw.rblk ?_
              refine Xw.thn (by simp) ?_
              refine O.ret2 rfl rfl rfl ?_
              have q : puT s = (0, 2) := by
                rw [hpu, hp, drop_at s j hjl]
                unfold pU
                simp only [show s[j] = c from hc.symm, hdv]
                rw [if_pos (by have := of_decide_eq_true hb; omega)]
              exact ⟨by rw [q]; rfl, ff⟩
            · skip
              have hd16 : ¬ 16 ≤ d := by have := of_decide_eq_false hb; omega
              have hn2 : (n : Int) * 16 + (d : Int) = ((n * 16 + d : Nat) : Int) := by omega
              refine WL.nil ?_
              refine TW.cond rfl (fun hb => by cases hb) (fun _ => ?_)
              refine TW.skip ?_
              refine TW.seq ?_
              refine TW.sreg ?_
              refine WL.op rfl rfl rfl (Go.Proofs.YtoffbjfgledjfaaDoor.W.quiet_move rfl rfl) ?_
              refine WL.op rfl rfl rfl (Go.Proofs.YtoffbjfgledjfaaDoor.W.quiet_move rfl rfl) ?_
              refine WL.op rfl rfl rfl (Go.Proofs.YtoffbjfgledjfaaDoor.W.quiet_bin rfl rfl rfl (fun W => qb_geq_uint64 W _ _ _ _)) ?_
              refine O.split (fun hb => by exfalso; revert hb; first | (simp; done) | (simp; omega)) (fun hb => ?_)
              refine WL.nil ?_
              refine TW.cond rfl (fun hb => by cases hb) (fun _ => ?_)
              refine TW.skip ?_
              refine TW.sreg ?_
              refine WL.op rfl rfl rfl (Go.Proofs.YtoffbjfgledjfaaDoor.W.quiet_move rfl rfl) ?_
              refine WL.op rfl rfl rfl (Go.Proofs.YtoffbjfgledjfaaDoor.W.quiet_move rfl rfl) ?_
              refine O.cv rfl rfl rfl rfl rfl (qc_int_uint64 _ _ (by omega) (by omega)) ?_
              refine WL.op rfl rfl rfl (Go.Proofs.YtoffbjfgledjfaaDoor.W.quiet_bin rfl rfl rfl (fun W => qb_mul_uint64 W _ _ _ _ (by omega) (by omega))) ?_
              refine WL.op rfl rfl rfl (Go.Proofs.YtoffbjfgledjfaaDoor.W.quiet_assign rfl rfl) ?_
              refine WL.nil ?_
              refine TW.sreg ?_
              refine WL.op rfl rfl rfl (Go.Proofs.YtoffbjfgledjfaaDoor.W.quiet_move rfl rfl) ?_
              refine WL.op rfl rfl rfl (Go.Proofs.YtoffbjfgledjfaaDoor.W.quiet_move rfl rfl) ?_
              refine O.cv rfl rfl rfl rfl rfl (qc_uint8_uint64 _ _ (by omega) (by omega)) ?_
              refine WL.op rfl rfl rfl (Go.Proofs.YtoffbjfgledjfaaDoor.W.quiet_bin rfl rfl rfl (fun W => (qb_add_uint64 W _ _ _ _ (by omega) (by omega)).trans (by rw [hn2]))) ?_
              refine WL.op rfl rfl rfl (Go.Proofs.YtoffbjfgledjfaaDoor.W.quiet_assign rfl rfl) ?_
              refine WL.nil ?_
              refine TW.seq ?_
              refine TW.sreg ?_
              refine WL.op rfl rfl rfl (Go.Proofs.YtoffbjfgledjfaaDoor.W.quiet_move rfl rfl) ?_
              refine WL.op rfl rfl rfl (Go.Proofs.YtoffbjfgledjfaaDoor.W.quiet_move rfl rfl) ?_
              refine WL.op rfl rfl rfl (Go.Proofs.YtoffbjfgledjfaaDoor.W.quiet_bin rfl rfl rfl (fun W => qb_lss_uint64 W _ _ _ _)) ?_
              refine O.split (fun hb => by exfalso; revert hb; first | (simp; done) | (simp; omega)) (fun hb => ?_)
              refine WL.op rfl rfl rfl (Go.Proofs.YtoffbjfgledjfaaDoor.W.quiet_move rfl rfl) ?_
              refine WL.op rfl rfl rfl (Go.Proofs.YtoffbjfgledjfaaDoor.W.quiet_move rfl rfl) ?_
              refine WL.op rfl rfl rfl (Go.Proofs.YtoffbjfgledjfaaDoor.W.quiet_move rfl rfl) ?_
              refine WL.op rfl rfl rfl (Go.Proofs.YtoffbjfgledjfaaDoor.W.quiet_bin rfl rfl rfl (fun W => qb_gtr_uint64 W _ _ _ _)) ?_
              refine O.split (fun hb9 => ?_) (fun hb9 => ?_)
              · skip
                refine WL.op rfl rfl rfl (Go.Proofs.YtoffbjfgledjfaaDoor.W.quiet_pick rfl rfl rfl) ?_
                refine WL.nil ?_
                refine TW.cond rfl (fun _ => ?_) (fun hb => by cases hb)
                refine TW.sreg ?_
                refine WL.op rfl rfl rfl (Go.Proofs.YtoffbjfgledjfaaDoor.W.quiet_move rfl rfl) ?_
                refine O.mi rfl rfl rfl rfl rfl (qm_strconv_Error _ _) ?_
                refine WL.op rfl rfl rfl (Go.Proofs.YtoffbjfgledjfaaDoor.W.quiet_assign rfl rfl) ?_
                refine WL.op rfl rfl rfl (Go.Proofs.YtoffbjfgledjfaaDoor.W.quiet_assign rfl rfl) ?_
                refine WL.nil ?_
                refine TW.rt ?_
                refine Xw.thn (by simp) ?_
                refine Xw.rblk ?_
                refine Xw.thn (by simp) ?_
                refine Xw.thn (by simp) ?_
                refine Xw.rblk ?_
                refine Xw.thn (by simp) ?_
                refine O.ret2 rfl rfl rfl ?_
                have hbb := of_decide_eq_true hb9
                have q : puT s = (4294967295, 1) := by
                  rw [hpu, hp, drop_at s j hjl]
                  unfold pU
                  simp only [show s[j] = c from hc.symm, hdv]
                  rw [if_neg hd16, if_pos (by omega)]
                exact ⟨by rw [q]; rfl, ff⟩
              · skip
                have hbb := of_decide_eq_false hb9
                refine WL.op rfl rfl rfl (Go.Proofs.YtoffbjfgledjfaaDoor.W.quiet_pick rfl rfl rfl) ?_
                refine WL.nil ?_
                refine TW.cond rfl (fun hb => by cases hb) (fun _ => ?_)
                refine TW.skip ?_
                refine TW.reg ?_
                refine WL.op rfl rfl rfl (Go.Proofs.YtoffbjfgledjfaaDoor.W.quiet_move rfl rfl) ?_
                refine WL.op rfl rfl rfl (Go.Proofs.YtoffbjfgledjfaaDoor.W.quiet_assign rfl rfl) ?_
                refine WL.end ?_
                refine Xw.nblk ?_
                refine Xw.nrm ?_
                refine TW.reg ?_
                refine WL.op rfl rfl rfl (Go.Proofs.YtoffbjfgledjfaaDoor.W.quiet_bin rfl rfl rfl (fun W => qb_add_int W _ _ _ _ (by omega) (by omega))) ?_
                refine WL.op rfl rfl rfl (Go.Proofs.YtoffbjfgledjfaaDoor.W.quiet_move rfl rfl) ?_
                refine WL.end ?_
                refine Xw.any (fun a k => ?_)
                refine ⟨j + 1, by omega, by omega, n * 16 + d, by (repeat (refine Kn.cons k rfl ?_)); exact k.base, rfl, by omega, ?_⟩
                rw [hp, drop_at s j hjl]
                conv => lhs; unfold pU
                simp only [show s[j] = c from hc.symm, hdv]
                rw [if_neg hd16, if_neg (by omega)]
          · skip
            have h57 := of_decide_eq_false hb3
            refine WL.op rfl rfl rfl (Go.Proofs.YtoffbjfgledjfaaDoor.W.quiet_pick rfl rfl rfl) ?_
            refine WL.op rfl rfl rfl (Go.Proofs.YtoffbjfgledjfaaDoor.W.quiet_assign rfl rfl) ?_
            refine WL.nil ?_
            refine TW.cond rfl (fun hb => by cases hb) (fun _ => ?_)
            refine TW.sreg ?_
            refine WL.op rfl rfl rfl (Go.Proofs.YtoffbjfgledjfaaDoor.W.quiet_move rfl rfl) ?_
            refine WL.call (hr := (t_lower c w2)) rfl rfl rfl rfl rfl (fun W => qk_internal_strconv_lower W _) ?_
            rintro e wz ⟨rfl, hwz⟩
            refine ⟨_, rfl, ?_⟩
            obtain rfl := hwz.symm
            refine WL.op rfl rfl rfl (Go.Proofs.YtoffbjfgledjfaaDoor.W.quiet_bin rfl rfl rfl (fun W => qb_leq_uint8 W _ _ _ _)) ?_
            refine O.split (fun hb4 => ?_) (fun hb4 => ?_)
            · skip
              refine WL.op rfl rfl rfl (Go.Proofs.YtoffbjfgledjfaaDoor.W.quiet_move rfl rfl) ?_
              refine WL.op rfl rfl rfl (Go.Proofs.YtoffbjfgledjfaaDoor.W.quiet_move rfl rfl) ?_
              refine WL.call (hr := (t_lower c w2)) rfl rfl rfl rfl rfl (fun W => qk_internal_strconv_lower W _) ?_
              rintro e wz ⟨rfl, hwz⟩
              refine ⟨_, rfl, ?_⟩
              obtain rfl := hwz.symm
              refine WL.op rfl rfl rfl (Go.Proofs.YtoffbjfgledjfaaDoor.W.quiet_bin rfl rfl rfl (fun W => qb_leq_uint8 W _ _ _ _)) ?_
              refine O.split (fun hb5 => ?_) (fun hb5 => ?_)
              · skip
                have h97 : 97 ≤ lw c := of_decide_eq_true hb4
                have h122 : lw c ≤ 122 := of_decide_eq_true hb5
                have hdv : dvH c = some (lw c - 87).toNat := by unfold dvH; rw [if_neg (by omega), if_pos ⟨h97, h122⟩]
                obtain ⟨d, hd⟩ : ∃ d : Nat, lw c - 97 + 10 = (d : Int) := ⟨(lw c - 87).toNat, by omega⟩
                rw [show (lw c - 87).toNat = d by omega] at hdv
                refine WL.op rfl rfl rfl (Go.Proofs.YtoffbjfgledjfaaDoor.W.quiet_pick rfl rfl rfl) ?_
                refine WL.op rfl rfl rfl (Go.Proofs.YtoffbjfgledjfaaDoor.W.quiet_assign rfl rfl) ?_
                refine WL.nil ?_
                refine TW.cond rfl (fun _ => ?_) (fun hb => by cases hb)
                refine TW.reg ?_
                refine WL.op rfl rfl rfl (Go.Proofs.YtoffbjfgledjfaaDoor.W.quiet_move rfl rfl) ?_
                refine WL.call (hr := (t_lower c w2)) rfl rfl rfl rfl rfl (fun W => qk_internal_strconv_lower W _) ?_
                rintro e wz ⟨rfl, hwz⟩
                refine ⟨_, rfl, ?_⟩
                obtain rfl := hwz.symm
                refine WL.op rfl rfl rfl (Go.Proofs.YtoffbjfgledjfaaDoor.W.quiet_bin rfl rfl rfl (fun W => qb_sub_uint8 W _ _ (lw c) _ (by omega) (by omega))) ?_
                refine WL.op rfl rfl rfl (Go.Proofs.YtoffbjfgledjfaaDoor.W.quiet_bin rfl rfl rfl (fun W => (qb_add_uint8 W _ _ _ _ (by omega) (by omega)).trans (by rw [hd]))) ?_
                refine WL.op rfl rfl rfl (Go.Proofs.YtoffbjfgledjfaaDoor.W.quiet_assign rfl rfl) ?_
                refine WL.end ?_
                refine Xw.nblk ?_
                refine Xw.nrm ?_
                refine TW.seq ?_
                refine TW.sreg ?_
                refine WL.op rfl rfl rfl (Go.Proofs.YtoffbjfgledjfaaDoor.W.quiet_move rfl rfl) ?_
                refine WL.op rfl rfl rfl (Go.Proofs.YtoffbjfgledjfaaDoor.W.quiet_move rfl rfl) ?_
                refine O.cv rfl rfl rfl rfl rfl (qc_int_uint8 _ _ (by omega) (by omega)) ?_
                refine WL.op rfl rfl rfl (Go.Proofs.YtoffbjfgledjfaaDoor.W.quiet_bin rfl rfl rfl (fun W => qb_geq_uint8 W _ _ _ _)) ?_
                refine O.split (fun hb => ?_) (fun hb => ?_)
                · skip
                  refine WL.nil ?_
                  refine TW.cond rfl (fun _ => ?_) (fun hb => by cases hb)
                  refine TW.sreg ?_
                  refine O.mi rfl rfl rfl rfl rfl (qm_strconv_Error _ _) ?_
                  refine WL.op rfl rfl rfl (Go.Proofs.YtoffbjfgledjfaaDoor.W.quiet_assign rfl rfl) ?_
                  refine WL.op rfl rfl rfl (Go.Proofs.YtoffbjfgledjfaaDoor.W.quiet_assign rfl rfl) ?_
                  refine WL.nil ?_
                  refine TW.rt ?_
                  refine Xw.thn (by simp) ?_
                  refine Xw.rblk ?_
                  refine Xw.thn (by simp) ?_
                  refine Xw.thn (by simp) ?_
                  refine Xw.rblk ?_
                  refine Xw.thn (by simp) ?_
                  refine O.ret2 rfl rfl rfl ?_
                  have q : puT s = (0, 2) := by
                    rw [hpu, hp, drop_at s j hjl]
                    unfold pU
                    simp only [show s[j] = c from hc.symm, hdv]
                    rw [if_pos (by have := of_decide_eq_true hb; omega)]
                  exact ⟨by rw [q]; rfl, ff⟩
                · skip
                  have hd16 : ¬ 16 ≤ d := by have := of_decide_eq_false hb; omega
                  have hn2 : (n : Int) * 16 + (d : Int) = ((n * 16 + d : Nat) : Int) := by omega
                  refine WL.nil ?_
                  refine TW.cond rfl (fun hb => by cases hb) (fun _ => ?_)
                  refine TW.skip ?_
                  refine TW.seq ?_
                  refine TW.sreg ?_
                  refine WL.op rfl rfl rfl (Go.Proofs.YtoffbjfgledjfaaDoor.W.quiet_move rfl rfl) ?_
                  refine WL.op rfl rfl rfl (Go.Proofs.YtoffbjfgledjfaaDoor.W.quiet_move rfl rfl) ?_
                  refine WL.op rfl rfl rfl (Go.Proofs.YtoffbjfgledjfaaDoor.W.quiet_bin rfl rfl rfl (fun W => qb_geq_uint64 W _ _ _ _)) ?_
                  refine O.split (fun hb => by exfalso; revert hb; first | (simp; done) | (simp; omega)) (fun hb => ?_)
                  refine WL.nil ?_
                  refine TW.cond rfl (fun hb => by cases hb) (fun _ => ?_)
                  refine TW.skip ?_
                  refine TW.sreg ?_
                  refine WL.op rfl rfl rfl (Go.Proofs.YtoffbjfgledjfaaDoor.W.quiet_move rfl rfl) ?_
                  refine WL.op rfl rfl rfl (Go.Proofs.YtoffbjfgledjfaaDoor.W.quiet_move rfl rfl) ?_
                  refine O.cv rfl rfl rfl rfl rfl (qc_int_uint64 _ _ (by omega) (by omega)) ?_
                  refine WL.op rfl rfl rfl (Go.Proofs.YtoffbjfgledjfaaDoor.W.quiet_bin rfl rfl rfl (fun W => qb_mul_uint64 W _ _ _ _ (by omega) (by omega))) ?_
                  refine WL.op rfl rfl rfl (Go.Proofs.YtoffbjfgledjfaaDoor.W.quiet_assign rfl rfl) ?_
                  refine WL.nil ?_
                  refine TW.sreg ?_
                  refine WL.op rfl rfl rfl (Go.Proofs.YtoffbjfgledjfaaDoor.W.quiet_move rfl rfl) ?_
                  refine WL.op rfl rfl rfl (Go.Proofs.YtoffbjfgledjfaaDoor.W.quiet_move rfl rfl) ?_
                  refine O.cv rfl rfl rfl rfl rfl (qc_uint8_uint64 _ _ (by omega) (by omega)) ?_
                  refine WL.op rfl rfl rfl (Go.Proofs.YtoffbjfgledjfaaDoor.W.quiet_bin rfl rfl rfl (fun W => (qb_add_uint64 W _ _ _ _ (by omega) (by omega)).trans (by rw [hn2]))) ?_
                  refine WL.op rfl rfl rfl (Go.Proofs.YtoffbjfgledjfaaDoor.W.quiet_assign rfl rfl) ?_
                  refine WL.nil ?_
                  refine TW.seq ?_
                  refine TW.sreg ?_
                  refine WL.op rfl rfl rfl (Go.Proofs.YtoffbjfgledjfaaDoor.W.quiet_move rfl rfl) ?_
                  refine WL.op rfl rfl rfl (Go.Proofs.YtoffbjfgledjfaaDoor.W.quiet_move rfl rfl) ?_
                  refine WL.op rfl rfl rfl (Go.Proofs.YtoffbjfgledjfaaDoor.W.quiet_bin rfl rfl rfl (fun W => qb_lss_uint64 W _ _ _ _)) ?_
                  refine O.split (fun hb => by exfalso; revert hb; first | (simp; done) | (simp; omega)) (fun hb => ?_)
                  refine WL.op rfl rfl rfl (Go.Proofs.YtoffbjfgledjfaaDoor.W.quiet_move rfl rfl) ?_
                  refine WL.op rfl rfl rfl (Go.Proofs.YtoffbjfgledjfaaDoor.W.quiet_move rfl rfl) ?_
                  refine WL.op rfl rfl rfl (Go.Proofs.YtoffbjfgledjfaaDoor.W.quiet_move rfl rfl) ?_
                  refine WL.op rfl rfl rfl (Go.Proofs.YtoffbjfgledjfaaDoor.W.quiet_bin rfl rfl rfl (fun W => qb_gtr_uint64 W _ _ _ _)) ?_
                  refine O.split (fun hb9 => ?_) (fun hb9 => ?_)
                  · skip
                    refine WL.op rfl rfl rfl (Go.Proofs.YtoffbjfgledjfaaDoor.W.quiet_pick rfl rfl rfl) ?_
                    refine WL.nil ?_
                    refine TW.cond rfl (fun _ => ?_) (fun hb => by cases hb)
                    refine TW.sreg ?_
                    refine WL.op rfl rfl rfl (Go.Proofs.YtoffbjfgledjfaaDoor.W.quiet_move rfl rfl) ?_
                    refine O.mi rfl rfl rfl rfl rfl (qm_strconv_Error _ _) ?_
                    refine WL.op rfl rfl rfl (Go.Proofs.YtoffbjfgledjfaaDoor.W.quiet_assign rfl rfl) ?_
                    refine WL.op rfl rfl rfl (Go.Proofs.YtoffbjfgledjfaaDoor.W.quiet_assign rfl rfl) ?_
                    refine WL.nil ?_
                    refine TW.rt ?_
                    refine Xw.thn (by simp) ?_
                    refine Xw.rblk ?_
                    refine Xw.thn (by simp) ?_
                    refine Xw.thn (by simp) ?_
                    refine Xw.rblk ?_
                    refine Xw.thn (by simp) ?_
                    refine O.ret2 rfl rfl rfl ?_
                    have hbb := of_decide_eq_true hb9
                    have q : puT s = (4294967295, 1) := by
                      rw [hpu, hp, drop_at s j hjl]
                      unfold pU
                      simp only [show s[j] = c from hc.symm, hdv]
                      rw [if_neg hd16, if_pos (by omega)]
                    exact ⟨by rw [q]; rfl, ff⟩
                  · skip
                    have hbb := of_decide_eq_false hb9
                    refine WL.op rfl rfl rfl (Go.Proofs.YtoffbjfgledjfaaDoor.W.quiet_pick rfl rfl rfl) ?_
                    refine WL.nil ?_
                    refine TW.cond rfl (fun hb => by cases hb) (fun _ => ?_)
                    refine TW.skip ?_
                    refine TW.reg ?_
                    refine WL.op rfl rfl rfl (Go.Proofs.YtoffbjfgledjfaaDoor.W.quiet_move rfl rfl) ?_
                    refine WL.op rfl rfl rfl (Go.Proofs.YtoffbjfgledjfaaDoor.W.quiet_assign rfl rfl) ?_
                    refine WL.end ?_
                    refine Xw.nblk ?_
                    refine Xw.nrm ?_
                    refine TW.reg ?_
                    refine WL.op rfl rfl rfl (Go.Proofs.YtoffbjfgledjfaaDoor.W.quiet_bin rfl rfl rfl (fun W => qb_add_int W _ _ _ _ (by omega) (by omega))) ?_
                    refine WL.op rfl rfl rfl (Go.Proofs.YtoffbjfgledjfaaDoor.W.quiet_move rfl rfl) ?_
                    refine WL.end ?_
                    refine Xw.any (fun a k => ?_)
                    refine ⟨j + 1, by omega, by omega, n * 16 + d, by (repeat (refine Kn.cons k rfl ?_)); exact k.base, rfl, by omega, ?_⟩
                    rw [hp, drop_at s j hjl]
                    conv => lhs; unfold pU
                    simp only [show s[j] = c from hc.symm, hdv]
                    rw [if_neg hd16, if_neg (by omega)]
              · skip
                have h122 : ¬ lw c ≤ 122 := of_decide_eq_false hb5
                have hdv : dvH c = none := by unfold dvH; rw [if_neg (by omega), if_neg (fun h => h122 h.2)]
                refine WL.op rfl rfl rfl (Go.Proofs.YtoffbjfgledjfaaDoor.W.quiet_pick rfl rfl rfl) ?_
                refine WL.op rfl rfl rfl (Go.Proofs.YtoffbjfgledjfaaDoor.W.quiet_assign rfl rfl) ?_
                refine WL.nil ?_
                refine TW.cond rfl (fun hb => by cases hb) (fun _ => ?_)
                refine TW.sreg ?_
                refine O.mi rfl rfl rfl rfl rfl (qm_strconv_Error _ _) ?_
                refine WL.op rfl rfl rfl (Go.Proofs.YtoffbjfgledjfaaDoor.W.quiet_assign rfl rfl) ?_
                refine WL.op rfl rfl rfl (Go.Proofs.YtoffbjfgledjfaaDoor.W.quiet_assign rfl rfl) ?_
                refine WL.nil ?_
                refine TW.rt ?_
                refine Xw.rblk ?_
                refine Xw.thn (by simp) ?_
                refine Xw.rblk ?_
                refine Xw.thn (by simp) ?_
                refine Xw.thn (by simp) ?_
                refine Xw.rblk ?_
                refine Xw.thn (by simp) ?_
                refine O.ret2 rfl rfl rfl ?_
                have q : puT s = (0, 2) := by
                  rw [hpu, hp, drop_at s j hjl]
                  unfold pU
                  simp only [show s[j] = c from hc.symm, hdv]
                exact ⟨by rw [q]; rfl, ff⟩
            · skip
              have h97 : ¬ 97 ≤ lw c := of_decide_eq_false hb4
              have hdv : dvH c = none := by unfold dvH; rw [if_neg (by omega), if_neg (fun h => h97 h.1)]
              refine WL.op rfl rfl rfl (Go.Proofs.YtoffbjfgledjfaaDoor.W.quiet_move rfl rfl) ?_
              refine WL.skip rfl rfl rfl ?_
              refine WL.skip rfl rfl rfl ?_
              refine WL.skip rfl rfl rfl ?_
              refine WL.op rfl rfl rfl (Go.Proofs.YtoffbjfgledjfaaDoor.W.quiet_pick rfl rfl rfl) ?_
              refine WL.op rfl rfl rfl (Go.Proofs.YtoffbjfgledjfaaDoor.W.quiet_assign rfl rfl) ?_
              refine WL.nil ?_
              refine TW.cond rfl (fun hb => by cases hb) (fun _ => ?_)
              refine TW.sreg ?_
              refine O.mi rfl rfl rfl rfl rfl (qm_strconv_Error _ _) ?_
              refine WL.op rfl rfl rfl (Go.Proofs.YtoffbjfgledjfaaDoor.W.quiet_assign rfl rfl) ?_
              refine WL.op rfl rfl rfl (Go.Proofs.YtoffbjfgledjfaaDoor.W.quiet_assign rfl rfl) ?_
              refine WL.nil ?_
              refine TW.rt ?_
              refine Xw.rblk ?_
              refine Xw.thn (by simp) ?_
              refine Xw.rblk ?_
              refine Xw.thn (by simp) ?_
              refine Xw.thn (by simp) ?_
              refine Xw.rblk ?_
              refine Xw.thn (by simp) ?_
              refine O.ret2 rfl rfl rfl ?_
              have q : puT s = (0, 2) := by
                rw [hpu, hp, drop_at s j hjl]
                unfold pU
                simp only [show s[j] = c from hc.symm, hdv]
              exact ⟨by rw [q]; rfl, ff⟩
        · skip
          have h48 := of_decide_eq_false hb2
          refine WL.op rfl rfl rfl (Go.Proofs.YtoffbjfgledjfaaDoor.W.quiet_move rfl rfl) ?_
          refine WL.skip rfl rfl rfl ?_
          refine WL.skip rfl rfl rfl ?_
          refine WL.op rfl rfl rfl (Go.Proofs.YtoffbjfgledjfaaDoor.W.quiet_pick rfl rfl rfl) ?_
          refine WL.op rfl rfl rfl (Go.Proofs.YtoffbjfgledjfaaDoor.W.quiet_assign rfl rfl) ?_
          refine WL.nil ?_
          refine TW.cond rfl (fun hb => by cases hb) (fun _ => ?_)
          refine TW.sreg ?_
          refine WL.op rfl rfl rfl (Go.Proofs.YtoffbjfgledjfaaDoor.W.quiet_move rfl rfl) ?_
          refine WL.call (hr := (t_lower c w2)) rfl rfl rfl rfl rfl (fun W => qk_internal_strconv_lower W _) ?_
          rintro e wz ⟨rfl, hwz⟩
          refine ⟨_, rfl, ?_⟩
          obtain rfl := hwz.symm
          refine WL.op rfl rfl rfl (Go.Proofs.YtoffbjfgledjfaaDoor.W.quiet_bin rfl rfl rfl (fun W => qb_leq_uint8 W _ _ _ _)) ?_
          refine O.split (fun hb4 => ?_) (fun hb4 => ?_)
          · skip
            refine WL.op rfl rfl rfl (Go.Proofs.YtoffbjfgledjfaaDoor.W.quiet_move rfl rfl) ?_
            refine WL.op rfl rfl rfl (Go.Proofs.YtoffbjfgledjfaaDoor.W.quiet_move rfl rfl) ?_
            refine WL.call (hr := (t_lower c w2)) rfl rfl rfl rfl rfl (fun W => qk_internal_strconv_lower W _) ?_
            rintro e wz ⟨rfl, hwz⟩
            refine ⟨_, rfl, ?_⟩
            obtain rfl := hwz.symm
            refine WL.op rfl rfl rfl (Go.Proofs.YtoffbjfgledjfaaDoor.W.quiet_bin rfl rfl rfl (fun W => qb_leq_uint8 W _ _ _ _)) ?_
            refine O.split (fun hb5 => ?_) (fun hb5 => ?_)
            · skip
              have h97 : 97 ≤ lw c := of_decide_eq_true hb4
              have h122 : lw c ≤ 122 := of_decide_eq_true hb5
              have hdv : dvH c = some (lw c - 87).toNat := by unfold dvH; rw [if_neg (by omega), if_pos ⟨h97, h122⟩]
              obtain ⟨d, hd⟩ : ∃ d : Nat, lw c - 97 + 10 = (d : Int) := ⟨(lw c - 87).toNat, by omega⟩
              rw [show (lw c - 87).toNat = d by omega] at hdv
              refine WL.op rfl rfl rfl (Go.Proofs.YtoffbjfgledjfaaDoor.W.quiet_pick rfl rfl rfl) ?_
              refine WL.op rfl rfl rfl (Go.Proofs.YtoffbjfgledjfaaDoor.W.quiet_assign rfl rfl) ?_
              refine WL.nil ?_
              refine TW.cond rfl (fun _ => ?_) (fun hb => by cases hb)
              refine TW.reg ?_
              refine WL.op rfl rfl rfl (Go.Proofs.YtoffbjfgledjfaaDoor.W.quiet_move rfl rfl) ?_
              refine WL.call (hr := (t_lower c w2)) rfl rfl rfl rfl rfl (fun W => qk_internal_strconv_lower W _) ?_
              rintro e wz ⟨rfl, hwz⟩
              refine ⟨_, rfl, ?_⟩
              obtain rfl := hwz.symm
              refine WL.op rfl rfl rfl (Go.Proofs.YtoffbjfgledjfaaDoor.W.quiet_bin rfl rfl rfl (fun W => qb_sub_uint8 W _ _ (lw c) _ (by omega) (by omega))) ?_
              refine WL.op rfl rfl rfl (Go.Proofs.YtoffbjfgledjfaaDoor.W.quiet_bin rfl rfl rfl (fun W => (qb_add_uint8 W _ _ _ _ (by omega) (by omega)).trans (by rw [hd]))) ?_
              refine WL.op rfl rfl rfl (Go.Proofs.YtoffbjfgledjfaaDoor.W.quiet_assign rfl rfl) ?_
              refine WL.end ?_
              refine Xw.nblk ?_
              refine Xw.nrm ?_
              refine TW.seq ?_
              refine TW.sreg ?_
              refine WL.op rfl rfl rfl (Go.Proofs.YtoffbjfgledjfaaDoor.W.quiet_move rfl rfl) ?_
              refine WL.op rfl rfl rfl (Go.Proofs.YtoffbjfgledjfaaDoor.W.quiet_move rfl rfl) ?_
              refine O.cv rfl rfl rfl rfl rfl (qc_int_uint8 _ _ (by omega) (by omega)) ?_
              refine WL.op rfl rfl rfl (Go.Proofs.YtoffbjfgledjfaaDoor.W.quiet_bin rfl rfl rfl (fun W => qb_geq_uint8 W _ _ _ _)) ?_
              refine O.split (fun hb => ?_) (fun hb => ?_)
              · skip
                refine WL.nil ?_
                refine TW.cond rfl (fun _ => ?_) (fun hb => by cases hb)
                refine TW.sreg ?_
                refine O.mi rfl rfl rfl rfl rfl (qm_strconv_Error _ _) ?_
                refine WL.op rfl rfl rfl (Go.Proofs.YtoffbjfgledjfaaDoor.W.quiet_assign rfl rfl) ?_
                refine WL.op rfl rfl rfl (Go.Proofs.YtoffbjfgledjfaaDoor.W.quiet_assign rfl rfl) ?_
                refine WL.nil ?_
                refine TW.rt ?_
                refine Xw.thn (by simp) ?_
                refine Xw.rblk ?_
                refine Xw.thn (by simp) ?_
                refine Xw.thn (by simp) ?_
                refine Xw.rblk ?_
                refine Xw.thn (by simp) ?_
                refine O.ret2 rfl rfl rfl ?_
                have q : puT s = (0, 2) := by
                  rw [hpu, hp, drop_at s j hjl]
                  unfold pU
                  simp only [show s[j] = c from hc.symm, hdv]
                  rw [if_pos (by have := of_decide_eq_true hb; omega)]
                exact ⟨by rw [q]; rfl, ff⟩
              · skip
                have hd16 : ¬ 16 ≤ d := by have := of_decide_eq_false hb; omega
                have hn2 : (n : Int) * 16 + (d : Int) = ((n * 16 + d : Nat) : Int) := by omega
                refine WL.nil ?_
                refine TW.cond rfl (fun hb => by cases hb) (fun _ => ?_)
                refine TW.skip ?_
                refine TW.seq ?_
                refine TW.sreg ?_
                refine WL.op rfl rfl rfl (Go.Proofs.YtoffbjfgledjfaaDoor.W.quiet_move rfl rfl) ?_
                refine WL.op rfl rfl rfl (Go.Proofs.YtoffbjfgledjfaaDoor.W.quiet_move rfl rfl) ?_
                refine WL.op rfl rfl rfl (Go.Proofs.YtoffbjfgledjfaaDoor.W.quiet_bin rfl rfl rfl (fun W => qb_geq_uint64 W _ _ _ _)) ?_
                refine O.split (fun hb => by exfalso; revert hb; first | (simp; done) | (simp; omega)) (fun hb => ?_)
                refine WL.nil ?_
                refine TW.cond rfl (fun hb => by cases hb) (fun _ => ?_)
                refine TW.skip ?_
                refine TW.sreg ?_
                refine WL.op rfl rfl rfl (Go.Proofs.YtoffbjfgledjfaaDoor.W.quiet_move rfl rfl) ?_
                refine WL.op rfl rfl rfl (Go.Proofs.YtoffbjfgledjfaaDoor.W.quiet_move rfl rfl) ?_
                refine O.cv rfl rfl rfl rfl rfl (qc_int_uint64 _ _ (by omega) (by omega)) ?_
                refine WL.op rfl rfl rfl (Go.Proofs.YtoffbjfgledjfaaDoor.W.quiet_bin rfl rfl rfl (fun W => qb_mul_uint64 W _ _ _ _ (by omega) (by omega))) ?_
                refine WL.op rfl rfl rfl (Go.Proofs.YtoffbjfgledjfaaDoor.W.quiet_assign rfl rfl) ?_
                refine WL.nil ?_
                refine TW.sreg ?_
                refine WL.op rfl rfl rfl (Go.Proofs.YtoffbjfgledjfaaDoor.W.quiet_move rfl rfl) ?_
                refine WL.op rfl rfl rfl (Go.Proofs.YtoffbjfgledjfaaDoor.W.quiet_move rfl rfl) ?_
                refine O.cv rfl rfl rfl rfl rfl (qc_uint8_uint64 _ _ (by omega) (by omega)) ?_
                refine WL.op rfl rfl rfl (Go.Proofs.YtoffbjfgledjfaaDoor.W.quiet_bin rfl rfl rfl (fun W => (qb_add_uint64 W _ _ _ _ (by omega) (by omega)).trans (by rw [hn2]))) ?_
                refine WL.op rfl rfl rfl (Go.Proofs.YtoffbjfgledjfaaDoor.W.quiet_assign rfl rfl) ?_
                refine WL.nil ?_
                refine TW.seq ?_
                refine TW.sreg ?_
                refine WL.op rfl rfl rfl (Go.Proofs.YtoffbjfgledjfaaDoor.W.quiet_move rfl rfl) ?_
                refine WL.op rfl rfl rfl (Go.Proofs.YtoffbjfgledjfaaDoor.W.quiet_move rfl rfl) ?_
                refine WL.op rfl rfl rfl (Go.Proofs.YtoffbjfgledjfaaDoor.W.quiet_bin rfl rfl rfl (fun W => qb_lss_uint64 W _ _ _ _)) ?_
                refine O.split (fun hb => by exfalso; revert hb; first | (simp; done) | (simp; omega)) (fun hb => ?_)
                refine WL.op rfl rfl rfl (Go.Proofs.YtoffbjfgledjfaaDoor.W.quiet_move rfl rfl) ?_
                refine WL.op rfl rfl rfl (Go.Proofs.YtoffbjfgledjfaaDoor.W.quiet_move rfl rfl) ?_
                refine WL.op rfl rfl rfl (Go.Proofs.YtoffbjfgledjfaaDoor.W.quiet_move rfl rfl) ?_
                refine WL.op rfl rfl rfl (Go.Proofs.YtoffbjfgledjfaaDoor.W.quiet_bin rfl rfl rfl (fun W => qb_gtr_uint64 W _ _ _ _)) ?_
                refine O.split (fun hb9 => ?_) (fun hb9 => ?_)
                · skip
                  refine WL.op rfl rfl rfl (Go.Proofs.YtoffbjfgledjfaaDoor.W.quiet_pick rfl rfl rfl) ?_
                  refine WL.nil ?_
                  refine TW.cond rfl (fun _ => ?_) (fun hb => by cases hb)
                  refine TW.sreg ?_
                  refine WL.op rfl rfl rfl (Go.Proofs.YtoffbjfgledjfaaDoor.W.quiet_move rfl rfl) ?_
                  refine O.mi rfl rfl rfl rfl rfl (qm_strconv_Error _ _) ?_
                  refine WL.op rfl rfl rfl (Go.Proofs.YtoffbjfgledjfaaDoor.W.quiet_assign rfl rfl) ?_
                  refine WL.op rfl rfl rfl (Go.Proofs.YtoffbjfgledjfaaDoor.W.quiet_assign rfl rfl) ?_
                  refine WL.nil ?_
                  refine TW.rt ?_
                  refine Xw.thn (by simp) ?_
                  refine Xw.rblk ?_
                  refine Xw.thn (by simp) ?_
                  refine Xw.thn (by simp) ?_
                  refine Xw.rblk ?_
                  refine Xw.thn (by simp) ?_
                  refine O.ret2 rfl rfl rfl ?_
                  have hbb := of_decide_eq_true hb9
                  have q : puT s = (4294967295, 1) := by
                    rw [hpu, hp, drop_at s j hjl]
                    unfold pU
                    simp only [show s[j] = c from hc.symm, hdv]
                    rw [if_neg hd16, if_pos (by omega)]
                  exact ⟨by rw [q]; rfl, ff⟩
                · skip
                  have hbb := of_decide_eq_false hb9
                  refine WL.op rfl rfl rfl (Go.Proofs.YtoffbjfgledjfaaDoor.W.quiet_pick rfl rfl rfl) ?_
                  refine WL.nil ?_
                  refine TW.cond rfl (fun hb => by cases hb) (fun _ => ?_)
                  refine TW.skip ?_
                  refine TW.reg ?_
                  refine WL.op rfl rfl rfl (Go.Proofs.YtoffbjfgledjfaaDoor.W.quiet_move rfl rfl) ?_
                  refine WL.op rfl rfl rfl (Go.Proofs.YtoffbjfgledjfaaDoor.W.quiet_assign rfl rfl) ?_
                  refine WL.end ?_
                  refine Xw.nblk ?_
                  refine Xw.nrm ?_
                  refine TW.reg ?_
                  refine WL.op rfl rfl rfl (Go.Proofs.YtoffbjfgledjfaaDoor.W.quiet_bin rfl rfl rfl (fun W => qb_add_int W _ _ _ _ (by omega) (by omega))) ?_
                  refine WL.op rfl rfl rfl (Go.Proofs.YtoffbjfgledjfaaDoor.W.quiet_move rfl rfl) ?_
                  refine WL.end ?_
                  refine Xw.any (fun a k => ?_)
                  refine ⟨j + 1, by omega, by omega, n * 16 + d, by (repeat (refine Kn.cons k rfl ?_)); exact k.base, rfl, by omega, ?_⟩
                  rw [hp, drop_at s j hjl]
                  conv => lhs; unfold pU
                  simp only [show s[j] = c from hc.symm, hdv]
                  rw [if_neg hd16, if_neg (by omega)]
            · skip
              have h122 : ¬ lw c ≤ 122 := of_decide_eq_false hb5
              have hdv : dvH c = none := by unfold dvH; rw [if_neg (by omega), if_neg (fun h => h122 h.2)]
              refine WL.op rfl rfl rfl (Go.Proofs.YtoffbjfgledjfaaDoor.W.quiet_pick rfl rfl rfl) ?_
              refine WL.op rfl rfl rfl (Go.Proofs.YtoffbjfgledjfaaDoor.W.quiet_assign rfl rfl) ?_
              refine WL.nil ?_
              refine TW.cond rfl (fun hb => by cases hb) (fun _ => ?_)
              refine TW.sreg ?_
              refine O.mi rfl rfl rfl rfl rfl (qm_strconv_Error _ _) ?_
              refine WL.op rfl rfl rfl (Go.Proofs.YtoffbjfgledjfaaDoor.W.quiet_assign rfl rfl) ?_
              refine WL.op rfl rfl rfl (Go.Proofs.YtoffbjfgledjfaaDoor.W.quiet_assign rfl rfl) ?_
              refine WL.nil ?_
              refine TW.rt ?_
              refine Xw.rblk ?_
              refine Xw.thn (by simp) ?_
              refine Xw.rblk ?_
              refine Xw.thn (by simp) ?_
              refine Xw.thn (by simp) ?_
              refine Xw.rblk ?_
              refine Xw.thn (by simp) ?_
              refine O.ret2 rfl rfl rfl ?_
              have q : puT s = (0, 2) := by
                rw [hpu, hp, drop_at s j hjl]
                unfold pU
                simp only [show s[j] = c from hc.symm, hdv]
              exact ⟨by rw [q]; rfl, ff⟩
          · skip
            have h97 : ¬ 97 ≤ lw c := of_decide_eq_false hb4
            have hdv : dvH c = none := by unfold dvH; rw [if_neg (by omega), if_neg (fun h => h97 h.1)]
            refine WL.op rfl rfl rfl (Go.Proofs.YtoffbjfgledjfaaDoor.W.quiet_move rfl rfl) ?_
            refine WL.skip rfl rfl rfl ?_
            refine WL.skip rfl rfl rfl ?_
            refine WL.skip rfl rfl rfl ?_
            refine WL.op rfl rfl rfl (Go.Proofs.YtoffbjfgledjfaaDoor.W.quiet_pick rfl rfl rfl) ?_
            refine WL.op rfl rfl rfl (Go.Proofs.YtoffbjfgledjfaaDoor.W.quiet_assign rfl rfl) ?_
            refine WL.nil ?_
            refine TW.cond rfl (fun hb => by cases hb) (fun _ => ?_)
            refine TW.sreg ?_
            refine O.mi rfl rfl rfl rfl rfl (qm_strconv_Error _ _) ?_
            refine WL.op rfl rfl rfl (Go.Proofs.YtoffbjfgledjfaaDoor.W.quiet_assign rfl rfl) ?_
            refine WL.op rfl rfl rfl (Go.Proofs.YtoffbjfgledjfaaDoor.W.quiet_assign rfl rfl) ?_
            refine WL.nil ?_
            refine TW.rt ?_
            refine Xw.rblk ?_
            refine Xw.thn (by simp) ?_
            refine Xw.rblk ?_
            refine Xw.thn (by simp) ?_
            refine Xw.thn (by simp) ?_
            refine Xw.rblk ?_
            refine Xw.thn (by simp) ?_
            refine O.ret2 rfl rfl rfl ?_
            have q : puT s = (0, 2) := by
              rw [hpu, hp, drop_at s j hjl]
              unfold pU
              simp only [show s[j] = c from hc.symm, hdv]
            exact ⟨by rw [q]; rfl, ff⟩
      · skip
        refine WL.op rfl rfl rfl (Go.Proofs.YtoffbjfgledjfaaDoor.W.quiet_move rfl rfl) ?_
        refine WL.skip rfl rfl rfl ?_
        refine WL.op rfl rfl rfl (Go.Proofs.YtoffbjfgledjfaaDoor.W.quiet_pick rfl rfl rfl) ?_
        refine WL.op rfl rfl rfl (Go.Proofs.YtoffbjfgledjfaaDoor.W.quiet_assign rfl rfl) ?_
        refine WL.nil ?_
        refine TW.cond rfl (fun hb => by cases hb) (fun _ => ?_)
        refine TW.sreg ?_
        refine WL.op rfl rfl rfl (Go.Proofs.YtoffbjfgledjfaaDoor.W.quiet_move rfl rfl) ?_
        refine WL.op rfl rfl rfl (Go.Proofs.YtoffbjfgledjfaaDoor.W.quiet_bin rfl rfl rfl (fun W => qb_leq_uint8 W _ _ _ _)) ?_
        refine O.split (fun hb2 => ?_) (fun hb2 => ?_)
        · skip
          refine WL.op rfl rfl rfl (Go.Proofs.YtoffbjfgledjfaaDoor.W.quiet_move rfl rfl) ?_
          refine WL.op rfl rfl rfl (Go.Proofs.YtoffbjfgledjfaaDoor.W.quiet_move rfl rfl) ?_
          refine WL.op rfl rfl rfl (Go.Proofs.YtoffbjfgledjfaaDoor.W.quiet_bin rfl rfl rfl (fun W => qb_leq_uint8 W _ _ _ _)) ?_
          refine O.split (fun hb3 => ?_) (fun hb3 => ?_)
          · skip
            have h48 := of_decide_eq_true hb2
            have h57 := of_decide_eq_true hb3
            have hdv : dvH c = some (c.toNat - 48) := by unfold dvH; rw [if_pos (by omega)]
            obtain ⟨d, hd⟩ : ∃ d : Nat, (c.toNat : Int) - 48 = (d : Int) := ⟨c.toNat - 48, by omega⟩
            rw [show c.toNat - 48 = d by omega] at hdv
            refine WL.op rfl rfl rfl (Go.Proofs.YtoffbjfgledjfaaDoor.W.quiet_pick rfl rfl rfl) ?_
            refine WL.op rfl rfl rfl (Go.Proofs.YtoffbjfgledjfaaDoor.W.quiet_assign rfl rfl) ?_
            refine WL.nil ?_
            refine TW.cond rfl (fun _ => ?_) (fun hb => by cases hb)
            refine TW.reg ?_
            refine WL.op rfl rfl rfl (Go.Proofs.YtoffbjfgledjfaaDoor.W.quiet_move rfl rfl) ?_
            refine WL.op rfl rfl rfl (Go.Proofs.YtoffbjfgledjfaaDoor.W.quiet_bin rfl rfl rfl (fun W => (qb_sub_uint8 W _ _ _ _ (by omega) (by omega)).trans (by rw [hd]))) ?_
            refine WL.op rfl rfl rfl (Go.Proofs.YtoffbjfgledjfaaDoor.W.quiet_assign rfl rfl) ?_
            refine WL.end ?_
            refine Xw.nblk ?_
            refine Xw.nrm ?_
            refine TW.seq ?_
            refine TW.sreg ?_
            refine WL.op rfl rfl rfl (Go.Proofs.YtoffbjfgledjfaaDoor.W.quiet_move rfl rfl) ?_
            refine WL.op rfl rfl rfl (Go.Proofs.YtoffbjfgledjfaaDoor.W.quiet_move rfl rfl) ?_
            refine O.cv rfl rfl rfl rfl rfl (qc_int_uint8 _ _ (by omega) (by omega)) ?_
            refine WL.op rfl rfl rfl (Go.Proofs.YtoffbjfgledjfaaDoor.W.quiet_bin rfl rfl rfl (fun W => qb_geq_uint8 W _ _ _ _)) ?_
            refine O.split (fun hb => ?_) (fun hb => ?_)
            · skip
              refine WL.nil ?_
              refine TW.cond rfl (fun _ => ?_) (fun hb => by cases hb)
              refine TW.sreg ?_
              refine O.mi rfl rfl rfl rfl rfl (qm_strconv_Error _ _) ?_
              refine WL.op rfl rfl rfl (Go.Proofs.YtoffbjfgledjfaaDoor.W.quiet_assign rfl rfl) ?_
              refine WL.op rfl rfl rfl (Go.Proofs.YtoffbjfgledjfaaDoor.W.quiet_assign rfl rfl) ?_
              refine WL.nil ?_
              refine TW.rt ?_
              refine Xw.thn (by simp) ?_
              refine Xw.rblk ?_
              refine Xw.thn (by simp) ?_
              refine Xw.thn (by simp) ?_
              refine Xw.rblk ?_
              refine Xw.thn (by simp) ?_
              refine O.ret2 rfl rfl rfl ?_
              have q : puT s = (0, 2) := by
                rw [hpu, hp, drop_at s j hjl]
                unfold pU
                simp only [show s[j] = c from hc.symm, hdv]
                rw [if_pos (by have := of_decide_eq_true hb; omega)]
              exact ⟨by rw [q]; rfl, ff⟩
            · skip
              have hd16 : ¬ 16 ≤ d := by have := of_decide_eq_false hb; omega
              have hn2 : (n : Int) * 16 + (d : Int) = ((n * 16 + d : Nat) : Int) := by omega
              refine WL.nil ?_
              refine TW.cond rfl (fun hb => by cases hb) (fun _ => ?_)
              refine TW.skip ?_
              refine TW.seq ?_
              refine TW.sreg ?_
              refine WL.op rfl rfl rfl (Go.Proofs.YtoffbjfgledjfaaDoor.W.quiet_move rfl rfl) ?_
              refine WL.op rfl rfl rfl (Go.Proofs.YtoffbjfgledjfaaDoor.W.quiet_move rfl rfl) ?_
              refine WL.op rfl rfl rfl (Go.Proofs.YtoffbjfgledjfaaDoor.W.quiet_bin rfl rfl rfl (fun W => qb_geq_uint64 W _ _ _ _)) ?_
              refine O.split (fun hb => by exfalso; revert hb; first | (simp; done) | (simp; omega)) (fun hb => ?_)
              refine WL.nil ?_
              refine TW.cond rfl (fun hb => by cases hb) (fun _ => ?_)
              refine TW.skip ?_
              refine TW.sreg ?_
              refine WL.op rfl rfl rfl (Go.Proofs.YtoffbjfgledjfaaDoor.W.quiet_move rfl rfl) ?_
              refine WL.op rfl rfl rfl (Go.Proofs.YtoffbjfgledjfaaDoor.W.quiet_move rfl rfl) ?_
              refine O.cv rfl rfl rfl rfl rfl (qc_int_uint64 _ _ (by omega) (by omega)) ?_
              refine WL.op rfl rfl rfl (Go.Proofs.YtoffbjfgledjfaaDoor.W.quiet_bin rfl rfl rfl (fun W => qb_mul_uint64 W _ _ _ _ (by omega) (by omega))) ?_
              refine WL.op rfl rfl rfl (Go.Proofs.YtoffbjfgledjfaaDoor.W.quiet_assign rfl rfl) ?_
              refine WL.nil ?_
              refine TW.sreg ?_
              refine WL.op rfl rfl rfl (Go.Proofs.YtoffbjfgledjfaaDoor.W.quiet_move rfl rfl) ?_
              refine WL.op rfl rfl rfl (Go.Proofs.YtoffbjfgledjfaaDoor.W.quiet_move rfl rfl) ?_
              refine O.cv rfl rfl rfl rfl rfl (qc_uint8_uint64 _ _ (by omega) (by omega)) ?_
              refine WL.op rfl rfl rfl (Go.Proofs.YtoffbjfgledjfaaDoor.W.quiet_bin rfl rfl rfl (fun W => (qb_add_uint64 W _ _ _ _ (by omega) (by omega)).trans (by rw [hn2]))) ?_
              refine WL.op rfl rfl rfl (Go.Proofs.YtoffbjfgledjfaaDoor.W.quiet_assign rfl rfl) ?_
              refine WL.nil ?_
              refine TW.seq ?_
              refine TW.sreg ?_
              refine WL.op rfl rfl rfl (Go.Proofs.YtoffbjfgledjfaaDoor.W.quiet_move rfl rfl) ?_
              refine WL.op rfl rfl rfl (Go.Proofs.YtoffbjfgledjfaaDoor.W.quiet_move rfl rfl) ?_
              refine WL.op rfl rfl rfl (Go.Proofs.YtoffbjfgledjfaaDoor.W.quiet_bin rfl rfl rfl (fun W => qb_lss_uint64 W _ _ _ _)) ?_
              refine O.split (fun hb => by exfalso; revert hb; first | (simp; done) | (simp; omega)) (fun hb => ?_)
              refine WL.op rfl rfl rfl (Go.Proofs.YtoffbjfgledjfaaDoor.W.quiet_move rfl rfl) ?_
              refine WL.op rfl rfl rfl (Go.Proofs.YtoffbjfgledjfaaDoor.W.quiet_move rfl rfl) ?_
              refine WL.op rfl rfl rfl (Go.Proofs.YtoffbjfgledjfaaDoor.W.quiet_move rfl rfl) ?_
              refine WL.op rfl rfl rfl (Go.Proofs.YtoffbjfgledjfaaDoor.W.quiet_bin rfl rfl rfl (fun W => qb_gtr_uint64 W _ _ _ _)) ?_
              refine O.split (fun hb9 => ?_) (fun hb9 => ?_)
              · skip
                refine WL.op rfl rfl rfl (Go.Proofs.YtoffbjfgledjfaaDoor.W.quiet_pick rfl rfl rfl) ?_
                refine WL.nil ?_
                refine TW.cond rfl (fun _ => ?_) (fun hb => by cases hb)
                refine TW.sreg ?_
                refine WL.op rfl rfl rfl (Go.Proofs.YtoffbjfgledjfaaDoor.W.quiet_move rfl rfl) ?_
                refine O.mi rfl rfl rfl rfl rfl (qm_strconv_Error _ _) ?_
                refine WL.op rfl rfl rfl (Go.Proofs.YtoffbjfgledjfaaDoor.W.quiet_assign rfl rfl) ?_
                refine WL.op rfl rfl rfl (Go.Proofs.YtoffbjfgledjfaaDoor.W.quiet_assign rfl rfl) ?_
                refine WL.nil ?_
                refine TW.rt ?_
                refine Xw.thn (by simp) ?_
                refine Xw.rblk ?_
                refine Xw.thn (by simp) ?_
                refine Xw.thn (by simp) ?_
                refine Xw.rblk ?_
                refine Xw.thn (by simp) ?_
                refine O.ret2 rfl rfl rfl ?_
                have hbb := of_decide_eq_true hb9
                have q : puT s = (4294967295, 1) := by
                  rw [hpu, hp, drop_at s j hjl]
                  unfold pU
                  simp only [show s[j] = c from hc.symm, hdv]
                  rw [if_neg hd16, if_pos (by omega)]
                exact ⟨by rw [q]; rfl, ff⟩
              · skip
                have hbb := of_decide_eq_false hb9
                refine WL.op rfl rfl rfl (Go.Proofs.YtoffbjfgledjfaaDoor.W.quiet_pick rfl rfl rfl) ?_
                refine WL.nil ?_
                refine TW.cond rfl (fun hb => by cases hb) (fun _ => ?_)
                refine TW.skip ?_
                refine TW.reg ?_
                refine WL.op rfl rfl rfl (Go.Proofs.YtoffbjfgledjfaaDoor.W.quiet_move rfl rfl) ?_
                refine WL.op rfl rfl rfl (Go.Proofs.YtoffbjfgledjfaaDoor.W.quiet_assign rfl rfl) ?_
                refine WL.end ?_
                refine Xw.nblk ?_
                refine Xw.nrm ?_
                refine TW.reg ?_
                refine WL.op rfl rfl rfl (Go.Proofs.YtoffbjfgledjfaaDoor.W.quiet_bin rfl rfl rfl (fun W => qb_add_int W _ _ _ _ (by omega) (by omega))) ?_
                refine WL.op rfl rfl rfl (Go.Proofs.YtoffbjfgledjfaaDoor.W.quiet_move rfl rfl) ?_
                refine WL.end ?_
                refine Xw.any (fun a k => ?_)
                refine ⟨j + 1, by omega, by omega, n * 16 + d, by (repeat (refine Kn.cons k rfl ?_)); exact k.base, rfl, by omega, ?_⟩
                rw [hp, drop_at s j hjl]
                conv => lhs; unfold pU
                simp only [show s[j] = c from hc.symm, hdv]
                rw [if_neg hd16, if_neg (by omega)]
          · skip
            have h57 := of_decide_eq_false hb3
            refine WL.op rfl rfl rfl (Go.Proofs.YtoffbjfgledjfaaDoor.W.quiet_pick rfl rfl rfl) ?_
            refine WL.op rfl rfl rfl (Go.Proofs.YtoffbjfgledjfaaDoor.W.quiet_assign rfl rfl) ?_
            refine WL.nil ?_
            refine TW.cond rfl (fun hb => by cases hb) (fun _ => ?_)
            refine TW.sreg ?_
            refine WL.op rfl rfl rfl (Go.Proofs.YtoffbjfgledjfaaDoor.W.quiet_move rfl rfl) ?_
            refine WL.call (hr := (t_lower c w2)) rfl rfl rfl rfl rfl (fun W => qk_internal_strconv_lower W _) ?_
            rintro e wz ⟨rfl, hwz⟩
            refine ⟨_, rfl, ?_⟩
            obtain rfl := hwz.symm
            refine WL.op rfl rfl rfl (Go.Proofs.YtoffbjfgledjfaaDoor.W.quiet_bin rfl rfl rfl (fun W => qb_leq_uint8 W _ _ _ _)) ?_
            refine O.split (fun hb4 => ?_) (fun hb4 => ?_)
            · skip
              refine WL.op rfl rfl rfl (Go.Proofs.YtoffbjfgledjfaaDoor.W.quiet_move rfl rfl) ?_
              refine WL.op rfl rfl rfl (Go.Proofs.YtoffbjfgledjfaaDoor.W.quiet_move rfl rfl) ?_
              refine WL.call (hr := (t_lower c w2)) rfl rfl rfl rfl rfl (fun W => qk_internal_strconv_lower W _) ?_
              rintro e wz ⟨rfl, hwz⟩
              refine ⟨_, rfl, ?_⟩
              obtain rfl := hwz.symm
              refine WL.op rfl rfl rfl (Go.Proofs.YtoffbjfgledjfaaDoor.W.quiet_bin rfl rfl rfl (fun W => qb_leq_uint8 W _ _ _ _)) ?_
              refine O.split (fun hb5 => ?_) (fun hb5 => ?_)
              · skip
                have h97 : 97 ≤ lw c := of_decide_eq_true hb4
                have h122 : lw c ≤ 122 := of_decide_eq_true hb5
                have hdv : dvH c = some (lw c - 87).toNat := by unfold dvH; rw [if_neg (by omega), if_pos ⟨h97, h122⟩]
                obtain ⟨d, hd⟩ : ∃ d : Nat, lw c - 97 + 10 = (d : Int) := ⟨(lw c - 87).toNat, by omega⟩
                rw [show (lw c - 87).toNat = d by omega] at hdv
                refine WL.op rfl rfl rfl (Go.Proofs.YtoffbjfgledjfaaDoor.W.quiet_pick rfl rfl rfl) ?_
                refine WL.op rfl rfl rfl (Go.Proofs.YtoffbjfgledjfaaDoor.W.quiet_assign rfl rfl) ?_
                refine WL.nil ?_
                refine TW.cond rfl (fun _ => ?_) (fun hb => by cases hb)
                refine TW.reg ?_
                refine WL.op rfl rfl rfl (Go.Proofs.YtoffbjfgledjfaaDoor.W.quiet_move rfl rfl) ?_
                refine WL.call (hr := (t_lower c w2)) rfl rfl rfl rfl rfl (fun W => qk_internal_strconv_lower W _) ?_
                rintro e wz ⟨rfl, hwz⟩
                refine ⟨_, rfl, ?_⟩
                obtain rfl := hwz.symm
                refine WL.op rfl rfl rfl (Go.Proofs.YtoffbjfgledjfaaDoor.W.quiet_bin rfl rfl rfl (fun W => qb_sub_uint8 W _ _ (lw c) _ (by omega) (by omega))) ?_
                refine WL.op rfl rfl rfl (Go.Proofs.YtoffbjfgledjfaaDoor.W.quiet_bin rfl rfl rfl (fun W => (qb_add_uint8 W _ _ _ _ (by omega) (by omega)).trans (by rw [hd]))) ?_
                refine WL.op rfl rfl rfl (Go.Proofs.YtoffbjfgledjfaaDoor.W.quiet_assign rfl rfl) ?_
                refine WL.end ?_
                refine Xw.nblk ?_
                refine Xw.nrm ?_
                refine TW.seq ?_
                refine TW.sreg ?_
                refine WL.op rfl rfl rfl (Go.Proofs.YtoffbjfgledjfaaDoor.W.quiet_move rfl rfl) ?_
                refine WL.op rfl rfl rfl (Go.Proofs.YtoffbjfgledjfaaDoor.W.quiet_move rfl rfl) ?_
                refine O.cv rfl rfl rfl rfl rfl (qc_int_uint8 _ _ (by omega) (by omega)) ?_
                refine WL.op rfl rfl rfl (Go.Proofs.YtoffbjfgledjfaaDoor.W.quiet_bin rfl rfl rfl (fun W => qb_geq_uint8 W _ _ _ _)) ?_
                refine O.split (fun hb => ?_) (fun hb => ?_)
                · skip
                  refine WL.nil ?_
                  refine TW.cond rfl (fun _ => ?_) (fun hb => by cases hb)
                  refine TW.sreg ?_
                  refine O.mi rfl rfl rfl rfl rfl (qm_strconv_Error _ _) ?_
                  refine WL.op rfl rfl rfl (Go.Proofs.YtoffbjfgledjfaaDoor.W.quiet_assign rfl rfl) ?_
                  refine WL.op rfl rfl rfl (Go.Proofs.YtoffbjfgledjfaaDoor.W.quiet_assign rfl rfl) ?_
                  refine WL.nil ?_
                  refine TW.rt ?_
                  refine Xw.thn (by simp) ?_
                  refine Xw.rblk ?_
                  refine Xw.thn (by simp) ?_
                  refine Xw.thn (by simp) ?_
                  refine Xw.rblk ?_
                  refine Xw.thn (by simp) ?_
                  refine O.ret2 rfl rfl rfl ?_
                  have q : puT s = (0, 2) := by
                    rw [hpu, hp, drop_at s j hjl]
                    unfold pU
                    simp only [show s[j] = c from hc.symm, hdv]
                    rw [if_pos (by have := of_decide_eq_true hb; omega)]
                  exact ⟨by rw [q]; rfl, ff⟩
                · skip
                  have hd16 : ¬ 16 ≤ d := by have := of_decide_eq_false hb; omega
                  have hn2 : (n : Int) * 16 + (d : Int) = ((n * 16 + d : Nat) : Int) := by omega
                  refine WL.nil ?_
                  refine TW.cond rfl (fun hb => by cases hb) (fun _ => ?_)
                  refine TW.skip ?_
                  refine TW.seq ?_
                  refine TW.sreg ?_
                  refine WL.op rfl rfl rfl (Go.Proofs.YtoffbjfgledjfaaDoor.W.quiet_move rfl rfl) ?_
                  refine WL.op rfl rfl rfl (Go.Proofs.YtoffbjfgledjfaaDoor.W.quiet_move rfl rfl) ?_
                  refine WL.op rfl rfl rfl (Go.Proofs.YtoffbjfgledjfaaDoor.W.quiet_bin rfl rfl rfl (fun W => qb_geq_uint64 W _ _ _ _)) ?_
                  refine O.split (fun hb => by exfalso; revert hb; first | (simp; done) | (simp; omega)) (fun hb => ?_)
                  refine WL.nil ?_
                  refine TW.cond rfl (fun hb => by cases hb) (fun _ => ?_)
                  refine TW.skip ?_
                  refine TW.sreg ?_
                  refine WL.op rfl rfl rfl (Go.Proofs.YtoffbjfgledjfaaDoor.W.quiet_move rfl rfl) ?_
                  refine WL.op rfl rfl rfl (Go.Proofs.YtoffbjfgledjfaaDoor.W.quiet_move rfl rfl) ?_
                  refine O.cv rfl rfl rfl rfl rfl (qc_int_uint64 _ _ (by omega) (by omega)) ?_
                  refine WL.op rfl rfl rfl (Go.Proofs.YtoffbjfgledjfaaDoor.W.quiet_bin rfl rfl rfl (fun W => qb_mul_uint64 W _ _ _ _ (by omega) (by omega))) ?_
                  refine WL.op rfl rfl rfl (Go.Proofs.YtoffbjfgledjfaaDoor.W.quiet_assign rfl rfl) ?_
                  refine WL.nil ?_
                  refine TW.sreg ?_
                  refine WL.op rfl rfl rfl (Go.Proofs.YtoffbjfgledjfaaDoor.W.quiet_move rfl rfl) ?_
                  refine WL.op rfl rfl rfl (Go.Proofs.YtoffbjfgledjfaaDoor.W.quiet_move rfl rfl) ?_
                  refine O.cv rfl rfl rfl rfl rfl (qc_uint8_uint64 _ _ (by omega) (by omega)) ?_
                  refine WL.op rfl rfl rfl (Go.Proofs.YtoffbjfgledjfaaDoor.W.quiet_bin rfl rfl rfl (fun W => (qb_add_uint64 W _ _ _ _ (by omega) (by omega)).trans (by rw [hn2]))) ?_
                  refine WL.op rfl rfl rfl (Go.Proofs.YtoffbjfgledjfaaDoor.W.quiet_assign rfl rfl) ?_
                  refine WL.nil ?_
                  refine TW.seq ?_
                  refine TW.sreg ?_
                  refine WL.op rfl rfl rfl (Go.Proofs.YtoffbjfgledjfaaDoor.W.quiet_move rfl rfl) ?_
                  refine WL.op rfl rfl rfl (Go.Proofs.YtoffbjfgledjfaaDoor.W.quiet_move rfl rfl) ?_
                  refine WL.op rfl rfl rfl (Go.Proofs.YtoffbjfgledjfaaDoor.W.quiet_bin rfl rfl rfl (fun W => qb_lss_uint64 W _ _ _ _)) ?_
                  refine O.split (fun hb => by exfalso; revert hb; first | (simp; done) | (simp; omega)) (fun hb => ?_)
                  refine WL.op rfl rfl rfl (Go.Proofs.YtoffbjfgledjfaaDoor.W.quiet_move rfl rfl) ?_
                  refine WL.op rfl rfl rfl (Go.Proofs.YtoffbjfgledjfaaDoor.W.quiet_move rfl rfl) ?_
                  refine WL.op rfl rfl rfl (Go.Proofs.YtoffbjfgledjfaaDoor.W.quiet_move rfl rfl) ?_
                  refine WL.op rfl rfl rfl (Go.Proofs.YtoffbjfgledjfaaDoor.W.quiet_bin rfl rfl rfl (fun W => qb_gtr_uint64 W _ _ _ _)) ?_
                  refine O.split (fun hb9 => ?_) (fun hb9 => ?_)
                  · skip
                    refine WL.op rfl rfl rfl (Go.Proofs.YtoffbjfgledjfaaDoor.W.quiet_pick rfl rfl rfl) ?_
                    refine WL.nil ?_
                    refine TW.cond rfl (fun _ => ?_) (fun hb => by cases hb)
                    refine TW.sreg ?_
                    refine WL.op rfl rfl rfl (Go.Proofs.YtoffbjfgledjfaaDoor.W.quiet_move rfl rfl) ?_
                    refine O.mi rfl rfl rfl rfl rfl (qm_strconv_Error _ _) ?_
                    refine WL.op rfl rfl rfl (Go.Proofs.YtoffbjfgledjfaaDoor.W.quiet_assign rfl rfl) ?_
                    refine WL.op rfl rfl rfl (Go.Proofs.YtoffbjfgledjfaaDoor.W.quiet_assign rfl rfl) ?_
                    refine WL.nil ?_
                    refine TW.rt ?_
                    refine Xw.thn (by simp) ?_
                    refine Xw.rblk ?_
                    refine Xw.thn (by simp) ?_
                    refine Xw.thn (by simp) ?_
                    refine Xw.rblk ?_
                    refine Xw.thn (by simp) ?_
                    refine O.ret2 rfl rfl rfl ?_
                    have hbb := of_decide_eq_true hb9
                    have q : puT s = (4294967295, 1) := by
                      rw [hpu, hp, drop_at s j hjl]
                      unfold pU
                      simp only [show s[j] = c from hc.symm, hdv]
                      rw [if_neg hd16, if_pos (by omega)]
                    exact ⟨by rw [q]; rfl, ff⟩
                  · skip
                    have hbb := of_decide_eq_false hb9
                    refine WL.op rfl rfl rfl (Go.Proofs.YtoffbjfgledjfaaDoor.W.quiet_pick rfl rfl rfl) ?_
                    refine WL.nil ?_
                    refine TW.cond rfl (fun hb => by cases hb) (fun _ => ?_)
                    refine TW.skip ?_
                    refine TW.reg ?_
                    refine WL.op rfl rfl rfl (Go.Proofs.YtoffbjfgledjfaaDoor.W.quiet_move rfl rfl) ?_
                    refine WL.op rfl rfl rfl (Go.Proofs.YtoffbjfgledjfaaDoor.W.quiet_assign rfl rfl) ?_
                    refine WL.end ?_
                    refine Xw.nblk ?_
                    refine Xw.nrm ?_
                    refine TW.reg ?_
                    refine WL.op rfl rfl rfl (Go.Proofs.YtoffbjfgledjfaaDoor.W.quiet_bin rfl rfl rfl (fun W => qb_add_int W _ _ _ _ (by omega) (by omega))) ?_
                    refine WL.op rfl rfl rfl (Go.Proofs.YtoffbjfgledjfaaDoor.W.quiet_move rfl rfl) ?_
                    refine WL.end ?_
                    refine Xw.any (fun a k => ?_)
                    refine ⟨j + 1, by omega, by omega, n * 16 + d, by (repeat (refine Kn.cons k rfl ?_)); exact k.base, rfl, by omega, ?_⟩
                    rw [hp, drop_at s j hjl]
                    conv => lhs; unfold pU
                    simp only [show s[j] = c from hc.symm, hdv]
                    rw [if_neg hd16, if_neg (by omega)]
              · skip
                have h122 : ¬ lw c ≤ 122 := of_decide_eq_false hb5
                have hdv : dvH c = none := by unfold dvH; rw [if_neg (by omega), if_neg (fun h => h122 h.2)]
                refine WL.op rfl rfl rfl (Go.Proofs.YtoffbjfgledjfaaDoor.W.quiet_pick rfl rfl rfl) ?_
                refine WL.op rfl rfl rfl (Go.Proofs.YtoffbjfgledjfaaDoor.W.quiet_assign rfl rfl) ?_
                refine WL.nil ?_
                refine TW.cond rfl (fun hb => by cases hb) (fun _ => ?_)
                refine TW.sreg ?_
                refine O.mi rfl rfl rfl rfl rfl (qm_strconv_Error _ _) ?_
                refine WL.op rfl rfl rfl (Go.Proofs.YtoffbjfgledjfaaDoor.W.quiet_assign rfl rfl) ?_
                refine WL.op rfl rfl rfl (Go.Proofs.YtoffbjfgledjfaaDoor.W.quiet_assign rfl rfl) ?_
                refine WL.nil ?_
                refine TW.rt ?_
                refine Xw.rblk ?_
                refine Xw.thn (by simp) ?_
                refine Xw.rblk ?_
                refine Xw.thn (by simp) ?_
                refine Xw.thn (by simp) ?_
                refine Xw.rblk ?_
                refine Xw.thn (by simp) ?_
                refine O.ret2 rfl rfl rfl ?_
                have q : puT s = (0, 2) := by
                  rw [hpu, hp, drop_at s j hjl]
                  unfold pU
                  simp only [show s[j] = c from hc.symm, hdv]
                exact ⟨by rw [q]; rfl, ff⟩
            · skip
              have h97 : ¬ 97 ≤ lw c := of_decide_eq_false hb4
              have hdv : dvH c = none := by unfold dvH; rw [if_neg (by omega), if_neg (fun h => h97 h.1)]
              refine WL.op rfl rfl rfl (Go.Proofs.YtoffbjfgledjfaaDoor.W.quiet_move rfl rfl) ?_
              refine WL.skip rfl rfl rfl ?_
              refine WL.skip rfl rfl rfl ?_
              refine WL.skip rfl rfl rfl ?_
              refine WL.op rfl rfl rfl (Go.Proofs.YtoffbjfgledjfaaDoor.W.quiet_pick rfl rfl rfl) ?_
              refine WL.op rfl rfl rfl (Go.Proofs.YtoffbjfgledjfaaDoor.W.quiet_assign rfl rfl) ?_
              refine WL.nil ?_
              refine TW.cond rfl (fun hb => by cases hb) (fun _ => ?_)
              refine TW.sreg ?_
              refine O.mi rfl rfl rfl rfl rfl (qm_strconv_Error _ _) ?_
              refine WL.op rfl rfl rfl (Go.Proofs.YtoffbjfgledjfaaDoor.W.quiet_assign rfl rfl) ?_
              refine WL.op rfl rfl rfl (Go.Proofs.YtoffbjfgledjfaaDoor.W.quiet_assign rfl rfl) ?_
              refine WL.nil ?_
              refine TW.rt ?_
              refine Xw.rblk ?_
              refine Xw.thn (by simp) ?_
              refine Xw.rblk ?_
              refine Xw.thn (by simp) ?_
              refine Xw.thn (by simp) ?_
              refine Xw.rblk ?_
              refine Xw.thn (by simp) ?_
              refine O.ret2 rfl rfl rfl ?_
              have q : puT s = (0, 2) := by
                rw [hpu, hp, drop_at s j hjl]
                unfold pU
                simp only [show s[j] = c from hc.symm, hdv]
              exact ⟨by rw [q]; rfl, ff⟩
        · skip
          have h48 := of_decide_eq_false hb2
          refine WL.op rfl rfl rfl (Go.Proofs.YtoffbjfgledjfaaDoor.W.quiet_move rfl rfl) ?_
          refine WL.skip rfl rfl rfl ?_
          refine WL.skip rfl rfl rfl ?_
          refine WL.op rfl rfl rfl (Go.Proofs.YtoffbjfgledjfaaDoor.W.quiet_pick rfl rfl rfl) ?_
          refine WL.op rfl rfl rfl (Go.Proofs.YtoffbjfgledjfaaDoor.W.quiet_assign rfl rfl) ?_
          refine WL.nil ?_
          refine TW.cond rfl (fun hb => by cases hb) (fun _ => ?_)
          refine TW.sreg ?_
          refine WL.op rfl rfl rfl (Go.Proofs.YtoffbjfgledjfaaDoor.W.quiet_move rfl rfl) ?_
          refine WL.call (hr := (t_lower c w2)) rfl rfl rfl rfl rfl (fun W => qk_internal_strconv_lower W _) ?_
          rintro e wz ⟨rfl, hwz⟩
          refine ⟨_, rfl, ?_⟩
          obtain rfl := hwz.symm
          refine WL.op rfl rfl rfl (Go.Proofs.YtoffbjfgledjfaaDoor.W.quiet_bin rfl rfl rfl (fun W => qb_leq_uint8 W _ _ _ _)) ?_
          refine O.split (fun hb4 => ?_) (fun hb4 => ?_)
          · skip
            refine WL.op rfl rfl rfl (Go.Proofs.YtoffbjfgledjfaaDoor.W.quiet_move rfl rfl) ?_
            refine WL.op rfl rfl rfl (Go.Proofs.YtoffbjfgledjfaaDoor.W.quiet_move rfl rfl) ?_
            refine WL.call (hr := (t_lower c w2)) rfl rfl rfl rfl rfl (fun W => qk_internal_strconv_lower W _) ?_
            rintro e wz ⟨rfl, hwz⟩
            refine ⟨_, rfl, ?_⟩
            obtain rfl := hwz.symm
            refine WL.op rfl rfl rfl (Go.Proofs.YtoffbjfgledjfaaDoor.W.quiet_bin rfl rfl rfl (fun W => qb_leq_uint8 W _ _ _ _)) ?_
            refine O.split (fun hb5 => ?_) (fun hb5 => ?_)
            · skip
              have h97 : 97 ≤ lw c := of_decide_eq_true hb4
              have h122 : lw c ≤ 122 := of_decide_eq_true hb5
              have hdv : dvH c = some (lw c - 87).toNat := by unfold dvH; rw [if_neg (by omega), if_pos ⟨h97, h122⟩]
              obtain ⟨d, hd⟩ : ∃ d : Nat, lw c - 97 + 10 = (d : Int) := ⟨(lw c - 87).toNat, by omega⟩
              rw [show (lw c - 87).toNat = d by omega] at hdv
              refine WL.op rfl rfl rfl (Go.Proofs.YtoffbjfgledjfaaDoor.W.quiet_pick rfl rfl rfl) ?_
              refine WL.op rfl rfl rfl (Go.Proofs.YtoffbjfgledjfaaDoor.W.quiet_assign rfl rfl) ?_
              refine WL.nil ?_
              refine TW.cond rfl (fun _ => ?_) (fun hb => by cases hb)
              refine TW.reg ?_
              refine WL.op rfl rfl rfl (Go.Proofs.YtoffbjfgledjfaaDoor.W.quiet_move rfl rfl) ?_
              refine WL.call (hr := (t_lower c w2)) rfl rfl rfl rfl rfl (fun W => qk_internal_strconv_lower W _) ?_
              rintro e wz ⟨rfl, hwz⟩
              refine ⟨_, rfl, ?_⟩
              obtain rfl := hwz.symm
              refine WL.op rfl rfl rfl (Go.Proofs.YtoffbjfgledjfaaDoor.W.quiet_bin rfl rfl rfl (fun W => qb_sub_uint8 W _ _ (lw c) _ (by omega) (by omega))) ?_
              refine WL.op rfl rfl rfl (Go.Proofs.YtoffbjfgledjfaaDoor.W.quiet_bin rfl rfl rfl (fun W => (qb_add_uint8 W _ _ _ _ (by omega) (by omega)).trans (by rw [hd]))) ?_
              refine WL.op rfl rfl rfl (Go.Proofs.YtoffbjfgledjfaaDoor.W.quiet_assign rfl rfl) ?_
              refine WL.end ?_
              refine Xw.nblk ?_
              refine Xw.nrm ?_
              refine TW.seq ?_
              refine TW.sreg ?_
              refine WL.op rfl rfl rfl (Go.Proofs.YtoffbjfgledjfaaDoor.W.quiet_move rfl rfl) ?_
              refine WL.op rfl rfl rfl (Go.Proofs.YtoffbjfgledjfaaDoor.W.quiet_move rfl rfl) ?_
              refine O.cv rfl rfl rfl rfl rfl (qc_int_uint8 _ _ (by omega) (by omega)) ?_
              refine WL.op rfl rfl rfl (Go.Proofs.YtoffbjfgledjfaaDoor.W.quiet_bin rfl rfl rfl (fun W => qb_geq_uint8 W _ _ _ _)) ?_
              refine O.split (fun hb => ?_) (fun hb => ?_)
              · skip
                refine WL.nil ?_
                refine TW.cond rfl (fun _ => ?_) (fun hb => by cases hb)
                refine TW.sreg ?_
                refine O.mi rfl rfl rfl rfl rfl (qm_strconv_Error _ _) ?_
                refine WL.op rfl rfl rfl (Go.Proofs.YtoffbjfgledjfaaDoor.W.quiet_assign rfl rfl) ?_
                refine WL.op rfl rfl rfl (Go.Proofs.YtoffbjfgledjfaaDoor.W.quiet_assign rfl rfl) ?_
                refine WL.nil ?_
                refine TW.rt ?_
                refine Xw.thn (by simp) ?_
                refine Xw.rblk ?_
                refine Xw.thn (by simp) ?_
                refine Xw.thn (by simp) ?_
                refine Xw.rblk ?_
                refine Xw.thn (by simp) ?_
                refine O.ret2 rfl rfl rfl ?_
                have q : puT s = (0, 2) := by
                  rw [hpu, hp, drop_at s j hjl]
                  unfold pU
                  simp only [show s[j] = c from hc.symm, hdv]
                  rw [if_pos (by have := of_decide_eq_true hb; omega)]
                exact ⟨by rw [q]; rfl, ff⟩
              · skip
                have hd16 : ¬ 16 ≤ d := by have := of_decide_eq_false hb; omega
                have hn2 : (n : Int) * 16 + (d : Int) = ((n * 16 + d : Nat) : Int) := by omega
                refine WL.nil ?_
                refine TW.cond rfl (fun hb => by cases hb) (fun _ => ?_)
                refine TW.skip ?_
                refine TW.seq ?_
                refine TW.sreg ?_
                refine WL.op rfl rfl rfl (Go.Proofs.YtoffbjfgledjfaaDoor.W.quiet_move rfl rfl) ?_
                refine WL.op rfl rfl rfl (Go.Proofs.YtoffbjfgledjfaaDoor.W.quiet_move rfl rfl) ?_
                refine WL.op rfl rfl rfl (Go.Proofs.YtoffbjfgledjfaaDoor.W.quiet_bin rfl rfl rfl (fun W => qb_geq_uint64 W _ _ _ _)) ?_
                refine O.split (fun hb => by exfalso; revert hb; first | (simp; done) | (simp; omega)) (fun hb => ?_)
                refine WL.nil ?_
                refine TW.cond rfl (fun hb => by cases hb) (fun _ => ?_)
                refine TW.skip ?_
                refine TW.sreg ?_
                refine WL.op rfl rfl rfl (Go.Proofs.YtoffbjfgledjfaaDoor.W.quiet_move rfl rfl) ?_
                refine WL.op rfl rfl rfl (Go.Proofs.YtoffbjfgledjfaaDoor.W.quiet_move rfl rfl) ?_
                refine O.cv rfl rfl rfl rfl rfl (qc_int_uint64 _ _ (by omega) (by omega)) ?_
                refine WL.op rfl rfl rfl (Go.Proofs.YtoffbjfgledjfaaDoor.W.quiet_bin rfl rfl rfl (fun W => qb_mul_uint64 W _ _ _ _ (by omega) (by omega))) ?_
                refine WL.op rfl rfl rfl (Go.Proofs.YtoffbjfgledjfaaDoor.W.quiet_assign rfl rfl) ?_
                refine WL.nil ?_
                refine TW.sreg ?_
                refine WL.op rfl rfl rfl (Go.Proofs.YtoffbjfgledjfaaDoor.W.quiet_move rfl rfl) ?_
                refine WL.op rfl rfl rfl (Go.Proofs.YtoffbjfgledjfaaDoor.W.quiet_move rfl rfl) ?_
                refine O.cv rfl rfl rfl rfl rfl (qc_uint8_uint64 _ _ (by omega) (by omega)) ?_
                refine WL.op rfl rfl rfl (Go.Proofs.YtoffbjfgledjfaaDoor.W.quiet_bin rfl rfl rfl (fun W => (qb_add_uint64 W _ _ _ _ (by omega) (by omega)).trans (by rw [hn2]))) ?_
                refine WL.op rfl rfl rfl (Go.Proofs.YtoffbjfgledjfaaDoor.W.quiet_assign rfl rfl) ?_
                refine WL.nil ?_
                refine TW.seq ?_
                refine TW.sreg ?_
                refine WL.op rfl rfl rfl (Go.Proofs.YtoffbjfgledjfaaDoor.W.quiet_move rfl rfl) ?_
                refine WL.op rfl rfl rfl (Go.Proofs.YtoffbjfgledjfaaDoor.W.quiet_move rfl rfl) ?_
                refine WL.op rfl rfl rfl (Go.Proofs.YtoffbjfgledjfaaDoor.W.quiet_bin rfl rfl rfl (fun W => qb_lss_uint64 W _ _ _ _)) ?_
                refine O.split (fun hb => by exfalso; revert hb; first | (simp; done) | (simp; omega)) (fun hb => ?_)
                refine WL.op rfl rfl rfl (Go.Proofs.YtoffbjfgledjfaaDoor.W.quiet_move rfl rfl) ?_
                refine WL.op rfl rfl rfl (Go.Proofs.YtoffbjfgledjfaaDoor.W.quiet_move rfl rfl) ?_
                refine WL.op rfl rfl rfl (Go.Proofs.YtoffbjfgledjfaaDoor.W.quiet_move rfl rfl) ?_
                refine WL.op rfl rfl rfl (Go.Proofs.YtoffbjfgledjfaaDoor.W.quiet_bin rfl rfl rfl (fun W => qb_gtr_uint64 W _ _ _ _)) ?_
                refine O.split (fun hb9 => ?_) (fun hb9 => ?_)
                · skip
                  refine WL.op rfl rfl rfl (Go.Proofs.YtoffbjfgledjfaaDoor.W.quiet_pick rfl rfl rfl) ?_
                  refine WL.nil ?_
                  refine TW.cond rfl (fun _ => ?_) (fun hb => by cases hb)
                  refine TW.sreg ?_
                  refine WL.op rfl rfl rfl (Go.Proofs.YtoffbjfgledjfaaDoor.W.quiet_move rfl rfl) ?_
                  refine O.mi rfl rfl rfl rfl rfl (qm_strconv_Error _ _) ?_
                  refine WL.op rfl rfl rfl (Go.Proofs.YtoffbjfgledjfaaDoor.W.quiet_assign rfl rfl) ?_
                  refine WL.op rfl rfl rfl (Go.Proofs.YtoffbjfgledjfaaDoor.W.quiet_assign rfl rfl) ?_
                  refine WL.nil ?_
                  refine TW.rt ?_
                  refine Xw.thn (by simp) ?_
                  refine Xw.rblk ?_
                  refine Xw.thn (by simp) ?_
                  refine Xw.thn (by simp) ?_
                  refine Xw.rblk ?_
                  refine Xw.thn (by simp) ?_
                  refine O.ret2 rfl rfl rfl ?_
                  have hbb := of_decide_eq_true hb9
                  have q : puT s = (4294967295, 1) := by
                    rw [hpu, hp, drop_at s j hjl]
                    unfold pU
                    simp only [show s[j] = c from hc.symm, hdv]
                    rw [if_neg hd16, if_pos (by omega)]
                  exact ⟨by rw [q]; rfl, ff⟩
                · skip
                  have hbb := of_decide_eq_false hb9
                  refine WL.op rfl rfl rfl (Go.Proofs.YtoffbjfgledjfaaDoor.W.quiet_pick rfl rfl rfl) ?_
                  refine WL.nil ?_
                  refine TW.cond rfl (fun hb => by cases hb) (fun _ => ?_)
                  refine TW.skip ?_
                  refine TW.reg ?_
                  refine WL.op rfl rfl rfl (Go.Proofs.YtoffbjfgledjfaaDoor.W.quiet_move rfl rfl) ?_
                  refine WL.op rfl rfl rfl (Go.Proofs.YtoffbjfgledjfaaDoor.W.quiet_assign rfl rfl) ?_
                  refine WL.end ?_
                  refine Xw.nblk ?_
                  refine Xw.nrm ?_
                  refine TW.reg ?_
                  refine WL.op rfl rfl rfl (Go.Proofs.YtoffbjfgledjfaaDoor.W.quiet_bin rfl rfl rfl (fun W => qb_add_int W _ _ _ _ (by omega) (by omega))) ?_
                  refine WL.op rfl rfl rfl (Go.Proofs.YtoffbjfgledjfaaDoor.W.quiet_move rfl rfl) ?_
                  refine WL.end ?_
                  refine Xw.any (fun a k => ?_)
                  refine ⟨j + 1, by omega, by omega, n * 16 + d, by (repeat (refine Kn.cons k rfl ?_)); exact k.base, rfl, by omega, ?_⟩
                  rw [hp, drop_at s j hjl]
                  conv => lhs; unfold pU
                  simp only [show s[j] = c from hc.symm, hdv]
                  rw [if_neg hd16, if_neg (by omega)]
            · skip
              have h122 : ¬ lw c ≤ 122 := of_decide_eq_false hb5
              have hdv : dvH c = none := by unfold dvH; rw [if_neg (by omega), if_neg (fun h => h122 h.2)]
              refine WL.op rfl rfl rfl (Go.Proofs.YtoffbjfgledjfaaDoor.W.quiet_pick rfl rfl rfl) ?_
              refine WL.op rfl rfl rfl (Go.Proofs.YtoffbjfgledjfaaDoor.W.quiet_assign rfl rfl) ?_
              refine WL.nil ?_
              refine TW.cond rfl (fun hb => by cases hb) (fun _ => ?_)
              refine TW.sreg ?_
              refine O.mi rfl rfl rfl rfl rfl (qm_strconv_Error _ _) ?_
              refine WL.op rfl rfl rfl (Go.Proofs.YtoffbjfgledjfaaDoor.W.quiet_assign rfl rfl) ?_
              refine WL.op rfl rfl rfl (Go.Proofs.YtoffbjfgledjfaaDoor.W.quiet_assign rfl rfl) ?_
              refine WL.nil ?_
              refine TW.rt ?_
              refine Xw.rblk ?_
              refine Xw.thn (by simp) ?_
              refine Xw.rblk ?_
              refine Xw.thn (by simp) ?_
              refine Xw.thn (by simp) ?_
              refine Xw.rblk ?_
              refine Xw.thn (by simp) ?_
              refine O.ret2 rfl rfl rfl ?_
              have q : puT s = (0, 2) := by
                rw [hpu, hp, drop_at s j hjl]
                unfold pU
                simp only [show s[j] = c from hc.symm, hdv]
              exact ⟨by rw [q]; rfl, ff⟩
          · skip
            have h97 : ¬ 97 ≤ lw c := of_decide_eq_false hb4
            have hdv : dvH c = none := by unfold dvH; rw [if_neg (by omega), if_neg (fun h => h97 h.1)]
            refine WL.op rfl rfl rfl (Go.Proofs.YtoffbjfgledjfaaDoor.W.quiet_move rfl rfl) ?_
            refine WL.skip rfl rfl rfl ?_
            refine WL.skip rfl rfl rfl ?_
            refine WL.skip rfl rfl rfl ?_
            refine WL.op rfl rfl rfl (Go.Proofs.YtoffbjfgledjfaaDoor.W.quiet_pick rfl rfl rfl) ?_
            refine WL.op rfl rfl rfl (Go.Proofs.YtoffbjfgledjfaaDoor.W.quiet_assign rfl rfl) ?_
            refine WL.nil ?_
            refine TW.cond rfl (fun hb => by cases hb) (fun _ => ?_)
            refine TW.sreg ?_
            refine O.mi rfl rfl rfl rfl rfl (qm_strconv_Error _ _) ?_
            refine WL.op rfl rfl rfl (Go.Proofs.YtoffbjfgledjfaaDoor.W.quiet_assign rfl rfl) ?_
            refine WL.op rfl rfl rfl (Go.Proofs.YtoffbjfgledjfaaDoor.W.quiet_assign rfl rfl) ?_
            refine WL.nil ?_
            refine TW.rt ?_
            refine Xw.rblk ?_
            refine Xw.thn (by simp) ?_
            refine Xw.rblk ?_
            refine Xw.thn (by simp) ?_
            refine Xw.thn (by simp) ?_
            refine Xw.rblk ?_
            refine Xw.thn (by simp) ?_
            refine O.ret2 rfl rfl rfl ?_
            have q : puT s = (0, 2) := by
              rw [hpu, hp, drop_at s j hjl]
              unfold pU
              simp only [show s[j] = c from hc.symm, hdv]
            exact ⟨by rw [q]; rfl, ff⟩
    · skip
      refine WL.nil ?_
      refine TW.seq ?_
      refine TW.cond rfl (fun hb => by cases hb) (fun _ => ?_)
      refine TW.exit ?_
      refine Xw.thn (by simp) ?_
      refine Xw.thn (by simp) ?_
      refine Xw.hit ?_
      refine Xw.nrm ?_
      refine TW.seq ?_
      refine TW.sreg ?_
      refine WL.op rfl rfl rfl (Go.Proofs.YtoffbjfgledjfaaDoor.W.quiet_move rfl rfl) ?_
      refine WL.op rfl rfl rfl (Go.Proofs.YtoffbjfgledjfaaDoor.W.quiet_move rfl rfl) ?_
      refine WL.skip rfl rfl rfl ?_
      refine WL.skip rfl rfl rfl ?_
      refine WL.skip rfl rfl rfl ?_
      refine WL.op rfl rfl rfl (Go.Proofs.YtoffbjfgledjfaaDoor.W.quiet_pick rfl rfl rfl) ?_
      refine WL.nil ?_
      refine TW.cond rfl (fun hb => by cases hb) (fun _ => ?_)
      refine TW.skip ?_
      refine TW.sreg ?_
      refine WL.op rfl rfl rfl (Go.Proofs.YtoffbjfgledjfaaDoor.W.quiet_move rfl rfl) ?_
      refine WL.op rfl rfl rfl (Go.Proofs.YtoffbjfgledjfaaDoor.W.quiet_assign rfl rfl) ?_
      refine WL.op rfl rfl rfl (Go.Proofs.YtoffbjfgledjfaaDoor.W.quiet_assign rfl rfl) ?_
      refine WL.nil ?_
      refine TW.rt ?_
      refine O.ret2 rfl rfl rfl ?_
      have hje : j = s.length := by have := of_decide_eq_false hlt; omega
      have q : puT s = (n, 0) := by
        rw [hpu, hp, hje, List.drop_length]
        rfl
      exact ⟨by rw [q]; rfl, ff⟩
theorem Fr.of_below' {w w' : World} (h : Below w.heap.size w w') : Fr (fun _ => False) w w' := (Fr.of_below h).mono fun k hk e => by omega
theorem t_cut (s sep : List UInt8) (hs : s.length ≤ 10000000) (hp : 0 < sep.length ∧ sep.length ≤ 100) (w : World) (hm : MlW w) : Calls Tryd.prog 20 #[bts s, bts sep] w fun e w' => e = .returned (.tuple #[bts (Lib.cut s sep).1, bts (Lib.cut s sep).2.1, .bool (Lib.cut s sep).2.2]) ∧ Fr (fun _ => False) w w' := by
  obtain ⟨m, hm⟩ := hm
  have KC := Tryd.strings_Cut ⟨s.toArray⟩ ⟨sep.toArray⟩ m w (by simp [ByteArray.size]; omega) hm
  rw [show (⟨s.toArray⟩ : ByteArray).data.toList = s by simp, show (⟨sep.toArray⟩ : ByteArray).data.toList = sep by simp] at KC
  refine KC.mono fun e w' q => ?_
  obtain ⟨rfl, nd, rfl⟩ := q
  exact ⟨rfl, (Fr.refl _ _).drewN nd⟩
theorem t_cutp (s sep : List UInt8) (w : World) : Calls Tryd.prog 21 #[bts s, bts sep] w fun e w' => e = .returned (.tuple #[bts (Lib.trimPrefix s sep), .bool (Lib.hasPrefix s sep)]) ∧ Fr (fun _ => False) w w' := by
  have KC := Tryd.strings_CutPrefix ⟨s.toArray⟩ ⟨sep.toArray⟩ w
  rw [show (⟨s.toArray⟩ : ByteArray).data.toList = s by simp, show (⟨sep.toArray⟩ : ByteArray).data.toList = sep by simp] at KC
  refine KC.mono fun e w' q => ?_
  obtain ⟨rfl, rfl⟩ := q
  exact ⟨rfl, Fr.refl _ _⟩
theorem er_ne0 (w : World) (x  : Operand) : (do eqGuard .neq 45 x (.const .nilIface) .nilIface .nilIface; binOp .neq 45 .nilIface .nilIface : Sem Value).run Tryd.prog w = .ok (.bool false) w := by simp [go_sem]
theorem er_ne1 (w : World) (x  : Operand) (t : TypeId) (v : Value) : (do eqGuard .neq 45 x (.const .nilIface) (.iface t v) .nilIface; binOp .neq 45 (.iface t v) .nilIface : Sem Value).run Tryd.prog w = .ok (.bool true) w := by simp [go_sem]
theorem er_eq0 (w : World) (x  : Operand) : (do eqGuard .eql 45 x (.const .nilIface) .nilIface .nilIface; binOp .eql 45 .nilIface .nilIface : Sem Value).run Tryd.prog w = .ok (.bool true) w := by simp [go_sem]
theorem er_eq1 (w : World) (x  : Operand) (t : TypeId) (v : Value) : (do eqGuard .eql 45 x (.const .nilIface) (.iface t v) .nilIface; binOp .eql 45 (.iface t v) .nilIface : Sem Value).run Tryd.prog w = .ok (.bool false) w := by simp [go_sem]
/-- What ParseUint hands back beside the number. -/
def ErV (c : Nat) (er : Value) : Prop := (c = 0 ∧ er = .nilIface) ∨ (c ≠ 0 ∧ ∃ te pe, er = .iface te pe)
theorem t_toerr (s : List UInt8) (hs : s.length ≤ 1000000) (c : Nat) (hc : c = 1 ∨ c = 2) (w : World) (he : ErW w) : Calls Tryd.prog 48 #[.string ⟨#[80, 97, 114, 115, 101, 85, 105, 110, 116]⟩, bts s, .int .i64 16, .int .i64 32, .iface 79 (.int .i64 (c : Int))] w fun e w' => (∃ te pe, e = .returned (.iface te pe)) ∧ Fr (fun _ => False) w w' := by
  obtain ⟨⟨ts, ps, h1⟩, tr, pr, h2⟩ := he
  have hsz : (⟨s.toArray⟩ : ByteArray).size = s.length := by simp [ByteArray.size]
  rcases hc with rfl | rfl
  · refine (Tryd.strconv_toError_range _ ⟨s.toArray⟩ 16 32 _ w (by rw [hsz]; omega) h2 (.inr ⟨_, _, rfl⟩)).mono fun e w' q => ?_
    obtain ⟨N, rfl, _, _, hb⟩ := q
    exact ⟨⟨_, _, rfl⟩, Fr.of_below' hb⟩
  · refine (Tryd.strconv_toError_syntax _ ⟨s.toArray⟩ 16 32 _ w (by rw [hsz]; omega) h1 (.inr ⟨_, _, rfl⟩)).mono fun e w' q => ?_
    obtain ⟨N, rfl, _, _, hb⟩ := q
    exact ⟨⟨_, _, rfl⟩, Fr.of_below' hb⟩
theorem t_index (s sep : List UInt8) (hs : s.length ≤ 10000000) (hp : 0 < sep.length ∧ sep.length ≤ 100) (w : World) (hm : MlW w) : Calls Tryd.prog 22 #[bts s, bts sep] w fun e w' => e = .returned (.int .i64 (Lib.index s sep)) ∧ Fr (fun _ => False) w w' := by
  obtain ⟨m, hm⟩ := hm
  have KC := Tryd.strings_Index ⟨s.toArray⟩ ⟨sep.toArray⟩ m w (by simp [ByteArray.size]; omega) hm
  rw [show (⟨s.toArray⟩ : ByteArray).data.toList = s by simp, show (⟨sep.toArray⟩ : ByteArray).data.toList = sep by simp] at KC
  refine KC.mono fun e w' q => ?_
  obtain ⟨rfl, rfl⟩ := q
  exact ⟨rfl, Fr.refl _ _⟩
set_option maxRecDepth 100000 in
theorem t_sparse (s : List UInt8) (hs : s.length ≤ 1000000) (w : World) (he : ErW w) : Calls Tryd.prog 40 #[bts s, .int .i64 16, .int .i64 32] w fun e w' => ∃ er, e = .returned (.tuple #[.int .u64 ((puT s).1 : Int), er]) ∧ ErV (puT s).2 er ∧ Fr (fun _ => False) w w' := by
  refine calls_tw Tryd.func40 rfl rfl (Nat.le_of_ble_eq_true rfl) ?_
  have KI := t_iparse s hs w
  rcases puT_code s with hq | hq | hq
  · have hI : IpV (puT s) = .tuple #[.int .u64 ((puT s).1 : Int), .nilIface] := by unfold IpV; rw [hq]; rfl
    rw [hI] at KI
    refine TW.sreg ?_
    refine WL.op rfl rfl rfl (Go.Proofs.YtoffbjfgledjfaaDoor.W.quiet_assign rfl rfl) ?_
    refine WL.op rfl rfl rfl (Go.Proofs.YtoffbjfgledjfaaDoor.W.quiet_assign rfl rfl) ?_
    refine WL.nil ?_
    refine TW.sreg ?_
    refine WL.op rfl rfl rfl (Go.Proofs.YtoffbjfgledjfaaDoor.W.quiet_move rfl rfl) ?_
    refine WL.op rfl rfl rfl (Go.Proofs.YtoffbjfgledjfaaDoor.W.quiet_move rfl rfl) ?_
    refine WL.op rfl rfl rfl (Go.Proofs.YtoffbjfgledjfaaDoor.W.quiet_move rfl rfl) ?_
    refine WL.call (hr := KI) rfl rfl rfl rfl rfl (fun W => qk_internal_strconv_ParseUint W _) ?_
    rintro e w1 ⟨rfl, f1⟩
    refine ⟨_, rfl, ?_⟩
    refine WL.op rfl rfl rfl (Go.Proofs.YtoffbjfgledjfaaDoor.W.quiet_move rfl rfl) ?_
    refine O.ext rfl rfl rfl rfl rfl rfl ?_
    refine O.ext rfl rfl rfl rfl rfl rfl ?_
    refine WL.op rfl rfl rfl (Go.Proofs.YtoffbjfgledjfaaDoor.W.quiet_assign rfl rfl) ?_
    refine WL.op rfl rfl rfl (Go.Proofs.YtoffbjfgledjfaaDoor.W.quiet_assign rfl rfl) ?_
    refine WL.nil ?_
    refine TW.seq ?_
    refine TW.sreg ?_
    refine WL.op rfl rfl rfl (Go.Proofs.YtoffbjfgledjfaaDoor.W.quiet_move rfl rfl) ?_
    refine WL.op rfl rfl rfl (Go.Proofs.YtoffbjfgledjfaaDoor.W.quiet_bin rfl rfl rfl (fun W => er_ne0 W _)) ?_
    refine O.split (fun hb => by exfalso; revert hb; first | (simp; done) | (simp; omega)) (fun hb => ?_)
    refine WL.nil ?_
    refine TW.cond rfl (fun hb => by cases hb) (fun _ => ?_)
    refine TW.skip ?_
    refine TW.sreg ?_
    refine WL.op rfl rfl rfl (Go.Proofs.YtoffbjfgledjfaaDoor.W.quiet_move rfl rfl) ?_
    refine WL.op rfl rfl rfl (Go.Proofs.YtoffbjfgledjfaaDoor.W.quiet_assign rfl rfl) ?_
    refine WL.op rfl rfl rfl (Go.Proofs.YtoffbjfgledjfaaDoor.W.quiet_assign rfl rfl) ?_
    refine WL.nil ?_
    refine TW.rt ?_
    refine O.ret2 rfl rfl rfl ?_
    exact ⟨_, rfl, .inl ⟨hq, rfl⟩, f1⟩
  · skip
    refine TW.sreg ?_
    refine WL.op rfl rfl rfl (Go.Proofs.YtoffbjfgledjfaaDoor.W.quiet_assign rfl rfl) ?_
    refine WL.op rfl rfl rfl (Go.Proofs.YtoffbjfgledjfaaDoor.W.quiet_assign rfl rfl) ?_
    refine WL.nil ?_
    refine TW.sreg ?_
    refine WL.op rfl rfl rfl (Go.Proofs.YtoffbjfgledjfaaDoor.W.quiet_move rfl rfl) ?_
    refine WL.op rfl rfl rfl (Go.Proofs.YtoffbjfgledjfaaDoor.W.quiet_move rfl rfl) ?_
    refine WL.op rfl rfl rfl (Go.Proofs.YtoffbjfgledjfaaDoor.W.quiet_move rfl rfl) ?_
    have hI : IpV (puT s) = .tuple #[.int .u64 ((puT s).1 : Int), .iface 79 (.int .i64 1)] := by unfold IpV; rw [hq]; rfl
    rw [hI] at KI
    refine WL.call (hr := KI) rfl rfl rfl rfl rfl (fun W => qk_internal_strconv_ParseUint W _) ?_
    rintro e w1 ⟨rfl, f1⟩
    refine ⟨.tuple #[.int .u64 ((puT s).1 : Int), .iface 79 (.int .i64 1)], rfl, ?_⟩
    refine WL.op rfl rfl rfl (Go.Proofs.YtoffbjfgledjfaaDoor.W.quiet_move rfl rfl) ?_
    refine O.ext rfl rfl rfl rfl rfl rfl ?_
    refine O.ext rfl rfl rfl rfl rfl rfl ?_
    refine WL.op rfl rfl rfl (Go.Proofs.YtoffbjfgledjfaaDoor.W.quiet_assign rfl rfl) ?_
    refine WL.op rfl rfl rfl (Go.Proofs.YtoffbjfgledjfaaDoor.W.quiet_assign rfl rfl) ?_
    refine WL.nil ?_
    refine TW.seq ?_
    refine TW.sreg ?_
    refine WL.op rfl rfl rfl (Go.Proofs.YtoffbjfgledjfaaDoor.W.quiet_move rfl rfl) ?_
    refine WL.op rfl rfl rfl (Go.Proofs.YtoffbjfgledjfaaDoor.W.quiet_bin rfl rfl rfl (fun W => er_ne1 W _ _ _)) ?_
    refine O.split (fun hb => ?_) (fun hb => by exfalso; revert hb; first | (simp; done) | (simp; omega))
    refine WL.nil ?_
    refine TW.cond rfl (fun _ => ?_) (fun hb => by cases hb)
    refine TW.sreg ?_
    refine WL.op rfl rfl rfl (Go.Proofs.YtoffbjfgledjfaaDoor.W.quiet_move rfl rfl) ?_
    refine WL.op rfl rfl rfl (Go.Proofs.YtoffbjfgledjfaaDoor.W.quiet_move rfl rfl) ?_
    refine WL.op rfl rfl rfl (Go.Proofs.YtoffbjfgledjfaaDoor.W.quiet_move rfl rfl) ?_
    refine WL.op rfl rfl rfl (Go.Proofs.YtoffbjfgledjfaaDoor.W.quiet_move rfl rfl) ?_
    refine WL.op rfl rfl rfl (Go.Proofs.YtoffbjfgledjfaaDoor.W.quiet_move rfl rfl) ?_
    refine WL.call (hr := t_toerr s hs 1 (by decide) w1 (he.fr f1 id id)) rfl rfl rfl rfl rfl (fun W => qk_strconv_toError W _) ?_
    rintro e w2 ⟨⟨te, pe, rfl⟩, f2⟩
    refine ⟨_, rfl, ?_⟩
    refine WL.op rfl rfl rfl (Go.Proofs.YtoffbjfgledjfaaDoor.W.quiet_assign rfl rfl) ?_
    refine WL.op rfl rfl rfl (Go.Proofs.YtoffbjfgledjfaaDoor.W.quiet_assign rfl rfl) ?_
    refine WL.nil ?_
    refine TW.rt ?_
    refine Xw.thn (by simp) ?_
    refine O.ret2 rfl rfl rfl ?_
    exact ⟨_, rfl, .inr ⟨by rw [hq]; decide, te, pe, rfl⟩, f1.trans f2⟩
  · skip
    refine TW.sreg ?_
    refine WL.op rfl rfl rfl (Go.Proofs.YtoffbjfgledjfaaDoor.W.quiet_assign rfl rfl) ?_
    refine WL.op rfl rfl rfl (Go.Proofs.YtoffbjfgledjfaaDoor.W.quiet_assign rfl rfl) ?_
    refine WL.nil ?_
    refine TW.sreg ?_
    refine WL.op rfl rfl rfl (Go.Proofs.YtoffbjfgledjfaaDoor.W.quiet_move rfl rfl) ?_
    refine WL.op rfl rfl rfl (Go.Proofs.YtoffbjfgledjfaaDoor.W.quiet_move rfl rfl) ?_
    refine WL.op rfl rfl rfl (Go.Proofs.YtoffbjfgledjfaaDoor.W.quiet_move rfl rfl) ?_
    have hI : IpV (puT s) = .tuple #[.int .u64 ((puT s).1 : Int), .iface 79 (.int .i64 2)] := by unfold IpV; rw [hq]; rfl
    rw [hI] at KI
    refine WL.call (hr := KI) rfl rfl rfl rfl rfl (fun W => qk_internal_strconv_ParseUint W _) ?_
    rintro e w1 ⟨rfl, f1⟩
    refine ⟨.tuple #[.int .u64 ((puT s).1 : Int), .iface 79 (.int .i64 2)], rfl, ?_⟩
    refine WL.op rfl rfl rfl (Go.Proofs.YtoffbjfgledjfaaDoor.W.quiet_move rfl rfl) ?_
    refine O.ext rfl rfl rfl rfl rfl rfl ?_
    refine O.ext rfl rfl rfl rfl rfl rfl ?_
    refine WL.op rfl rfl rfl (Go.Proofs.YtoffbjfgledjfaaDoor.W.quiet_assign rfl rfl) ?_
    refine WL.op rfl rfl rfl (Go.Proofs.YtoffbjfgledjfaaDoor.W.quiet_assign rfl rfl) ?_
    refine WL.nil ?_
    refine TW.seq ?_
    refine TW.sreg ?_
    refine WL.op rfl rfl rfl (Go.Proofs.YtoffbjfgledjfaaDoor.W.quiet_move rfl rfl) ?_
    refine WL.op rfl rfl rfl (Go.Proofs.YtoffbjfgledjfaaDoor.W.quiet_bin rfl rfl rfl (fun W => er_ne1 W _ _ _)) ?_
    refine O.split (fun hb => ?_) (fun hb => by exfalso; revert hb; first | (simp; done) | (simp; omega))
    refine WL.nil ?_
    refine TW.cond rfl (fun _ => ?_) (fun hb => by cases hb)
    refine TW.sreg ?_
    refine WL.op rfl rfl rfl (Go.Proofs.YtoffbjfgledjfaaDoor.W.quiet_move rfl rfl) ?_
    refine WL.op rfl rfl rfl (Go.Proofs.YtoffbjfgledjfaaDoor.W.quiet_move rfl rfl) ?_
    refine WL.op rfl rfl rfl (Go.Proofs.YtoffbjfgledjfaaDoor.W.quiet_move rfl rfl) ?_
    refine WL.op rfl rfl rfl (Go.Proofs.YtoffbjfgledjfaaDoor.W.quiet_move rfl rfl) ?_
    refine WL.op rfl rfl rfl (Go.Proofs.YtoffbjfgledjfaaDoor.W.quiet_move rfl rfl) ?_
    refine WL.call (hr := t_toerr s hs 2 (by decide) w1 (he.fr f1 id id)) rfl rfl rfl rfl rfl (fun W => qk_strconv_toError W _) ?_
    rintro e w2 ⟨⟨te, pe, rfl⟩, f2⟩
    refine ⟨_, rfl, ?_⟩
    refine WL.op rfl rfl rfl (Go.Proofs.YtoffbjfgledjfaaDoor.W.quiet_assign rfl rfl) ?_
    refine WL.op rfl rfl rfl (Go.Proofs.YtoffbjfgledjfaaDoor.W.quiet_assign rfl rfl) ?_
    refine WL.nil ?_
    refine TW.rt ?_
    refine Xw.thn (by simp) ?_
    refine O.ret2 rfl rfl rfl ?_
    exact ⟨_, rfl, .inr ⟨by rw [hq]; decide, te, pe, rfl⟩, f1.trans f2⟩
end Go.Proofs.YtoffbjfgledjfaaDoor
