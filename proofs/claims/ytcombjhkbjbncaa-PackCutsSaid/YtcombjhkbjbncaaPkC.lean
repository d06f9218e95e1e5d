/-
  Pack (layer 32): zeros, others, a number behind bytes.
-/
import Derived.Test.YtcombjhkbjbncaaPkB
namespace Go.Proofs.Ytcombjhkbjbncaa
open Go.RowKit
set_option linter.unusedVariables false
set_option linter.unusedSimpArgs false
set_option linter.unnecessarySimpa false
theorem qi_s_uint8 (w : World) (b o n c j : Nat) (hj : j < n) : (Instr.indexAt 23 (.slice (some ⟨b, o, none⟩) n c) (.int .i64 (j : Int))).run Try.prog w = .ok (.pointer (some ⟨b, o + j, none⟩)) w := by
  have h : (j : Int) < (n : Int) := by omega
  simp [go_sem, h, hj]
theorem ql_uint8 (w : World) (m : Int) (d : Addr) (h : w.cell? d = some (.int .u8 m)) : (Instr.loadAt 5 (.pointer (some d))).run Try.prog w = .ok (.int .u8 m) w := by simp [go_sem, h]
theorem qn_s_uint8 (w : World) (a : Option Addr) (k l : Nat) : (Builtin.len_ #[23] 3 #[.slice a k l]).run Try.prog w = .ok (.int .i64 k) w := by simp [go_sem]
theorem qb_lss_int (w : World) (x y : Operand) (m n : Int) : ((do eqGuard .lss 3 x y (.int .i64 m) (.int .i64 n); binOp .lss 3 (.int .i64 m) (.int .i64 n) : Sem Value)).run Try.prog w = .ok (.bool (decide (m < n))) w := by simp [go_sem]
theorem qb_eql_uint8 (w : World) (x y : Operand) (m n : Int) : ((do eqGuard .eql 5 x y (.int .u8 m) (.int .u8 n); binOp .eql 5 (.int .u8 m) (.int .u8 n) : Sem Value)).run Try.prog w = .ok (.bool (m == n)) w := by simp [go_sem]
theorem qb_add_int (w : World) (x y : Operand) (m n : Int) (h0 : -9223372036854775808 ≤ m + n) (h1 : m + n ≤ 9223372036854775807) : ((do eqGuard .add 3 x y (.int .i64 m) (.int .i64 n); binOp .add 3 (.int .i64 m) (.int .i64 n) : Sem Value)).run Try.prog w = .ok (.int .i64 (m + n)) w := by
  have h : IntKind.i64.wrap (m + n) = m + n := IntWalk.i64_in _ (by omega)
  simp [go_sem, h]
theorem qk_pack_zeros (w : World) (vs : Array Value) : (callFunc 25 vs).run Try.prog w = .ok (.enter 25 vs) w := by simp [go_sem]
theorem qb_eql_int (w : World) (x y : Operand) (m n : Int) : ((do eqGuard .eql 3 x y (.int .i64 m) (.int .i64 n); binOp .eql 3 (.int .i64 m) (.int .i64 n) : Sem Value)).run Try.prog w = .ok (.bool (m == n)) w := by simp [go_sem]
theorem qv_s_uint8_4 (w : World) (u0_m0 : Int) (u1_m0 : Int) (u2_m0 : Int) (u3_m0 : Int) : (Instr.buildSlice 23 4 #[(0, .int .u8 u0_m0), (1, .int .u8 u1_m0), (2, .int .u8 u2_m0), (3, .int .u8 u3_m0)]).run Try.prog w = .ok (.slice (some ⟨w.heap.size, 0, none⟩) 4 4) (w.alloc (.cells #[.int .u8 u0_m0, .int .u8 u1_m0, .int .u8 u2_m0, .int .u8 u3_m0] 5)) := by simp [go_sem]
def zsF (d : List Int) : Nat := if bgn d then zl d else 0
theorem zs0 (d : List Int) : zsF d = 0 ↔ ¬bgn d := by
  unfold zsF
  split
  · rename_i h
    have := zl_pos h
    exact ⟨fun e => by omega, fun e => absurd h e⟩
  · rename_i h
    exact ⟨fun _ => h, fun _ => rfl⟩
theorem nz_ge : ∀ (d : List Int) (k : Nat), (∀ i, i < k → d.getD i 0 = 0) → k ≤ d.length → k ≤ nz d
  | _, 0, _, _ => Nat.zero_le _
  | [], k + 1, _, hk => by simp at hk
  | x :: r, k + 1, hz, hk => by
    have hx : x = 0 := by simpa using hz 0 (by omega)
    have := nz_ge r k (fun i hi => by simpa using hz (i + 1) (by omega)) (by simpa using hk)
    unfold nz
    rw [if_pos hx]
    omega
theorem zres {d : List Int} {j : Nat} (hz : ∀ i, i < j → d.getD i 0 = 0) (hj : j ≤ min d.length 128) (hx : j = min d.length 128 ∨ d.getD j 0 ≠ 0) : (if j < 3 ∧ j < d.length then 0 else j) = zsF d := by
  have hge := nz_ge d j hz (by omega)
  have hle := nz_le d
  have key : nz d = j ∨ 128 ≤ nz d ∧ j = 128 := by
    rcases Nat.lt_or_ge j d.length with hl | hl
    · by_cases hne : d.getD j 0 = 0
      · rcases hx with h | h
        · exact .inr (by omega)
        · exact absurd hne h
      · exact .inl (nz_end d j hz (by omega) (.inr hne))
    · exact .inl (nz_end d j hz (by omega) (.inl (by omega)))
  unfold zsF
  by_cases hb : bgn d
  · rw [if_pos hb]
    unfold zl
    have hb2 : 3 ≤ nz d ∨ 1 ≤ nz d ∧ nz d = d.length := hb
    split <;> omega
  · rw [if_neg hb]
    have hb2 : ¬(3 ≤ nz d ∨ 1 ≤ nz d ∧ nz d = d.length) := hb
    split <;> omega
theorem runs_len : ∀ d : List Int, (runs d).length ≤ 2 * d.length := by
  refine runs_ind ?_ ?_ ?_
  · simp [runs_nil]
  · intro d hb ih
    have h1 := zl_pos hb
    have h2 := zl_le d
    rw [List.length_drop] at ih
    rw [runs_z hb, List.length_cons]
    omega
  · intro d hd hb ih
    have h1 := oth_pos hd hb
    have h2 := (oth_le d).2
    rw [List.length_drop] at ih
    rw [runs_o hd hb, List.length_cons, List.length_append, List.length_take]
    omega
set_option maxRecDepth 100000 in
theorem t_zeros (Z : Nat) (da : Option Addr) (dc : Nat) (d : List Int) (hdl : d.length ≤ 1000000) (w : World) (hda : NumAt .u8 Z w da d) : Calls Try.prog 25 #[.slice da d.length dc] w fun e w' => e = .returned (.int .i64 (zsF d : Int)) ∧ Fr (fun _ => False) w w' := by
  refine calls_tw Try.func25 rfl rfl (Nat.le_of_ble_eq_true rfl) ?_
  refine TW.sreg ?_
  refine WL.op rfl rfl rfl (Go.Proofs.Ytcombjhkbjbncaa.W.quiet_assign rfl rfl) ?_
  refine WL.nil ?_
  refine TW.sreg ?_
  refine WL.op rfl rfl rfl (Go.Proofs.Ytcombjhkbjbncaa.W.quiet_assign rfl rfl) ?_
  refine WL.nil ?_
  refine TW.seq ?_
  refine TW.block ?_
  refine O.loopG (n := (min d.length 128)) (fun a _ => (intOf (a.tmps.getD 3 undef)).toNat) (fun j a W => Kn Try.f25.ntmps [(0, .slice da d.length dc), (3, .int .i64 (j : Int))] a ∧ Fr (fun _ => False) w W ∧ ∀ i, i < j → d.getD i 0 = 0) (fun j a W h => O.slotv h.1 rfl) 0 (Nat.zero_le _) (fun a k => ⟨(by (repeat (refine Kn.cons k rfl ?_)); exact k.base), Fr.refl _ _, fun i hi => absurd hi (by omega)⟩) ?_
  rintro j a wl hj ⟨k, ff, hz⟩
  refine TW.app (s := [(0, .slice da d.length dc), (3, .int .i64 (j : Int))]) ?_ k
  have hjm := hj
  have hb30 := hdl
  refine TW.seq ?_
  refine TW.sreg ?_
  refine WL.op rfl rfl rfl (Go.Proofs.Ytcombjhkbjbncaa.W.quiet_move rfl rfl) ?_
  refine WL.op rfl rfl rfl (Go.Proofs.Ytcombjhkbjbncaa.W.quiet_move rfl rfl) ?_
  refine O.len rfl rfl rfl rfl rfl (qn_s_uint8 _ _ _ _) ?_
  refine O.bmin rfl rfl rfl rfl rfl rfl (bi_min _ _ _ _) ?_
  refine WL.op rfl rfl rfl (Go.Proofs.Ytcombjhkbjbncaa.W.quiet_bin rfl rfl rfl (fun W => qb_lss_int W _ _ _ _)) ?_
  refine O.split (fun b1 => ?_) (fun b1 => ?_)
  · skip
    have hj2 : j < min d.length 128 := by have := of_decide_eq_true b1; omega
    obtain ⟨g, o, rfl, _, hc⟩ := hda j (by omega)
    refine WL.op rfl rfl rfl (Go.Proofs.Ytcombjhkbjbncaa.W.quiet_move rfl rfl) ?_
    refine WL.op rfl rfl rfl (Go.Proofs.Ytcombjhkbjbncaa.W.quiet_move rfl rfl) ?_
    refine WL.op rfl rfl rfl (Go.Proofs.Ytcombjhkbjbncaa.W.quiet_move rfl rfl) ?_
    refine O.ixa rfl rfl rfl rfl rfl rfl (qi_s_uint8 _ _ _ _ _ _ (by omega)) ?_
    refine WL.ld rfl rfl rfl rfl rfl (ql_uint8 _ _ _ (ff.cell hc id)) ?_
    refine WL.op rfl rfl rfl (Go.Proofs.Ytcombjhkbjbncaa.W.quiet_bin rfl rfl rfl (fun W => qb_eql_uint8 W _ _ _ _)) ?_
    refine O.split (fun b2 => ?_) (fun b2 => ?_)
    · skip
      refine WL.op rfl rfl rfl (Go.Proofs.Ytcombjhkbjbncaa.W.quiet_pick rfl rfl rfl) ?_
      refine WL.nil ?_
      refine TW.cond rfl (fun _ => ?_) (fun hb => by cases hb)
      refine TW.skip ?_
      refine TW.block ?_
      refine TW.reg ?_
      refine WL.op rfl rfl rfl (Go.Proofs.Ytcombjhkbjbncaa.W.quiet_move rfl rfl) ?_
      refine WL.op rfl rfl rfl (Go.Proofs.Ytcombjhkbjbncaa.W.quiet_bin rfl rfl rfl (fun W => qb_add_int W _ _ _ _ (by omega) (by omega))) ?_
      refine WL.op rfl rfl rfl (Go.Proofs.Ytcombjhkbjbncaa.W.quiet_assign rfl rfl) ?_
      refine WL.end ?_
      refine Xw.nblk ?_
      refine Xw.any (fun a k => ?_)
      refine ⟨j + 1, by omega, by omega, by (repeat (refine Kn.cons k rfl ?_)); exact k.base, ff, fun q hq => ?_⟩
      by_cases e : q = j
      · subst e; simpa using b2
      · exact hz q (by omega)
    · skip
      have hx : j = min d.length 128 ∨ d.getD j 0 ≠ 0 := .inr (by simpa using b2)
      refine WL.op rfl rfl rfl (Go.Proofs.Ytcombjhkbjbncaa.W.quiet_pick rfl rfl rfl) ?_
      refine WL.nil ?_
      refine TW.cond rfl (fun hb => by cases hb) (fun _ => ?_)
      refine TW.exit ?_
      refine Xw.thn (by simp) ?_
      refine Xw.thn (by simp) ?_
      refine Xw.hit ?_
      refine Xw.nrm ?_
      refine TW.seq ?_
      refine TW.sreg ?_
      refine WL.op rfl rfl rfl (Go.Proofs.Ytcombjhkbjbncaa.W.quiet_move rfl rfl) ?_
      refine WL.op rfl rfl rfl (Go.Proofs.Ytcombjhkbjbncaa.W.quiet_bin rfl rfl rfl (fun W => qb_lss_int W _ _ _ _)) ?_
      refine O.split (fun a1 => ?_) (fun a1 => ?_)
      · skip
        refine WL.op rfl rfl rfl (Go.Proofs.Ytcombjhkbjbncaa.W.quiet_move rfl rfl) ?_
        refine WL.op rfl rfl rfl (Go.Proofs.Ytcombjhkbjbncaa.W.quiet_move rfl rfl) ?_
        refine WL.op rfl rfl rfl (Go.Proofs.Ytcombjhkbjbncaa.W.quiet_move rfl rfl) ?_
        refine O.len rfl rfl rfl rfl rfl (qn_s_uint8 _ _ _ _) ?_
        refine WL.op rfl rfl rfl (Go.Proofs.Ytcombjhkbjbncaa.W.quiet_bin rfl rfl rfl (fun W => qb_lss_int W _ _ _ _)) ?_
        refine O.split (fun a2 => ?_) (fun a2 => ?_)
        · skip
          refine WL.op rfl rfl rfl (Go.Proofs.Ytcombjhkbjbncaa.W.quiet_pick rfl rfl rfl) ?_
          refine WL.nil ?_
          refine TW.cond rfl (fun _ => ?_) (fun hb => by cases hb)
          refine TW.sreg ?_
          refine WL.op rfl rfl rfl (Go.Proofs.Ytcombjhkbjbncaa.W.quiet_assign rfl rfl) ?_
          refine WL.nil ?_
          refine TW.rt ?_
          refine Xw.thn (by simp) ?_
          refine bodyw_ret rfl rfl ?_
          refine ⟨?_, ff⟩
          rw [← zres hz hjm hx, if_pos ⟨by have := of_decide_eq_true a1; omega, by have := of_decide_eq_true a2; omega⟩]
          rfl
        · skip
          refine WL.op rfl rfl rfl (Go.Proofs.Ytcombjhkbjbncaa.W.quiet_pick rfl rfl rfl) ?_
          refine WL.nil ?_
          refine TW.cond rfl (fun hb => by cases hb) (fun _ => ?_)
          refine TW.skip ?_
          refine TW.sreg ?_
          refine WL.op rfl rfl rfl (Go.Proofs.Ytcombjhkbjbncaa.W.quiet_move rfl rfl) ?_
          refine WL.op rfl rfl rfl (Go.Proofs.Ytcombjhkbjbncaa.W.quiet_assign rfl rfl) ?_
          refine WL.nil ?_
          refine TW.rt ?_
          refine bodyw_ret rfl rfl ?_
          refine ⟨?_, ff⟩
          rw [← zres hz hjm hx, if_neg (fun q => absurd q.2 (by have := of_decide_eq_false a2; omega))]
      · skip
        refine WL.op rfl rfl rfl (Go.Proofs.Ytcombjhkbjbncaa.W.quiet_move rfl rfl) ?_
        refine WL.skip rfl rfl rfl ?_
        refine WL.skip rfl rfl rfl ?_
        refine WL.skip rfl rfl rfl ?_
        refine WL.skip rfl rfl rfl ?_
        refine WL.op rfl rfl rfl (Go.Proofs.Ytcombjhkbjbncaa.W.quiet_pick rfl rfl rfl) ?_
        refine WL.nil ?_
        refine TW.cond rfl (fun hb => by cases hb) (fun _ => ?_)
        refine TW.skip ?_
        refine TW.sreg ?_
        refine WL.op rfl rfl rfl (Go.Proofs.Ytcombjhkbjbncaa.W.quiet_move rfl rfl) ?_
        refine WL.op rfl rfl rfl (Go.Proofs.Ytcombjhkbjbncaa.W.quiet_assign rfl rfl) ?_
        refine WL.nil ?_
        refine TW.rt ?_
        refine bodyw_ret rfl rfl ?_
        refine ⟨?_, ff⟩
        rw [← zres hz hjm hx, if_neg (fun q => absurd q.1 (by have := of_decide_eq_false a1; omega))]
  · skip
    have hx : j = min d.length 128 ∨ d.getD j 0 ≠ 0 := .inl (by have := of_decide_eq_false b1; omega)
    refine WL.op rfl rfl rfl (Go.Proofs.Ytcombjhkbjbncaa.W.quiet_move rfl rfl) ?_
    refine WL.skip rfl rfl rfl ?_
    refine WL.skip rfl rfl rfl ?_
    refine WL.skip rfl rfl rfl ?_
    refine WL.skip rfl rfl rfl ?_
    refine WL.skip rfl rfl rfl ?_
    refine WL.op rfl rfl rfl (Go.Proofs.Ytcombjhkbjbncaa.W.quiet_pick rfl rfl rfl) ?_
    refine WL.nil ?_
    refine TW.cond rfl (fun hb => by cases hb) (fun _ => ?_)
    refine TW.exit ?_
    refine Xw.thn (by simp) ?_
    refine Xw.thn (by simp) ?_
    refine Xw.hit ?_
    refine Xw.nrm ?_
    refine TW.seq ?_
    refine TW.sreg ?_
    refine WL.op rfl rfl rfl (Go.Proofs.Ytcombjhkbjbncaa.W.quiet_move rfl rfl) ?_
    refine WL.op rfl rfl rfl (Go.Proofs.Ytcombjhkbjbncaa.W.quiet_bin rfl rfl rfl (fun W => qb_lss_int W _ _ _ _)) ?_
    refine O.split (fun a1 => ?_) (fun a1 => ?_)
    · skip
      refine WL.op rfl rfl rfl (Go.Proofs.Ytcombjhkbjbncaa.W.quiet_move rfl rfl) ?_
      refine WL.op rfl rfl rfl (Go.Proofs.Ytcombjhkbjbncaa.W.quiet_move rfl rfl) ?_
      refine WL.op rfl rfl rfl (Go.Proofs.Ytcombjhkbjbncaa.W.quiet_move rfl rfl) ?_
      refine O.len rfl rfl rfl rfl rfl (qn_s_uint8 _ _ _ _) ?_
      refine WL.op rfl rfl rfl (Go.Proofs.Ytcombjhkbjbncaa.W.quiet_bin rfl rfl rfl (fun W => qb_lss_int W _ _ _ _)) ?_
      refine O.split (fun a2 => ?_) (fun a2 => ?_)
      · skip
        refine WL.op rfl rfl rfl (Go.Proofs.Ytcombjhkbjbncaa.W.quiet_pick rfl rfl rfl) ?_
        refine WL.nil ?_
        refine TW.cond rfl (fun _ => ?_) (fun hb => by cases hb)
        refine TW.sreg ?_
        refine WL.op rfl rfl rfl (Go.Proofs.Ytcombjhkbjbncaa.W.quiet_assign rfl rfl) ?_
        refine WL.nil ?_
        refine TW.rt ?_
        refine Xw.thn (by simp) ?_
        refine bodyw_ret rfl rfl ?_
        refine ⟨?_, ff⟩
        rw [← zres hz hjm hx, if_pos ⟨by have := of_decide_eq_true a1; omega, by have := of_decide_eq_true a2; omega⟩]
        rfl
      · skip
        refine WL.op rfl rfl rfl (Go.Proofs.Ytcombjhkbjbncaa.W.quiet_pick rfl rfl rfl) ?_
        refine WL.nil ?_
        refine TW.cond rfl (fun hb => by cases hb) (fun _ => ?_)
        refine TW.skip ?_
        refine TW.sreg ?_
        refine WL.op rfl rfl rfl (Go.Proofs.Ytcombjhkbjbncaa.W.quiet_move rfl rfl) ?_
        refine WL.op rfl rfl rfl (Go.Proofs.Ytcombjhkbjbncaa.W.quiet_assign rfl rfl) ?_
        refine WL.nil ?_
        refine TW.rt ?_
        refine bodyw_ret rfl rfl ?_
        refine ⟨?_, ff⟩
        rw [← zres hz hjm hx, if_neg (fun q => absurd q.2 (by have := of_decide_eq_false a2; omega))]
    · skip
      refine WL.op rfl rfl rfl (Go.Proofs.Ytcombjhkbjbncaa.W.quiet_move rfl rfl) ?_
      refine WL.skip rfl rfl rfl ?_
      refine WL.skip rfl rfl rfl ?_
      refine WL.skip rfl rfl rfl ?_
      refine WL.skip rfl rfl rfl ?_
      refine WL.op rfl rfl rfl (Go.Proofs.Ytcombjhkbjbncaa.W.quiet_pick rfl rfl rfl) ?_
      refine WL.nil ?_
      refine TW.cond rfl (fun hb => by cases hb) (fun _ => ?_)
      refine TW.skip ?_
      refine TW.sreg ?_
      refine WL.op rfl rfl rfl (Go.Proofs.Ytcombjhkbjbncaa.W.quiet_move rfl rfl) ?_
      refine WL.op rfl rfl rfl (Go.Proofs.Ytcombjhkbjbncaa.W.quiet_assign rfl rfl) ?_
      refine WL.nil ?_
      refine TW.rt ?_
      refine bodyw_ret rfl rfl ?_
      refine ⟨?_, ff⟩
      rw [← zres hz hjm hx, if_neg (fun q => absurd q.1 (by have := of_decide_eq_false a1; omega))]
set_option maxRecDepth 100000 in
theorem t_others (Z : Nat) (da : Option Addr) (dc : Nat) (d : List Int) (hdl : d.length ≤ 1000000) (hdc : d.length ≤ dc) (w : World) (hda : NumAt .u8 Z w da d) : Calls Try.prog 26 #[.slice da d.length dc] w fun e w' => e = .returned (.int .i64 (oth d : Int)) ∧ Fr (fun _ => False) w w' := by
  refine calls_tw Try.func26 rfl rfl (Nat.le_of_ble_eq_true rfl) ?_
  refine TW.sreg ?_
  refine WL.op rfl rfl rfl (Go.Proofs.Ytcombjhkbjbncaa.W.quiet_assign rfl rfl) ?_
  refine WL.nil ?_
  refine TW.sreg ?_
  refine WL.op rfl rfl rfl (Go.Proofs.Ytcombjhkbjbncaa.W.quiet_assign rfl rfl) ?_
  refine WL.nil ?_
  refine TW.seq ?_
  refine TW.block ?_
  refine O.loopG (n := (min d.length 127)) (fun a _ => (intOf (a.tmps.getD 3 undef)).toNat) (fun j a W => Kn Try.f26.ntmps [(0, .slice da d.length dc), (3, .int .i64 (j : Int))] a ∧ Fr (fun _ => False) w W ∧ ∀ i, i < j → ¬bgn (d.drop i)) (fun j a W h => O.slotv h.1 rfl) 0 (Nat.zero_le _) (fun a k => ⟨(by (repeat (refine Kn.cons k rfl ?_)); exact k.base), Fr.refl _ _, fun i hi => absurd hi (by omega)⟩) ?_
  rintro j a wl hj ⟨k, ff, hz⟩
  refine TW.app (s := [(0, .slice da d.length dc), (3, .int .i64 (j : Int))]) ?_ k
  have hb30 := hdl
  refine TW.seq ?_
  refine TW.sreg ?_
  refine WL.op rfl rfl rfl (Go.Proofs.Ytcombjhkbjbncaa.W.quiet_move rfl rfl) ?_
  refine WL.op rfl rfl rfl (Go.Proofs.Ytcombjhkbjbncaa.W.quiet_move rfl rfl) ?_
  refine O.len rfl rfl rfl rfl rfl (qn_s_uint8 _ _ _ _) ?_
  refine O.bmin rfl rfl rfl rfl rfl rfl (bi_min _ _ _ _) ?_
  refine WL.op rfl rfl rfl (Go.Proofs.Ytcombjhkbjbncaa.W.quiet_bin rfl rfl rfl (fun W => qb_lss_int W _ _ _ _)) ?_
  refine O.split (fun b1 => ?_) (fun b1 => ?_)
  · skip
    have hj2 : j < min d.length 127 := by have := of_decide_eq_true b1; omega
    refine WL.op rfl rfl rfl (Go.Proofs.Ytcombjhkbjbncaa.W.quiet_move rfl rfl) ?_
    refine WL.op rfl rfl rfl (Go.Proofs.Ytcombjhkbjbncaa.W.quiet_move rfl rfl) ?_
    refine WL.op rfl rfl rfl (Go.Proofs.Ytcombjhkbjbncaa.W.quiet_move rfl rfl) ?_
    obtain ⟨a2, hsl, ha2, hc2⟩ := sl_from 23 Try.underlying23 (hda.fr ff) j (by omega) hdc
    refine O.sl1 rfl rfl rfl rfl rfl rfl (hsl _) ?_
    refine WL.call (hr := (t_zeros Z a2 (dc - j) (d.drop j) (by simp; omega) _ ha2)) rfl rfl rfl rfl rfl (fun W => qk_pack_zeros W _) ?_
    rintro e wz ⟨rfl, fz⟩
    refine ⟨_, rfl, ?_⟩
    replace ff := ff.trans fz
    refine WL.op rfl rfl rfl (Go.Proofs.Ytcombjhkbjbncaa.W.quiet_bin rfl rfl rfl (fun W => qb_eql_int W _ _ _ _)) ?_
    refine O.split (fun b2 => ?_) (fun b2 => ?_)
    · skip
      refine WL.op rfl rfl rfl (Go.Proofs.Ytcombjhkbjbncaa.W.quiet_pick rfl rfl rfl) ?_
      refine WL.nil ?_
      refine TW.cond rfl (fun _ => ?_) (fun hb => by cases hb)
      refine TW.skip ?_
      refine TW.block ?_
      refine TW.reg ?_
      refine WL.op rfl rfl rfl (Go.Proofs.Ytcombjhkbjbncaa.W.quiet_move rfl rfl) ?_
      refine WL.op rfl rfl rfl (Go.Proofs.Ytcombjhkbjbncaa.W.quiet_bin rfl rfl rfl (fun W => qb_add_int W _ _ _ _ (by omega) (by omega))) ?_
      refine WL.op rfl rfl rfl (Go.Proofs.Ytcombjhkbjbncaa.W.quiet_assign rfl rfl) ?_
      refine WL.end ?_
      refine Xw.nblk ?_
      refine Xw.any (fun a k => ?_)
      refine ⟨j + 1, by omega, by omega, by (repeat (refine Kn.cons k rfl ?_)); exact k.base, ff, fun q hq => ?_⟩
      by_cases e : q = j
      · subst e; exact (zs0 _).1 (by simpa using b2)
      · exact hz q (by omega)
    · skip
      refine WL.op rfl rfl rfl (Go.Proofs.Ytcombjhkbjbncaa.W.quiet_pick rfl rfl rfl) ?_
      refine WL.nil ?_
      refine TW.cond rfl (fun hb => by cases hb) (fun _ => ?_)
      refine TW.exit ?_
      refine Xw.thn (by simp) ?_
      refine Xw.thn (by simp) ?_
      refine Xw.hit ?_
      refine Xw.nrm ?_
      refine TW.sreg ?_
      refine WL.op rfl rfl rfl (Go.Proofs.Ytcombjhkbjbncaa.W.quiet_move rfl rfl) ?_
      refine WL.op rfl rfl rfl (Go.Proofs.Ytcombjhkbjbncaa.W.quiet_assign rfl rfl) ?_
      refine WL.nil ?_
      refine TW.rt ?_
      refine bodyw_ret rfl rfl ?_
      refine ⟨?_, ff⟩
      rw [show oth d = j from othF_end 127 d j (by omega) (by omega) hz (.inr (.inr (Classical.not_not.1 fun h => absurd ((zs0 _).2 h) (by simpa using b2))))]
  · skip
    refine WL.op rfl rfl rfl (Go.Proofs.Ytcombjhkbjbncaa.W.quiet_move rfl rfl) ?_
    refine WL.skip rfl rfl rfl ?_
    refine WL.skip rfl rfl rfl ?_
    refine WL.skip rfl rfl rfl ?_
    refine WL.skip rfl rfl rfl ?_
    refine WL.skip rfl rfl rfl ?_
    refine WL.op rfl rfl rfl (Go.Proofs.Ytcombjhkbjbncaa.W.quiet_pick rfl rfl rfl) ?_
    refine WL.nil ?_
    refine TW.cond rfl (fun hb => by cases hb) (fun _ => ?_)
    refine TW.exit ?_
    refine Xw.thn (by simp) ?_
    refine Xw.thn (by simp) ?_
    refine Xw.hit ?_
    refine Xw.nrm ?_
    refine TW.sreg ?_
    refine WL.op rfl rfl rfl (Go.Proofs.Ytcombjhkbjbncaa.W.quiet_move rfl rfl) ?_
    refine WL.op rfl rfl rfl (Go.Proofs.Ytcombjhkbjbncaa.W.quiet_assign rfl rfl) ?_
    refine WL.nil ?_
    refine TW.rt ?_
    refine bodyw_ret rfl rfl ?_
    refine ⟨?_, ff⟩
    rw [show oth d = j from othF_end 127 d j (by omega) (by omega) hz (by have := of_decide_eq_false b1; omega)]
set_option maxRecDepth 100000 in
theorem t_appnum (B : Nat) (v : Value) (xs : List Int) (n : Int) (h0 : 0 ≤ n) (h1 : n ≤ 4294967295) (hl : xs.length ≤ 1000000) (w : World) (hB : B ≤ w.heap.size) (hv : G8 B w v xs) : Calls Try.prog 15 #[v, .int .u32 n] w fun e w' => ∃ v', e = .returned v' ∧ R8 B w' v' (xs ++ numB n) ∧ Fr (fun q => v.ownBlock = some q) w w' ∧ ∀ k, v'.ownBlock = some k → v.ownBlock = some k ∨ w.heap.size ≤ k := by
  have ff := Fr.refl (fun q => v.ownBlock = some q) w
  refine calls_tw Try.func15 rfl rfl (Nat.le_of_ble_eq_true rfl) ?_
  refine TW.sreg ?_
  refine WL.op rfl rfl rfl (Go.Proofs.Ytcombjhkbjbncaa.W.quiet_assign rfl rfl) ?_
  refine WL.nil ?_
  refine TW.sreg ?_
  refine WL.op rfl rfl rfl (Go.Proofs.Ytcombjhkbjbncaa.W.quiet_move rfl rfl) ?_
  refine WL.op rfl rfl rfl (Go.Proofs.Ytcombjhkbjbncaa.W.quiet_move rfl rfl) ?_
  refine O.cv rfl rfl rfl rfl rfl (cv_u8 _ _) ?_
  refine WL.op rfl rfl rfl (Go.Proofs.Ytcombjhkbjbncaa.W.quiet_move rfl rfl) ?_
  refine WL.op rfl rfl rfl (Go.Proofs.Ytcombjhkbjbncaa.W.quiet_bin rfl rfl rfl (fun W => sh8 W _ _ _ (by omega))) ?_
  refine O.cv rfl rfl rfl rfl rfl (cv_u8 _ _) ?_
  refine WL.op rfl rfl rfl (Go.Proofs.Ytcombjhkbjbncaa.W.quiet_move rfl rfl) ?_
  refine WL.op rfl rfl rfl (Go.Proofs.Ytcombjhkbjbncaa.W.quiet_bin rfl rfl rfl (fun W => sh16 W _ _ _ (by omega))) ?_
  refine O.cv rfl rfl rfl rfl rfl (cv_u8 _ _) ?_
  refine WL.op rfl rfl rfl (Go.Proofs.Ytcombjhkbjbncaa.W.quiet_move rfl rfl) ?_
  refine WL.op rfl rfl rfl (Go.Proofs.Ytcombjhkbjbncaa.W.quiet_bin rfl rfl rfl (fun W => sh24 W _ _ _ (by omega))) ?_
  refine O.cv rfl rfl rfl rfl rfl (cv_u8 _ _) ?_
  refine O.bslR rfl rfl rfl rfl rfl (qv_s_uint8_4 w _ _ _ _) ?_
  rintro wa1 ⟨fa1, bx1⟩
  replace ff := ff.trans' fa1 (fun q hq e => e.elim)
  replace hv := G8.fr hv fa1
  replace hB := Nat.le_trans hB fa1.size
  refine WL.append rfl rfl rfl rfl rfl rfl (G8.app (numB n) _ hv hB hl (by simp [numB]) (by simp [numB]) (bx_num (numB n) bx1)) ?_
  rintro v3 w3 ⟨hv3, hF3, ho3⟩
  replace ff := ff.trans' hF3 (fun q hq e => e)
  refine WL.op rfl rfl rfl (Go.Proofs.Ytcombjhkbjbncaa.W.quiet_assign rfl rfl) ?_
  refine WL.nil ?_
  refine TW.rt ?_
  refine bodyw_ret rfl rfl ?_
  exact ⟨_, rfl, hv3, ff, fun k hk => (ho3 k hk).imp id (fun h => Nat.le_trans fa1.size h)⟩
end Go.Proofs.Ytcombjhkbjbncaa
