/-
  Pack (layer 32): a reader that panics.
-/
import Derived.Test.YtcombjhkbjbncaaPkH
namespace Go.Proofs.Ytcombjhkbjbncaa
open Go.RowKit
set_option linter.unusedVariables false
set_option linter.unusedSimpArgs false
set_option linter.unnecessarySimpa false
theorem ql_pack_reader (w : World) (p : Option Addr) (k l : Nat) (d : Addr) (h : w.cell? d = some (.slice p k l)) : (Instr.loadAt 46 (.pointer (some d))).run Try.prog w = .ok (.slice p k l) w := by simp [go_sem, h]
theorem qk_pack_require (w : World) (vs : Array Value) : (callFunc 19 vs).run Try.prog w = .ok (.enter 19 vs) w := by simp [go_sem]
theorem qsA_pack_reader (w : World) (g : Nat) (z0 : Value) (up0 : Option Addr) (uk0 ul0 : Nat) (h : Bx w g #[z0] 46) : ∃ w', (Instr.storeAt 46 (.pointer (some ⟨g, 0, none⟩)) (.slice up0 uk0 ul0)).run Try.prog w = .ok () w' ∧ (Fr (fun q => q = g) w w' ∧ Bx w' g #[.slice up0 uk0 ul0] 46) := by
  have c0 := h.cell (j := 0) rfl
  have e0 := h.free 0
  exact ⟨w.setCell ⟨g, 0, none⟩ (.slice up0 uk0 ul0), by simp [go_sem, c0, e0], Fr.setCell _ _ _ rfl, h.set 0 _⟩
def malf : List PanicEntry := [{ v := .iface 45 (.agg #[]), recovered := false }]
theorem qd_mal (w : World) : (Instr.build 45 #[]).run Try.prog w = .ok (.agg #[]) w := by simp [go_sem]
theorem qm_mal (w : World) : (Instr.makeInterface 45 (.agg #[])).run Try.prog w = .ok (.iface 45 (.agg #[])) w := by simp [go_sem]
theorem sl8 (w : World) (x y : Operand) (m : Int) (h0 : 0 ≤ m) (h1 : m ≤ 255) : ((do eqGuard .shl 40 x y (.int .u32 m) (.int .u64 8); binOp .shl 40 (.int .u32 m) (.int .u64 8) : Sem Value)).run Try.prog w = .ok (.int .u32 (256 * m)) w := by
  have h : IntKind.u32.wrap (m * 256) = 256 * m := by rw [IntWalk.u32_in _ (by omega)]; omega
  simp [go_sem, Int.shiftLeft_eq, h]
theorem or8 (w : World) (x y : Operand) (a b : Int) (h0 : 0 ≤ a) (h1 : a < 256) (h2 : 0 ≤ b) (h3 : b ≤ 255) : ((do eqGuard .or 40 x y (.int .u32 a) (.int .u32 (256 * b)); binOp .or 40 (.int .u32 a) (.int .u32 (256 * b)) : Sem Value)).run Try.prog w = .ok (.int .u32 (a + 256 * b)) w := by
  have h : bits .or .u32 a (256 * b) = a + 256 * b := by
    rw [u32_or _ _ h0 (by omega) (by omega) (by omega), Nat.or_comm, show (256 * b).toNat = 2 ^ 8 * b.toNat by omega, ← Nat.two_pow_add_eq_or_of_lt (by omega)]
    omega
  simp [go_sem, h]
theorem sl16 (w : World) (x y : Operand) (m : Int) (h0 : 0 ≤ m) (h1 : m ≤ 255) : ((do eqGuard .shl 40 x y (.int .u32 m) (.int .u64 16); binOp .shl 40 (.int .u32 m) (.int .u64 16) : Sem Value)).run Try.prog w = .ok (.int .u32 (65536 * m)) w := by
  have h : IntKind.u32.wrap (m * 65536) = 65536 * m := by rw [IntWalk.u32_in _ (by omega)]; omega
  simp [go_sem, Int.shiftLeft_eq, h]
theorem or16 (w : World) (x y : Operand) (a b : Int) (h0 : 0 ≤ a) (h1 : a < 65536) (h2 : 0 ≤ b) (h3 : b ≤ 255) : ((do eqGuard .or 40 x y (.int .u32 a) (.int .u32 (65536 * b)); binOp .or 40 (.int .u32 a) (.int .u32 (65536 * b)) : Sem Value)).run Try.prog w = .ok (.int .u32 (a + 65536 * b)) w := by
  have h : bits .or .u32 a (65536 * b) = a + 65536 * b := by
    rw [u32_or _ _ h0 (by omega) (by omega) (by omega), Nat.or_comm, show (65536 * b).toNat = 2 ^ 16 * b.toNat by omega, ← Nat.two_pow_add_eq_or_of_lt (by omega)]
    omega
  simp [go_sem, h]
theorem sl24 (w : World) (x y : Operand) (m : Int) (h0 : 0 ≤ m) (h1 : m ≤ 255) : ((do eqGuard .shl 40 x y (.int .u32 m) (.int .u64 24); binOp .shl 40 (.int .u32 m) (.int .u64 24) : Sem Value)).run Try.prog w = .ok (.int .u32 (16777216 * m)) w := by
  have h : IntKind.u32.wrap (m * 16777216) = 16777216 * m := by rw [IntWalk.u32_in _ (by omega)]; omega
  simp [go_sem, Int.shiftLeft_eq, h]
theorem or24 (w : World) (x y : Operand) (a b : Int) (h0 : 0 ≤ a) (h1 : a < 16777216) (h2 : 0 ≤ b) (h3 : b ≤ 255) : ((do eqGuard .or 40 x y (.int .u32 a) (.int .u32 (16777216 * b)); binOp .or 40 (.int .u32 a) (.int .u32 (16777216 * b)) : Sem Value)).run Try.prog w = .ok (.int .u32 (a + 16777216 * b)) w := by
  have h : bits .or .u32 a (16777216 * b) = a + 16777216 * b := by
    rw [u32_or _ _ h0 (by omega) (by omega) (by omega), Nat.or_comm, show (16777216 * b).toNat = 2 ^ 24 * b.toNat by omega, ← Nat.two_pow_add_eq_or_of_lt (by omega)]
    omega
  simp [go_sem, h]
theorem qn_rd (w : World) (a : Option Addr) (k l : Nat) : (Builtin.len_ #[46] 3 #[.slice a k l]).run Try.prog w = .ok (.int .i64 k) w := by simp [go_sem]
set_option maxRecDepth 100000 in
theorem t_require (b : Bool) (w : World) : Calls Try.prog 19 #[.bool b] w fun e w' => (b = false ∧ e = .panicked malf ∧ Fr (fun _ => False) w w') ∨ (b = true ∧ e = .returned (.tuple #[]) ∧ Fr (fun _ => False) w w') := by
  have ff := Fr.refl (fun _ => False) w
  refine calls_tw Try.func19 rfl rfl (Nat.le_of_ble_eq_true rfl) ?_
  cases b
  · skip
    refine TW.sreg ?_
    refine WL.op rfl rfl rfl (Go.Proofs.Ytcombjhkbjbncaa.W.quiet_move rfl rfl) ?_
    refine WL.op rfl rfl rfl (Go.Proofs.Ytcombjhkbjbncaa.W.quiet_not rfl rfl) ?_
    refine O.split (fun hb => ?_) (fun hb => by exfalso; revert hb; first | (simp; done) | (simp; omega))
    refine WL.nil ?_
    refine TW.cond rfl (fun _ => ?_) (fun hb => by cases hb)
    refine TW.reg ?_
    refine O.bld rfl rfl rfl rfl rfl (qd_mal _) ?_
    refine O.mi rfl rfl rfl rfl rfl (qm_mal _) ?_
    refine O.panic rfl rfl rfl rfl (fun a k => ?_)
    exact And.intro k.defers (.inl ⟨rfl, rfl, ff⟩)
  · skip
    refine TW.sreg ?_
    refine WL.op rfl rfl rfl (Go.Proofs.Ytcombjhkbjbncaa.W.quiet_move rfl rfl) ?_
    refine WL.op rfl rfl rfl (Go.Proofs.Ytcombjhkbjbncaa.W.quiet_not rfl rfl) ?_
    refine O.split (fun hb => by exfalso; revert hb; first | (simp; done) | (simp; omega)) (fun hb => ?_)
    refine WL.nil ?_
    refine TW.cond rfl (fun hb => by cases hb) (fun _ => ?_)
    refine TW.skipx ?_
    refine O.end0 rfl ?_
    exact .inr ⟨rfl, rfl, ff⟩
set_option maxRecDepth 100000 in
theorem t_take (Z g : Nat) (hZ : Z ≤ g) (a : Option Addr) (c : Nat) (l : List Int) (hll : l.length ≤ 300000) (hc : l.length ≤ c) (w : World) (hbx : Bx w g #[.slice a l.length c] 46) (ha : NumAt .u8 Z w a l) (n : Nat) : Calls Try.prog 27 #[.pointer (some ⟨g, 0, none⟩), .int .i64 (n : Int)] w fun e w' => (l.length < n ∧ e = .panicked malf ∧ Fr (fun q => q = g) w w') ∨ (n ≤ l.length ∧ ∃ a2 c2, e = .returned (.slice a n c) ∧ Bx w' g #[.slice a2 (l.drop n).length c2] 46 ∧ NumAt .u8 Z w' a2 (l.drop n) ∧ (l.drop n).length ≤ c2 ∧ NumAt .u8 Z w' a (l.take n) ∧ Fr (fun q => q = g) w w') := by
  have ff := Fr.refl (fun q => q = g) w
  refine calls_tw Try.func27 rfl rfl (Nat.le_of_ble_eq_true rfl) ?_
  refine TW.sreg ?_
  refine WL.op rfl rfl rfl (Go.Proofs.Ytcombjhkbjbncaa.W.quiet_assign rfl rfl) ?_
  refine WL.nil ?_
  refine TW.sreg ?_
  refine WL.op rfl rfl rfl (Go.Proofs.Ytcombjhkbjbncaa.W.quiet_move rfl rfl) ?_
  refine WL.op rfl rfl rfl (Go.Proofs.Ytcombjhkbjbncaa.W.quiet_move rfl rfl) ?_
  refine O.nck rfl rfl rfl rfl rfl ?_
  refine WL.ld rfl rfl rfl rfl rfl (ql_pack_reader _ _ _ _ _ (hbx.cell (j := 0) rfl)) ?_
  refine O.len rfl rfl rfl rfl rfl (qn_rd _ _ _ _) ?_
  refine WL.op rfl rfl rfl (Go.Proofs.Ytcombjhkbjbncaa.W.quiet_bin rfl rfl rfl (fun W => qb_leq_int W _ _ _ _)) ?_
  refine WL.callP (hr := (t_require (decide ((n : Int) ≤ (l.length : Int))) _)) rfl rfl rfl rfl rfl (fun W => qk_pack_require W _) ?_
  rintro e w1 h9
  rcases h9 with ⟨hq, rfl, f1⟩ | ⟨hq, rfl, f1⟩
  · refine .inr ⟨_, rfl, fun a k => ?_⟩
    exact And.intro k.defers (.inl ⟨by have := of_decide_eq_false hq; omega, rfl, ff.trans' f1 (fun q hq e => e.elim)⟩)
  refine .inl ⟨_, rfl, ?_⟩
  replace hbx := hbx.fr f1 id
  replace ff := ff.trans' f1 (fun q hq e => e.elim)
  replace ha := ha.fr f1
  have hn : n ≤ l.length := by have := of_decide_eq_true hq; omega
  refine WL.nil ?_
  refine TW.sreg ?_
  refine WL.op rfl rfl rfl (Go.Proofs.Ytcombjhkbjbncaa.W.quiet_move rfl rfl) ?_
  refine O.nck rfl rfl rfl rfl rfl ?_
  refine WL.ld rfl rfl rfl rfl rfl (ql_pack_reader _ _ _ _ _ (hbx.cell (j := 0) rfl)) ?_
  refine WL.op rfl rfl rfl (Go.Proofs.Ytcombjhkbjbncaa.W.quiet_move rfl rfl) ?_
  refine O.sl2 rfl rfl rfl rfl rfl rfl (sl_to 46 Try.underlying46 _ _ _ _ (by omega) _) ?_
  obtain ⟨a2, hsl, ha2, hc2⟩ := sl_from 46 Try.underlying46 ha n hn hc
  refine WL.op rfl rfl rfl (Go.Proofs.Ytcombjhkbjbncaa.W.quiet_assign rfl rfl) ?_
  refine WL.nil ?_
  refine TW.sreg ?_
  refine WL.op rfl rfl rfl (Go.Proofs.Ytcombjhkbjbncaa.W.quiet_move rfl rfl) ?_
  refine WL.op rfl rfl rfl (Go.Proofs.Ytcombjhkbjbncaa.W.quiet_move rfl rfl) ?_
  refine O.nck rfl rfl rfl rfl rfl ?_
  refine WL.ld rfl rfl rfl rfl rfl (ql_pack_reader _ _ _ _ _ (hbx.cell (j := 0) rfl)) ?_
  refine WL.op rfl rfl rfl (Go.Proofs.Ytcombjhkbjbncaa.W.quiet_move rfl rfl) ?_
  refine O.sl1 rfl rfl rfl rfl rfl rfl (hsl _) ?_
  refine O.nck rfl rfl rfl rfl rfl ?_
  refine O.storeR rfl rfl rfl rfl rfl (qsA_pack_reader w1 _ _ _ _ _ hbx) ?_
  rintro wa1 ⟨fa1, hbxx⟩
  replace ff := ff.trans' fa1 (fun q hq e => e)
  replace ha := ha.frZ fa1 (fun q hq e => by omega)
  replace ha2 := ha2.frZ fa1 (fun q hq e => by omega)
  clear hbx
  have hbx := hbxx
  clear hbxx
  refine WL.nil ?_
  refine TW.sreg ?_
  refine WL.op rfl rfl rfl (Go.Proofs.Ytcombjhkbjbncaa.W.quiet_move rfl rfl) ?_
  refine WL.op rfl rfl rfl (Go.Proofs.Ytcombjhkbjbncaa.W.quiet_assign rfl rfl) ?_
  refine WL.nil ?_
  refine TW.rt ?_
  refine bodyw_ret rfl rfl ?_
  exact .inr ⟨hn, _, _, rfl, hbx, ha2, hc2, ha.take n, ff⟩
end Go.Proofs.Ytcombjhkbjbncaa
