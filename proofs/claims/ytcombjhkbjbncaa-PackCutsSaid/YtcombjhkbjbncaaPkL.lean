/-
  Pack (layer 32): what a decoder defers.
-/
import Derived.Test.YtcombjhkbjbncaaPkK
import Derived.Recover
namespace Go.Proofs.Ytcombjhkbjbncaa
open Go.RowKit
set_option linter.unusedVariables false
set_option linter.unusedSimpArgs false
set_option linter.unnecessarySimpa false
theorem qsA_api_Errno (w : World) (g : Nat) (z0 : Value) (um0 : Int) (h : Bx w g #[z0] 28) : ∃ w', (Instr.storeAt 28 (.pointer (some ⟨g, 0, none⟩)) (.int .i64 um0)).run Try.prog w = .ok () w' ∧ (Fr (fun q => q = g) w w' ∧ Bx w' g #[.int .i64 um0] 28) := by
  have c0 := h.cell (j := 0) rfl
  have e0 := h.free 0
  exact ⟨w.setCell ⟨g, 0, none⟩ (.int .i64 um0), by simp [go_sem, c0, e0], Fr.setCell _ _ _ rfl, h.set 0 _⟩
theorem qd_api_Image_ (w : World)  : (Instr.build 25 #[]).run Try.prog w = .ok (.agg #[.slice none 0 0, .slice none 0 0, .int .i64 0, .int .i64 0]) w := by simp [go_sem]
theorem kn_of {n : Nat} {t : Array Value} {s : List (Nat × Value)} (h1 : t.size = n) (h2 : ∀ p ∈ s, t[p.1]? = some p.2) : Kn n s { tmps := t, defers := [] } := by
  refine ⟨h1, rfl, fun i v e => ?_⟩
  induction s with
  | nil => simp [lk] at e
  | cons p s ih =>
    obtain ⟨j, u⟩ := p
    simp only [lk] at e
    by_cases hji : j = i
    · subst hji
      rw [show Nat.beq j j = true from Nat.beq_refl j] at e
      simp only [Option.some.injEq] at e
      subst e
      exact h2 (j, u) List.mem_cons_self
    · rw [beq_no hji] at e
      exact ih (fun p hp => h2 p (List.mem_cons_of_mem _ hp)) e
theorem bi_nil (w : World) (x y : Operand) (t : TypeId) (v : Value) : ((do eqGuard .eql 20 x y (.iface t v) .nilIface; binOp .eql 20 (.iface t v) .nilIface : Sem Value)).run Try.prog w = .ok (.bool false) w := by simp [go_sem]
theorem bi_nils (w : World) (x : Operand) : ((do eqGuard .eql 20 x (.const .nilIface) .nilIface .nilIface; binOp .eql 20 .nilIface .nilIface : Sem Value)).run Try.prog w = .ok (.bool true) w := by simp [go_sem, eqGuard]
theorem bi_mal (w : World) (x y : Operand) : ((do eqGuard .eql 20 x y (.iface 45 (.agg #[])) (.iface 45 (.agg #[])); binOp .eql 20 (.iface 45 (.agg #[])) (.iface 45 (.agg #[])) : Sem Value)).run Try.prog w = .ok (.bool true) w := by first | kernel_rfl | rfl | simp [go_sem, binOp]
def malr : List PanicEntry := [{ v := .iface 45 (.agg #[]), recovered := true }]
set_option maxRecDepth 100000 in
theorem t_catch (gA gE : Nat) (hne : gA ≠ gE) (y0 y1 y2 y3 z0 : Value) (w : World) (hA : Bx w gA #[y0, y1, y2, y3] 25) (hE : Bx w gE #[z0] 28) : CallsD Try.prog 17 #[.pointer (some ⟨gA, 0, none⟩), .pointer (some ⟨gE, 0, none⟩)] (.panicking malf) w fun e u w' => e = .returned (.tuple #[]) ∧ u = .panicking malr ∧ Bx w' gA #[.slice none 0 0, .slice none 0 0, .int .i64 0, .int .i64 0] 25 ∧ Bx w' gE #[.int .i64 3] 28 ∧ Fr (fun q => q = gA ∨ q = gE) w w' := by
  refine callsD_of_wpS Try.func17 rfl fun c₀ cs hu => ?_
  apply wpS_seq
  apply wpS_region
  simp [wpOpsS, go_sem, recoverD, hu, malf, Try.ntmps17, Exit.thenS]
  refine wpS_of_wp (TW.app (N := 13) (s := [(0, .pointer (some ⟨gA, 0, none⟩)), (1, .pointer (some ⟨gE, 0, none⟩)), (2, .iface 45 (.agg #[]))]) ?_ (kn_of (by simp) (by simp)))
  refine TW.sreg ?_
  refine WL.op rfl rfl rfl (Go.Proofs.Ytcombjhkbjbncaa.W.quiet_move rfl rfl) ?_
  refine WL.nil ?_
  refine TW.block ?_
  refine TW.sreg ?_
  refine WL.op rfl rfl rfl (Go.Proofs.Ytcombjhkbjbncaa.W.quiet_bin rfl rfl rfl (fun W => bi_nil W _ _ _ _)) ?_
  refine WL.op rfl rfl rfl (Go.Proofs.Ytcombjhkbjbncaa.W.quiet_assign rfl rfl) ?_
  refine WL.nil ?_
  refine TW.cond rfl (fun hb => by cases hb) (fun _ => ?_)
  refine TW.sreg ?_
  refine O.bld rfl rfl rfl rfl rfl (qd_mal _) ?_
  refine O.mi rfl rfl rfl rfl rfl (qm_mal _) ?_
  refine WL.op rfl rfl rfl (Go.Proofs.Ytcombjhkbjbncaa.W.quiet_bin rfl rfl rfl (fun W => bi_mal W _ _)) ?_
  refine WL.op rfl rfl rfl (Go.Proofs.Ytcombjhkbjbncaa.W.quiet_assign rfl rfl) ?_
  refine WL.nil ?_
  refine TW.cond rfl (fun _ => ?_) (fun hb => by cases hb)
  refine TW.reg ?_
  refine O.bld rfl rfl rfl rfl rfl (qd_api_Image_ _) ?_
  obtain ⟨w1, h1, f1, b1⟩ := qsA_api_Image w gA y0 y1 y2 y3 none 0 0 none 0 0 0 0 hA
  refine WL.store rfl rfl rfl rfl rfl h1 ?_
  obtain ⟨w2, h2, f2, b2⟩ := qsA_api_Errno w1 gE z0 3 (hE.fr f1 (fun e => hne e.symm))
  refine WL.store rfl rfl rfl rfl rfl h2 ?_
  refine WL.done fun a k => ?_
  have hd := k.defers
  simp only [bodyPostS, hd, Exit.inBlock, Exit.then]
  refine ⟨trivial, _, rfl, .tuple #[], ?_, rfl, rfl, b1.fr f2 hne, b2, (f1.mono (fun q _ e => .inl e)).trans (f2.mono (fun q _ e => .inr e))⟩
  simp [results, Try.results17, go_sem]
set_option maxRecDepth 100000 in
theorem t_idle (gA gE : Nat) (w : World) : CallsD Try.prog 17 #[.pointer (some ⟨gA, 0, none⟩), .pointer (some ⟨gE, 0, none⟩)] .returning w fun e u w' => e = .returned (.tuple #[]) ∧ u = .returning ∧ w' = w := by
  refine callsD_of_wpS Try.func17 rfl fun c₀ cs hu => ?_
  apply wpS_seq
  apply wpS_region
  simp [wpOpsS, go_sem, recoverD, hu, Try.ntmps17, Exit.thenS]
  refine wpS_of_wp (TW.app (N := 13) (s := [(2, .nilIface)]) ?_ (kn_of (by simp) (by simp)))
  refine TW.sreg ?_
  refine WL.op rfl rfl rfl (Go.Proofs.Ytcombjhkbjbncaa.W.quiet_move rfl rfl) ?_
  refine WL.nil ?_
  refine TW.block ?_
  refine TW.sreg ?_
  refine WL.op rfl rfl rfl (Go.Proofs.Ytcombjhkbjbncaa.W.quiet_bin rfl rfl rfl (fun W => bi_nils W _)) ?_
  refine WL.op rfl rfl rfl (Go.Proofs.Ytcombjhkbjbncaa.W.quiet_assign rfl rfl) ?_
  refine WL.nil ?_
  refine TW.cond rfl (fun _ => ?_) (fun hb => by cases hb)
  refine TW.skipx fun a k => ?_
  have hd := k.defers
  cases c₀
  simp only at hu
  subst hu
  simp only [bodyPostS, hd, Exit.inBlock, Exit.then]
  refine ⟨trivial, _, rfl, .tuple #[], ?_, by simp⟩
  simp [results, Try.results17, go_sem]
end Go.Proofs.Ytcombjhkbjbncaa
