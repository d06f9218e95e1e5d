/-
  Lex (layer 7): a builder's byte.
-/
import Derived.Test.YtoffbjfgledjfaaDoorLyK
namespace Go.Proofs.YtoffbjfgledjfaaDoor
open Go.RowKit
set_option linter.unusedVariables false
set_option linter.unusedSimpArgs false
set_option linter.unnecessarySimpa false
theorem qk_strings_Builder_copyCheck (w : World) (vs : Array Value) : (callFunc 18 vs).run Tryd.prog w = .ok (.enter 18 vs) w := by simp [go_sem]
theorem qa_strings_Builder_1 (w : World) (b o : Nat) : (Instr.fieldAt 43 (.pointer (some ⟨b, o, none⟩)) 1).run Tryd.prog w = .ok (.pointer (some ⟨b, o + 1, none⟩)) w := by simp [go_sem]
theorem ql_s_uint8 (w : World) (p : Option Addr) (k l : Nat) (d : Addr) (h : w.cell? d = some (.slice p k l)) : (Instr.loadAt 34 (.pointer (some d))).run Tryd.prog w = .ok (.slice p k l) w := by simp [go_sem, h]
theorem qv_s_uint8_1 (w : World) (u0_m0 : Int) : (Instr.buildSlice 34 1 #[(0, .int .u8 u0_m0)]).run Tryd.prog w = .ok (.slice (some ⟨w.heap.size, 0, none⟩) 1 1) (w.alloc (.cells #[.int .u8 u0_m0] 5)) := by simp [go_sem]
theorem qsF_s_uint8 (w : World) (g j : Nat) (z : Array Value) (tt : TypeId) (y : Value) (up0 : Option Addr) (uk0 ul0 : Nat) (h : Bx w g z tt) (hj : z[j]? = some y) : ∃ w', (Instr.storeAt 34 (.pointer (some ⟨g, j, none⟩)) (.slice up0 uk0 ul0)).run Tryd.prog w = .ok () w' ∧ (Fr (fun q => q = g) w w' ∧ Bx w' g (z.setIfInBounds j (.slice up0 uk0 ul0)) tt) := by
  have c0 := h.cell hj
  have e0 := h.free j
  exact ⟨w.setCell ⟨g, j, none⟩ (.slice up0 uk0 ul0), by simp [go_sem, c0, e0], Fr.setCell _ _ _ rfl, h.set j _⟩
def bC (b : UInt8) : List Value := [.int .u8 (b.toNat : Int)]
theorem bC_cells (l : List UInt8) : l.flatMap bC = Lib.byteCells l := by
  unfold Lib.byteCells
  induction l with
  | nil => rfl
  | cons b l ih => rw [List.flatMap_cons, ih]; rfl
theorem Bld.asRow {w : World} {B b : Nat} {v : Value} {l : List UInt8} (h : Bld w B b v l) : Row B 5 1 bC w v l := by
  unfold Row
  rw [bC_cells]
  exact h.row
theorem Bld.ofRow {w : World} {B b : Nat} {v : Value} {l : List UInt8} (hb : Bx w b #[.pointer (some ⟨b, 0, none⟩), v] 43) (hr : Row B 5 1 bC w v l) (hn : v.ownBlock ≠ some b) (hg : B ≤ b) : Bld w B b v l := by
  unfold Row at hr
  rw [bC_cells] at hr
  exact ⟨.inr hb, hr, hn, hg⟩
theorem BR.app1 {B : Nat} {W : World} {v : Value} {xs : List UInt8} (x : UInt8) (ty : TypeId) (h : Row B 5 1 bC W v xs) (hB : B ≤ W.heap.size) (hl : xs.length ≤ 1000000) : ∃ v' w', (Builtin.append_ #[34, 34] ty #[v, .slice (some ⟨W.heap.size, 0, none⟩) 1 1]).run Tryd.prog (W.alloc (.cells #[.int .u8 (x.toNat : Int)] 5)) = .ok v' w' ∧ (Row B 5 1 bC w' v' (xs ++ [x]) ∧ Fr (fun q => v.ownBlock = some q) W w' ∧ ∀ k, v'.ownBlock = some k → v.ownBlock = some k ∨ W.heap.size ≤ k) :=
  Row.app 34 ty Tryd.underlying34 infoByte rfl (by decide) (by decide) (fun _ => rfl) (fun x u hu => by
    simp only [bC, List.mem_cons, List.not_mem_nil, or_false] at hu
    rcases hu with rfl; rfl) x h hB hl rfl
set_option maxRecDepth 100000 in
theorem wb_any (B b : Nat) (v : Value) (l : List UInt8) (c : UInt8) (w : World) (h : Bld w B b v l) (hlen : l.length ≤ 1000000) (hB : B ≤ w.heap.size) : Calls Tryd.prog 10 #[.pointer (some ⟨b, 0, none⟩), .int .u8 (c.toNat : Int)] w fun e w' => e = .returned .nilIface ∧ ∃ v', Bld w' B b v' (l ++ [c]) ∧ Fr (fun k => k = b ∨ v.ownBlock = some k) w w' := by
  have ff := Fr.refl (fun k => k = b ∨ v.ownBlock = some k) w
  refine calls_tw Tryd.func10 rfl rfl (Nat.le_of_ble_eq_true rfl) ?_
  refine TW.sreg ?_
  refine WL.op rfl rfl rfl (Go.Proofs.YtoffbjfgledjfaaDoor.W.quiet_assign rfl rfl) ?_
  refine WL.nil ?_
  refine TW.sreg ?_
  refine WL.op rfl rfl rfl (Go.Proofs.YtoffbjfgledjfaaDoor.W.quiet_move rfl rfl) ?_
  refine WL.call (hr := (cc_any h)) rfl rfl rfl rfl rfl (fun W => qk_strings_Builder_copyCheck W _) ?_
  rintro e w1 ⟨rfl, hbx0, hb1, f1, hsz⟩
  refine ⟨_, rfl, ?_⟩
  have hbx : Bx w1 b #[.pointer (some ⟨b, 0, none⟩), v] 43 := hbx0
  clear hbx0
  replace ff := ff.trans' f1 (fun q hq e => .inl e)
  have hrow := hb1.asRow
  have hne := hb1.ne
  have hge := hb1.ge
  have hbl := hb1.lt
  clear hb1 h
  obtain ⟨va, vc, rfl⟩ := Row.form hrow
  refine WL.nil ?_
  refine TW.sreg ?_
  refine WL.op rfl rfl rfl (Go.Proofs.YtoffbjfgledjfaaDoor.W.quiet_move rfl rfl) ?_
  refine WL.op rfl rfl rfl (Go.Proofs.YtoffbjfgledjfaaDoor.W.quiet_move rfl rfl) ?_
  refine O.nck rfl rfl rfl rfl rfl ?_
  refine WL.op rfl rfl rfl (Go.Proofs.YtoffbjfgledjfaaDoor.W.quiet_field rfl rfl (fun W => (qa_strings_Builder_1 W _ _))) ?_
  refine WL.ld rfl rfl rfl rfl rfl (ql_s_uint8 _ _ _ _ _ (hbx.cell (j := 1) rfl)) ?_
  refine WL.op rfl rfl rfl (Go.Proofs.YtoffbjfgledjfaaDoor.W.quiet_move rfl rfl) ?_
  refine O.bsl rfl rfl rfl rfl rfl (qv_s_uint8_1 _ _) ?_
  refine WL.append rfl rfl rfl rfl rfl rfl (BR.app1 c _ hrow (by omega) hlen) ?_
  rintro v3 w3 ⟨hv3, hF3, ho3⟩
  replace ff := ff.trans' hF3 (fun q hq e => .inr e)
  replace hbx := Bx.fr hbx hF3 hne
  obtain ⟨va3, vc3, rfl⟩ := Row.form hv3
  -- world w3
  refine O.nck rfl rfl rfl rfl rfl ?_
  refine WL.op rfl rfl rfl (Go.Proofs.YtoffbjfgledjfaaDoor.W.quiet_field rfl rfl (fun W => (qa_strings_Builder_1 W _ _))) ?_
  refine O.storeR rfl rfl rfl rfl rfl (qsF_s_uint8 w3 _ 1 _ _ _ _ _ _ hbx rfl) ?_
  rintro wa1 ⟨fa1, hbxx⟩
  replace ff := ff.trans' fa1 (fun q hq e => by first | exact .inl e | exact .inr e)
  replace hv3 := Row.fr hv3 fa1 (fun k hk e => (ho3 k hk).elim (fun z => hne (z.trans (congrArg some e))) (fun z => by omega))
  clear hbx
  have hbx := hbxx
  clear hbxx
  refine WL.nil ?_
  refine TW.sreg ?_
  refine WL.op rfl rfl rfl (Go.Proofs.YtoffbjfgledjfaaDoor.W.quiet_assign rfl rfl) ?_
  refine WL.nil ?_
  refine TW.rt ?_
  refine bodyw_ret rfl rfl ?_
  refine ⟨rfl, _, Bld.ofRow hbx hv3 (fun e => (ho3 _ e).elim (fun z => hne z) (fun z => by omega)) hge, ff⟩
end Go.Proofs.YtoffbjfgledjfaaDoor
