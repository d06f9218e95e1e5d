/-
  slices.Backward over instructions: its function value.
-/
import Derived.Test.YtobibplilbchfaaFlQ
namespace Go.Proofs.Ytobibplilbchfaa
open Go.RowKit
set_option linter.unusedVariables false
set_option linter.unusedSimpArgs false
set_option linter.unnecessarySimpa false
theorem qxR_s_api_Ins (w : World) (up0 : Option Addr) (uk0 ul0 : Nat) : ∃ w', (Instr.box 46 (.slice up0 uk0 ul0)).run Try.prog w = .ok (.pointer (some ⟨w.heap.size, 0, none⟩)) w' ∧ (Fr (fun _ => False) w w' ∧ Bx w' w.heap.size #[.slice up0 uk0 ul0] 46) := ⟨w.alloc (.cells #[.slice up0 uk0 ul0] 46), by simp [go_sem], fr_al (Fr.refl _ _) _, Bx.new _ _ _⟩
/-- An instruction as a value, its arguments' row at a place. -/
def insC (i : Inn) (p : Option Addr × Nat) : Array Value := #[.int .i64 i.x0, .int .i64 i.x1, .int .i64 i.x2, .int .i64 i.x3, .int .i64 i.x4, .int .i64 i.x5, .int .i64 i.x6, .int .i64 i.x7, .int .u32 i.u, .slice p.1 i.args.length p.2, .bool i.lg]
/-- Instructions behind a slice's head, and where their arguments lie. -/
def InsX (w : World) (a : Option Addr) (l : List Inn) (AC : Nat → Option Addr × Nat) : Prop := ∀ k, k < l.length → ∃ g o, a = some ⟨g, o, none⟩ ∧ ∀ j v, (insC (l.getD k inn0) (AC k))[j]? = some v → w.cell? ⟨g, o + k * 11 + j, none⟩ = some v
theorem InsX.fr {w w' : World} {a : Option Addr} {l : List Inn} {AC : Nat → Option Addr × Nat} (h : InsX w a l AC) (f : Fr (fun _ => False) w w') : InsX w' a l AC := fun k hk => by
  obtain ⟨g, o, e, c⟩ := h k hk
  exact ⟨g, o, e, fun j v hv => f.cell (c j v hv) id⟩
theorem InsL.x {w : World} {a : Option Addr} {l : List Inn} (h : InsL w a l) : ∃ AC : Nat → Option Addr × Nat, InsX w a l AC ∧ ∀ k, k < l.length → IntsAt w (AC k).1 (l.getD k inn0).args := by
  have hch : ∀ k, ∃ p : Option Addr × Nat, k < l.length → (∃ g o, a = some ⟨g, o, none⟩ ∧ ∀ j v, (insC (l.getD k inn0) p)[j]? = some v → w.cell? ⟨g, o + k * 11 + j, none⟩ = some v) ∧ IntsAt w p.1 (l.getD k inn0).args := fun k => by
    by_cases hk : k < l.length
    · obtain ⟨g, o, e, k0, k1, k2, k3, k4, k5, k6, k7, k8, ⟨aa, c, k9, ka⟩, k10⟩ := h k hk
      refine ⟨(aa, c), fun _ => ⟨⟨g, o, e, fun j v hv => ?_⟩, ka⟩⟩
      match j, hv with
      | 0, hv => cases hv; exact k0
      | 1, hv => cases hv; exact k1
      | 2, hv => cases hv; exact k2
      | 3, hv => cases hv; exact k3
      | 4, hv => cases hv; exact k4
      | 5, hv => cases hv; exact k5
      | 6, hv => cases hv; exact k6
      | 7, hv => cases hv; exact k7
      | 8, hv => cases hv; exact k8
      | 9, hv => cases hv; exact k9
      | 10, hv => cases hv; exact k10
      | n + 11, hv => cases hv
    · exact ⟨(none, 0), fun q => absurd q hk⟩
  exact ⟨fun k => Classical.choose (hch k), fun k hk => (Classical.choose_spec (hch k) hk).1, fun k hk => (Classical.choose_spec (hch k) hk).2⟩
theorem ld_insx (w : World) (g o k : Nat) (i : Inn) (p : Option Addr × Nat) (h : ∀ j v, (insC i p)[j]? = some v → w.cell? ⟨g, o + k * 11 + j, none⟩ = some v) : (Instr.loadAt 69 (.pointer (some ⟨g, o + k * 11, none⟩))).run Try.prog w = .ok (.agg (insC i p)) w :=
  ql_api_Ins w g (o + k * 11) _ _ _ _ _ _ _ _ _ _ _ (h 0 _ rfl) (h 1 _ rfl) (h 2 _ rfl) (h 3 _ rfl) (h 4 _ rfl) (h 5 _ rfl) (h 6 _ rfl) (h 7 _ rfl) (h 8 _ rfl) (h 9 _ rfl) (h 10 _ rfl)
/-- The places of a row, from the last one back. -/
theorem rev_take (n j : Nat) (hj : j < n) : (List.range n).reverse.take (j + 1) = (List.range n).reverse.take j ++ [n - 1 - j] := by
  rw [List.take_add_one]
  congr 1
  rw [List.getElem?_reverse (by simpa using hj)]
  simp only [List.length_range]
  rw [List.getElem?_range (by omega)]
  rfl
set_option maxRecDepth 100000 in
theorem t_backw (ia : Option Addr) (n c : Nat) (w : World) : Calls Try.prog 30 #[.slice ia n c] w fun e w' => ∃ g, e = .returned (.func (.func 43) #[] #[.pointer (some ⟨g, 0, none⟩)]) ∧ Bx w' g #[.slice ia n c] 46 ∧ w.heap.size ≤ g ∧ Fr (fun _ => False) w w' := by
  have ff := Fr.refl (fun _ => False) w
  refine calls_tw Try.func30 rfl rfl (Nat.le_of_ble_eq_true rfl) ?_
  refine TW.sreg ?_
  have lw1 := ff.size
  refine O.boxR rfl rfl rfl rfl rfl (qxR_s_api_Ins w _ _ _) ?_
  rintro wa1 ⟨fa1, bx1⟩
  replace ff := ff.trans fa1
  refine WL.op rfl rfl rfl (Go.Proofs.Ytobibplilbchfaa.W.quiet_assign rfl rfl) ?_
  refine WL.nil ?_
  refine TW.sreg ?_
  refine O.mf1 rfl rfl rfl rfl rfl (mf_any _ _ _ _) ?_
  refine WL.op rfl rfl rfl (Go.Proofs.Ytobibplilbchfaa.W.quiet_assign rfl rfl) ?_
  refine WL.nil ?_
  refine TW.rt ?_
  refine bodyw_ret rfl rfl ?_
  exact ⟨_, rfl, bx1, by omega, ff⟩
end Go.Proofs.Ytobibplilbchfaa
