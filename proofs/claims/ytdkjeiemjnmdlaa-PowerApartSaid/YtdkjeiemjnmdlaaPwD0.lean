/-
  Power (layer 33): what comes, its function value.
-/
import Derived.Test.YtdkjeiemjnmdlaaPwC
namespace Go.Proofs.Ytdkjeiemjnmdlaa
open Go.RowKit
set_option linter.unusedVariables false
set_option linter.unusedSimpArgs false
set_option linter.unnecessarySimpa false
theorem qxR_int (w : World) (um0 : Int) : ∃ w', (Instr.box 3 (.int .i64 um0)).run Try.prog w = .ok (.pointer (some ⟨w.heap.size, 0, none⟩)) w' ∧ (Fr (fun _ => False) w w' ∧ Bx w' w.heap.size #[.int .i64 um0] 3) := ⟨w.alloc (.cells #[.int .i64 um0] 3), by simp [go_sem], fr_al (Fr.refl _ _) _, Bx.new _ _ _⟩
theorem mod_of (j n : Nat) : ((j : Int).tmod (n : Int)) = ((j % n : Nat) : Int) := by
  rw [Int.tmod_eq_emod_of_nonneg (by omega)]
  exact (Int.natCast_emod j n).symm
set_option maxRecDepth 100000 in
theorem t_arr (oa : Option Addr) (c : Nat) (s : List Int) (room lim T : Int) (w : World) : Calls Try.prog 12 #[.agg #[.slice oa s.length c, .int .i64 room, .int .i64 lim], .int .i64 T] w fun e w' => ∃ sb tb, e = .returned (.func (.func 17) #[] #[.pointer (some ⟨tb, 0, none⟩), .pointer (some ⟨sb, 0, none⟩)]) ∧ Bx w' sb #[.slice oa s.length c, .int .i64 room, .int .i64 lim] 24 ∧ Bx w' tb #[.int .i64 T] 3 ∧ w.heap.size ≤ sb ∧ w.heap.size ≤ tb ∧ Fr (fun _ => False) w w' := by
  have ff := Fr.refl (fun _ => False) w
  refine calls_tw Try.func12 rfl rfl (Nat.le_of_ble_eq_true rfl) ?_
  refine TW.sreg ?_
  have lw1 := ff.size
  refine O.boxR rfl rfl rfl rfl rfl (qxR_power_Supply w _ _ _ _ _) ?_
  rintro wa1 ⟨fa1, bx1⟩
  replace ff := ff.trans fa1
  have lt2_bx1 := bx1.lt
  have lw2 := ff.size
  refine O.boxR rfl rfl rfl rfl rfl (qxR_int wa1 _) ?_
  rintro wa2 ⟨fa2, bx2⟩
  replace bx1 := bx1.fr fa2 id
  replace ff := ff.trans fa2
  refine WL.op rfl rfl rfl (Go.Proofs.Ytdkjeiemjnmdlaa.W.quiet_assign rfl rfl) ?_
  refine WL.nil ?_
  refine TW.sreg ?_
  refine O.mf (vs := #[]) (us := #[_, _]) rfl rfl rfl rfl rfl rfl (mf_any _ _ _ _) ?_
  refine WL.op rfl rfl rfl (Go.Proofs.Ytdkjeiemjnmdlaa.W.quiet_assign rfl rfl) ?_
  refine WL.nil ?_
  refine TW.rt ?_
  refine bodyw_ret rfl rfl ?_
  exact ⟨_, _, rfl, bx1, bx2, by omega, by omega, ff⟩
end Go.Proofs.Ytdkjeiemjnmdlaa
