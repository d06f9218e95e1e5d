/-
  Listing (layer 6): Words of too many bytes.
-/
import Derived.Test.YtlagdgkjpnocfaaGreatDoorLsP
namespace Go.Proofs.YtlagdgkjpnocfaaGreatDoor
open Go.RowKit
set_option linter.unusedVariables false
set_option linter.unusedSimpArgs false
set_option maxRecDepth 100000 in
/-- Words: too many bytes. -/
theorem t_words_long (s : List UInt8) (h : 2097152 < s.length) (w : World) : Calls Tryz.prog 15 #[bts s] w fun e w' => e = .returned (.tuple #[.slice none 0 0, .int .i64 2]) ∧ w = w' := by
  refine calls_tw Tryz.func15 rfl rfl (Nat.le_of_ble_eq_true rfl) ?_
  refine TW.sreg ?_
  refine WL.op rfl rfl rfl (Go.Proofs.YtlagdgkjpnocfaaGreatDoor.W.quiet_assign rfl rfl) ?_
  refine WL.op rfl rfl rfl (Go.Proofs.YtlagdgkjpnocfaaGreatDoor.W.quiet_assign rfl rfl) ?_
  refine WL.nil ?_
  refine TW.seq ?_
  refine TW.sreg ?_
  refine WL.op rfl rfl rfl (Go.Proofs.YtlagdgkjpnocfaaGreatDoor.W.quiet_move rfl rfl) ?_
  refine WL.lns rfl rfl rfl rfl rfl (ln_str _ _) ?_
  refine WL.op rfl rfl rfl (Go.Proofs.YtlagdgkjpnocfaaGreatDoor.W.quiet_bin rfl rfl rfl (fun W => (bn_gti W _ _ _ _).trans (by rw [decide_eq_true (by omega)]))) ?_
  refine WL.nil ?_
  refine TW.cond rfl (fun _ => ?_) (fun hb => by cases hb)
  refine TW.sreg ?_
  refine WL.op rfl rfl rfl (Go.Proofs.YtlagdgkjpnocfaaGreatDoor.W.quiet_assign rfl rfl) ?_
  refine WL.op rfl rfl rfl (Go.Proofs.YtlagdgkjpnocfaaGreatDoor.W.quiet_assign rfl rfl) ?_
  refine WL.nil ?_
  refine TW.rt ?_
  repeat (with_reducible first | refine Xw.thn (by simp) ?_ | refine Xw.rblk ?_)
  refine bodyw_ret2 rfl rfl rfl ?_
  exact ⟨rfl, rfl⟩
end Go.Proofs.YtlagdgkjpnocfaaGreatDoor
