/-
  Tokens (layer 7): the number of the page's example.
-/
import Derived.Test.YtoffbjfgledjfaaDoorLexC
import Derived.Lib.ConvBytes
namespace Go.Proofs.YtoffbjfgledjfaaDoor
open Go.RowKit
set_option linter.unusedVariables false
set_option linter.unusedSimpArgs false
theorem lower_F (w : World) : Calls Tryd.prog 51 #[.int .u8 70] w fun e w' => e = .returned (.int .u8 102) ∧ w = w' := by
  go_enter Tryd.func51, Tryd.ntmps51
  go_wp2
  go_ret
  exact ⟨rfl, rfl⟩
theorem fr_bytes (w : World) (e : TypeId) (s : ByteArray) : Fr (fun _ => False) w (Lib.bytesWorld w e s) :=
  ⟨rfl, rfl, by rw [Lib.bytesWorld_size]; omega, fun k hk _ => Lib.bytesWorld_at_old w e s k hk⟩
set_option maxRecDepth 100000 in
set_option maxHeartbeats 8000000 in
theorem parse_1F (w : World) : Calls Tryd.prog 47 #[.string ⟨#[49, 70]⟩, .int .i64 16, .int .i64 32] w fun e w' => e = .returned (.tuple #[.int .u64 31, .nilIface]) ∧ Fr (fun _ => False) w w' := by
  have hcv := Lib.run_convert_string_bytes (P := Tryd.prog) w 9 34 5 ⟨#[49, 70]⟩ (u := .string) Tryd.underlying9 Tryd.underlying34 Tryd.underlying5
  obtain ⟨W1, hW1⟩ : ∃ W1, W1 = Lib.bytesWorld w 5 ⟨#[49, 70]⟩ := ⟨_, rfl⟩
  have b0 : W1.cell? ⟨w.heap.size, 0, none⟩ = some (.int .u8 49) := by rw [hW1]; exact Lib.bytesWorld_cell w 5 ⟨#[49, 70]⟩ 0 (by decide)
  have b1 : W1.cell? ⟨w.heap.size, 1, none⟩ = some (.int .u8 70) := by rw [hW1]; exact Lib.bytesWorld_cell w 5 ⟨#[49, 70]⟩ 1 (by decide)
  have HF : Hid (Fr (fun _ => False) w W1) := Lib.hid (by rw [hW1]; exact fr_bytes w _ _)
  rw [← hW1] at hcv
  clear hW1
  go_enter Tryd.func47, Tryd.ntmps47
  go_wp2
  go_loop [12, 13, 101] (fun u n i => u = .bool false ∧ ((i = .int .i64 0 ∧ n = .int .u64 0) ∨ (i = .int .i64 1 ∧ n = .int .u64 1) ∨ (i = .int .i64 2 ∧ n = .int .u64 31))) (fun _ _ i => 2 - (intOf i).toNat)
  case atStart => exact ⟨rfl, .inl ⟨rfl, rfl⟩⟩
  case round =>
    rcases hrel with ⟨rfl, ⟨rfl, rfl⟩ | ⟨rfl, rfl⟩ | ⟨rfl, rfl⟩⟩
    · go_wp2
      go_round
      case rel => exact ⟨rfl, .inr (.inl ⟨rfl, rfl⟩)⟩
      case measure => simp [intOf]
    · go_wp2_with (go_at_call 51; (with_reducible refine (lower_F _).mono ?_); rintro e w' ⟨rfl, rfl⟩)
      go_round
      case rel => exact ⟨rfl, .inr (.inr ⟨rfl, rfl⟩)⟩
      case measure => simp [intOf]
    · go_wp2
      exact bodyPost_ret (v := .tuple #[.int .u64 31, .nilIface]) (by simp [results, Tryd.results47, go_sem]) rfl ⟨rfl, HF.out⟩
set_option maxRecDepth 100000 in
theorem parse_1F' (w : World) : Calls Tryd.prog 40 #[.string ⟨#[49, 70]⟩, .int .i64 16, .int .i64 32] w fun e w' => e = .returned (.tuple #[.int .u64 31, .nilIface]) ∧ Fr (fun _ => False) w w' := by
  go_enter Tryd.func40, Tryd.ntmps40
  go_wp2_with (go_at_call 47; (with_reducible refine (parse_1F _).mono ?_); rintro e w2 ⟨rfl, hf⟩; have HF := Lib.hid hf; clear hf)
  exact bodyPost_ret (v := .tuple #[.int .u64 31, .nilIface]) (by simp [results, Tryd.results40, go_sem]) rfl ⟨rfl, HF.out⟩
end Go.Proofs.YtoffbjfgledjfaaDoor
