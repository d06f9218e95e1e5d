/-
  Tables of types (layer 8): what is asked of one field.
-/
import Derived.Test.YtbhhmmfopammgaaKindL
import Derived.Outline
namespace Go.Proofs.Ytbhhmmfopammgaa
open Go.RowKit
set_option linter.unusedVariables false
set_option linter.unusedSimpArgs false
theorem nameless_of (nm : ByteArray) (ty at' : Int) (w : World) : Calls Try.prog 47 #[.agg #[.string nm, .int .i64 ty, .int .i64 at']] w fun r w' => r = .returned (.bool nm.toList.isEmpty) ∧ Fr (fun _ => False) w w' := by
  have HF := Lib.hid (Fr.refl (fun _ => False) w)
  go_enter Try.func47, Try.ntmps47
  go_wp2
  go_ret
  exact ⟨rfl, fr_al HF.out _⟩
theorem typeless_of (p : Value) (nm : ByteArray) (ty at' er : Int) (e : Ent) (w : World) (H : Hid (∀ W, Fr (fun _ => False) w W → Calls Try.prog 33 #[p, .int .i64 ty] W fun r w' => r = .returned (.tuple #[.agg #[.int .i64 e.kind, .int .i64 e.elem, .int .i64 e.len, .string e.name, .slice e.fa e.fn e.fc, .int .i64 e.size, .int .i64 e.align], .int .i64 er]) ∧ Fr (fun _ => False) W w')) :
    Calls Try.prog 48 #[p, .agg #[.string nm, .int .i64 ty, .int .i64 at']] w fun r w' => r = .returned (.bool (er != 0)) ∧ Fr (fun _ => False) w w' := by
  have HF := Lib.hid (fr_al (Fr.refl (fun _ => False) w) (.cells #[.string nm, .int .i64 ty, .int .i64 at'] 53))
  go_enter Try.func48, Try.ntmps48
  go_wp2_with (go_at_call 33; (with_reducible refine (H.out _ HF.out).mono ?_); rintro r w' ⟨rfl, hf⟩; have HV := Lib.hid (HF.out.trans hf); clear hf)
  go_ret
  exact ⟨rfl, fr_al HV.out _⟩
theorem sizeless_of (p : Value) (nm : ByteArray) (ty at' z : Int) (w : World) (H : Hid (∀ W, Fr (fun _ => False) w W → Calls Try.prog 14 #[p, .int .i64 ty] W fun r w' => r = .returned (.int .i64 z) ∧ Fr (fun _ => False) W w')) :
    Calls Try.prog 49 #[p, .agg #[.string nm, .int .i64 ty, .int .i64 at']] w fun r w' => r = .returned (.bool (z == 0)) ∧ Fr (fun _ => False) w w' := by
  have HF := Lib.hid (fr_al (Fr.refl (fun _ => False) w) (.cells #[.string nm, .int .i64 ty, .int .i64 at'] 53))
  go_enter Try.func49, Try.ntmps49
  go_wp2_with (go_at_call 14; (with_reducible refine (H.out _ HF.out).mono ?_); rintro r w' ⟨rfl, hf⟩; have HV := Lib.hid (HF.out.trans hf); clear hf)
  go_ret
  exact ⟨rfl, HV.out⟩
end Go.Proofs.Ytbhhmmfopammgaa
