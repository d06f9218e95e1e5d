/-
  Tables of types (layer 8): Size, Align, Scalar, pointer, array.
-/
import Derived.Test.YtbhhmmfopammgaaKindD
import Derived.Outline
namespace Go.Proofs.Ytbhhmmfopammgaa
open Go.RowKit
set_option linter.unusedVariables false
set_option linter.unusedSimpArgs false
theorem size_of (p : Value) (n er : Int) (e : Ent) (w : World) (H : Hid (∀ W, Fr (fun _ => False) w W → Calls Try.prog 33 #[p, .int .i64 n] W fun r w' => r = .returned (.tuple #[.agg #[.int .i64 e.kind, .int .i64 e.elem, .int .i64 e.len, .string e.name, .slice e.fa e.fn e.fc, .int .i64 e.size, .int .i64 e.align], .int .i64 er]) ∧ Fr (fun _ => False) W w'))  :
    Calls Try.prog 14 #[p, .int .i64 n] w fun r w' => r = .returned (.int .i64 e.size) ∧ Fr (fun _ => False) w w' := by
  have HF := Lib.hid (Fr.refl (fun _ => False) w)
  go_enter Try.func14, Try.ntmps14
  go_wp2_with (go_at_call 33; (with_reducible refine (H.out _ HF.out).mono ?_); rintro r w' ⟨rfl, hf⟩; have HV := Lib.hid hf; clear hf)
  go_ret
  exact ⟨rfl, fr_al HV.out _⟩
theorem align_of (p : Value) (n er : Int) (e : Ent) (w : World) (H : Hid (∀ W, Fr (fun _ => False) w W → Calls Try.prog 33 #[p, .int .i64 n] W fun r w' => r = .returned (.tuple #[.agg #[.int .i64 e.kind, .int .i64 e.elem, .int .i64 e.len, .string e.name, .slice e.fa e.fn e.fc, .int .i64 e.size, .int .i64 e.align], .int .i64 er]) ∧ Fr (fun _ => False) W w'))  :
    Calls Try.prog 16 #[p, .int .i64 n] w fun r w' => r = .returned (.int .i64 e.align) ∧ Fr (fun _ => False) w w' := by
  have HF := Lib.hid (Fr.refl (fun _ => False) w)
  go_enter Try.func16, Try.ntmps16
  go_wp2_with (go_at_call 33; (with_reducible refine (H.out _ HF.out).mono ?_); rintro r w' ⟨rfl, hf⟩; have HV := Lib.hid hf; clear hf)
  go_ret
  exact ⟨rfl, fr_al HV.out _⟩
def scalarB (k : Int) : Bool := k == 1 || k == 2 || k == 3
theorem scalar_of (p : Value) (n er : Int) (e : Ent) (w : World) (H : Hid (∀ W, Fr (fun _ => False) w W → Calls Try.prog 33 #[p, .int .i64 n] W fun r w' => r = .returned (.tuple #[.agg #[.int .i64 e.kind, .int .i64 e.elem, .int .i64 e.len, .string e.name, .slice e.fa e.fn e.fc, .int .i64 e.size, .int .i64 e.align], .int .i64 er]) ∧ Fr (fun _ => False) W w'))  :
    Calls Try.prog 19 #[p, .int .i64 n] w fun r w' => r = .returned (.bool (scalarB e.kind)) ∧ Fr (fun _ => False) w w' := by
  have HF := Lib.hid (Fr.refl (fun _ => False) w)
  go_enter Try.func19, Try.ntmps19
  go_wp2_with (go_at_call 33; (with_reducible refine (H.out _ HF.out).mono ?_); rintro r w' ⟨rfl, hf⟩; have HV := Lib.hid hf; clear hf)
  all_goals
    go_ret
    exact ⟨by simp [scalarB, *], fr_al HV.out _⟩
theorem pointer_of (n : Int) (w : World) : Calls Try.prog 37 #[.int .i64 n] w fun r w' => r = .returned (.agg #[.int .i64 3, .int .i64 n, .int .i64 0, .string ⟨#[]⟩, .slice none 0 0, .int .i64 4, .int .i64 4]) ∧ Fr (fun _ => False) w w' := by
  go_enter Try.func37, Try.ntmps37
  go_wp2
  exact bodyPost_ret (v := .agg #[.int .i64 3, .int .i64 n, .int .i64 0, .string ⟨#[]⟩, .slice none 0 0, .int .i64 4, .int .i64 4]) (by simp [results, Try.results37, go_sem]) rfl ⟨rfl, fr_al (Fr.refl _ _) _⟩
theorem array_of (n long : Int) (e : Ent) (hs : 0 ≤ e.size ∧ e.size ≤ 32768) (hl : 1 ≤ long ∧ long ≤ 32768) (w : World) : Calls Try.prog 38 #[.int .i64 n, .agg #[.int .i64 e.kind, .int .i64 e.elem, .int .i64 e.len, .string e.name, .slice e.fa e.fn e.fc, .int .i64 e.size, .int .i64 e.align], .int .i64 long] w fun r w' => r = .returned (.agg #[.int .i64 4, .int .i64 n, .int .i64 long, .string ⟨#[]⟩, .slice none 0 0, .int .i64 (long * e.size), .int .i64 e.align]) ∧ Fr (fun _ => False) w w' := by
  obtain ⟨s0, s1⟩ := hs
  obtain ⟨l0, l1⟩ := hl
  have m0 : 0 ≤ long * e.size := Int.mul_nonneg (by omega) s0
  have m1 : long * e.size ≤ 32768 * 32768 := Int.mul_le_mul l1 s1 s0 (by decide)
  go_enter Try.func38, Try.ntmps38
  go_wp2
  exact bodyPost_ret (v := .agg #[.int .i64 4, .int .i64 n, .int .i64 long, .string ⟨#[]⟩, .slice none 0 0, .int .i64 (long * e.size), .int .i64 e.align]) (by simp [results, Try.results38, go_sem]) rfl ⟨rfl, fr_al (fr_al (Fr.refl _ _) _) _⟩
end Go.Proofs.Ytbhhmmfopammgaa
