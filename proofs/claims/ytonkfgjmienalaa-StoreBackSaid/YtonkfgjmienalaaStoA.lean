/-
  Memories (layer 11): a memory of one object; find, living, pointee, storable, reach, Move, Part.
-/
import Derived.Test.YtonkfgjmienalaaFr
import Derived.Test.YtonkfgjmienalaaChecked
import Derived.Deep.QuietTactic
import Derived.BigQuiet
import Derived.Outline
import Derived.ProofKit
namespace Go.Proofs.Ytonkfgjmienalaa
open Go.RowKit
set_option linter.unusedVariables false
set_option linter.unusedSimpArgs false
/-- A memory of one object: where it lies, and what the object's row holds. -/
structure SAt (w : World) (sb ob : Nat) (sz : Int) (ch mp : Value) (dead : Bool) : Prop where
  s : ∃ cap, w.cell? ⟨sb, 0, none⟩ = some (.slice (some ⟨ob, 0, none⟩) 1 cap)
  o0 : w.cell? ⟨ob, 0, none⟩ = some (.int .i64 sz)
  o1 : w.cell? ⟨ob, 1, none⟩ = some ch
  o2 : w.cell? ⟨ob, 2, none⟩ = some mp
  o3 : w.cell? ⟨ob, 3, none⟩ = some (.bool dead)
  sf : w.frozen? ⟨sb, 0, none⟩ = false
  of : ∀ j, j < 4 → w.frozen? ⟨ob, j, none⟩ = false
  ne : sb ≠ ob
theorem SAt.kept {F : Nat → Prop} {w w' : World} {sb ob : Nat} {sz : Int} {ch mp : Value} {dead : Bool} (h : SAt w sb ob sz ch mp dead) (hf : Fr F w w') (h1 : ¬ F sb) (h2 : ¬ F ob) : SAt w' sb ob sz ch mp dead := by
  obtain ⟨cap, hs⟩ := h.s
  refine ⟨⟨cap, hf.cell hs h1⟩, hf.cell h.o0 h2, hf.cell h.o1 h2, hf.cell h.o2 h2, hf.cell h.o3 h2, (hf.frozen hs h1).trans h.sf, fun j hj => ?_, h.ne⟩
  match j, hj with
  | 0, _ => exact (hf.frozen h.o0 h2).trans (h.of 0 (by decide))
  | 1, _ => exact (hf.frozen h.o1 h2).trans (h.of 1 (by decide))
  | 2, _ => exact (hf.frozen h.o2 h2).trans (h.of 2 (by decide))
  | 3, _ => exact (hf.frozen h.o3 h2).trans (h.of 3 (by decide))
theorem SAt.quiet {w w' : World} {sb ob : Nat} {sz : Int} {ch mp : Value} {dead : Bool} (h : SAt w sb ob sz ch mp dead) (hf : Fr (fun _ => False) w w') : SAt w' sb ob sz ch mp dead := h.kept hf id id
theorem find_nil (n : Int) (w : World) : Calls Try.prog 17 #[.pointer none, .int .i64 n] w fun r w' => r = .returned (.tuple #[.pointer none, .int .i64 1]) ∧ w = w' := by
  go_enter Try.func17, Try.ntmps17
  go_wp2
  go_ret2
  exact ⟨rfl, rfl⟩
theorem find_one {w : World} {sb ob : Nat} {sz : Int} {ch mp : Value} {dead : Bool} (h : SAt w sb ob sz ch mp dead) : Calls Try.prog 17 #[.pointer (some ⟨sb, 0, none⟩), .int .i64 1] w fun r w' => r = .returned (.tuple #[.pointer (if dead then none else some ⟨ob, 0, none⟩), .int .i64 (if dead then 15 else 0)]) ∧ w = w' := by
  obtain ⟨cap, hs⟩ := h.s
  have o3 := h.o3
  clear h
  cases dead with
  | true =>
    go_enter Try.func17, Try.ntmps17
    go_wp2
    go_ret2
    exact ⟨rfl, rfl⟩
  | false =>
    go_enter Try.func17, Try.ntmps17
    go_wp2
    go_ret2
    exact ⟨rfl, rfl⟩
theorem pointee_nil (a b c d : Int) (w : World) : Calls Try.prog 10 #[.pointer none, .agg #[.int .i64 a, .int .i64 b, .int .i64 c, .int .i64 d]] w fun r w' => r = .returned (.tuple #[.pointer none, .int .i64 1]) ∧ Fr (fun _ => False) w w' := by
  have HF := Lib.hid (fr_al (Fr.refl (fun _ => False) w) (.cells #[.int .i64 a, .int .i64 b, .int .i64 c, .int .i64 d] 24))
  go_enter Try.func10, Try.ntmps10
  go_wp2_with (go_at_call 17; (with_reducible refine (find_nil _ _).mono ?_); rintro r w1 ⟨rfl, rfl⟩)
  go_ret2
  exact ⟨rfl, HF.out⟩
theorem pointee_one {w : World} {sb ob : Nat} {sz : Int} {ch mp : Value} {dead : Bool} (h : SAt w sb ob sz ch mp dead) (b c d : Int) : Calls Try.prog 10 #[.pointer (some ⟨sb, 0, none⟩), .agg #[.int .i64 1, .int .i64 b, .int .i64 c, .int .i64 d]] w fun r w' => r = .returned (.tuple #[.pointer (if dead then none else some ⟨ob, 0, none⟩), .int .i64 (if dead then 15 else 0)]) ∧ Fr (fun _ => False) w w' := by
  have HF := Lib.hid (fr_al (Fr.refl (fun _ => False) w) (.cells #[.int .i64 1, .int .i64 b, .int .i64 c, .int .i64 d] 24))
  have H := Lib.hid (find_one (h.quiet HF.out))
  clear h
  generalize (if dead = true then none else some (⟨ob, 0, none⟩ : Addr)) = pa at *
  generalize (if dead = true then (15 : Int) else 0) = er at *
  go_enter Try.func10, Try.ntmps10
  go_wp2_with (go_at_call 17; (with_reducible refine H.out.mono ?_); rintro r w1 ⟨rfl, rfl⟩)
  go_ret2
  exact ⟨rfl, HF.out⟩
theorem storable_of (n : Int) (b : Bool) (w : World) : Calls Try.prog 11 #[.int .i64 n, .bool b] w fun r w' => r = .returned (.bool (n == 4 || (n == 1 && !b))) ∧ w = w' := by
  by_cases h4 : n = 4
  · subst h4
    go_enter Try.func11, Try.ntmps11
    go_wp2
    go_ret
    exact ⟨rfl, rfl⟩
  · have b4 : (n == 4) = false := by rw [beq_eq_false_iff_ne]; exact h4
    by_cases h1 : n = 1
    · subst h1
      cases b <;>
        (go_enter Try.func11, Try.ntmps11
         go_wp2
         go_ret
         exact ⟨rfl, rfl⟩)
    · have b1 : (n == 1) = false := by rw [beq_eq_false_iff_ne]; exact h1
      rw [b4, b1]
      clear h4 h1
      go_enter Try.func11, Try.ntmps11
      go_wp2
      go_ret
      exact ⟨rfl, rfl⟩
end Go.Proofs.Ytonkfgjmienalaa
