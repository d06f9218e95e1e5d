/-
  A number with a blank ahead (layer 13): the document's own.
-/
import Derived.Test.YtnhdchagoabjeaaDoorTxtA
import Derived.Test.YtnhdchagoabjeaaDoorTxtB
namespace Go.Proofs.YtnhdchagoabjeaaDoor
open Go.RowKit
set_option linter.unusedVariables false
set_option linter.unusedSimpArgs false
set_option maxRecDepth 100000 in
set_option maxHeartbeats 4000000 in
theorem rnum_any (n : Int) (h0 : -9223372036854775807 ≤ n) (h1 : n ≤ 9223372036854775807) (w : World) : Calls Tryd.prog 43 #[.int .i64 n] w fun e w' => e = .returned (.string ⟨(32 :: Lib.itoa n).toArray⟩) ∧ w' = w := by
  have HP := Lib.hid (num_any n h0 h1)
  have hl := Lib.itoa_length_le n (by omega) h1
  have HC := Lib.hid (str_cons 32 (Lib.itoa n))
  obtain ⟨S, hS⟩ : ∃ S : ByteArray, (⟨(Lib.itoa n).toArray⟩ : ByteArray) = S := ⟨_, rfl⟩
  have hl2 : S.size ≤ 21 := by rw [← hS]; exact hl
  rw [hS] at HC HP
  have HE := Lib.hid HC.out.symm
  clear hl hS HC h0 h1
  go_enter Tryd.func43, Tryd.ntmps43
  go_wp2_with (go_at_call 42; (with_reducible refine (HP.out _).mono ?_); rintro e w2 ⟨rfl, rfl⟩)
  go_ret
  exact ⟨by rw [HE.out]; rfl, rfl⟩
/-- How the document spells numbers behind one another. -/
theorem numsL_cons (x : Int) (l : List Int) : numsL (x :: l) = (32 :: Lib.itoa x) ++ numsL l := by simp [numsL]
end Go.Proofs.YtnhdchagoabjeaaDoor
