/-
  The table of the instructions as it lies in the program, row by row, and what the call that gives it returns.
-/
import Derived.Test.YtlagdgkjpnocfaaGreatDoorShift
import Derived.Laws.Tables
import Derived.Great.BuildSlice
import Derived.Great.ByCallsLater
import Derived.Great.Frames
import Derived.Deep.WholeRow
namespace Go.Proofs.YtlagdgkjpnocfaaGreatDoor
open Go.RowKit
set_option linter.unusedVariables false

/-- The names, as bytes. -/
def nmL : List ByteArray := [⟨#[]⟩, ⟨#[108, 117, 105]⟩, ⟨#[97, 117, 105, 112, 99]⟩, ⟨#[106, 97, 108]⟩, ⟨#[106, 97, 108, 114]⟩, ⟨#[98, 101, 113]⟩, ⟨#[98, 110, 101]⟩, ⟨#[98, 108, 116]⟩, ⟨#[98, 103, 101]⟩, ⟨#[98, 108, 116, 117]⟩, ⟨#[98, 103, 101, 117]⟩, ⟨#[108, 98]⟩, ⟨#[108, 104]⟩, ⟨#[108, 119]⟩, ⟨#[108, 98, 117]⟩, ⟨#[108, 104, 117]⟩, ⟨#[115, 98]⟩, ⟨#[115, 104]⟩, ⟨#[115, 119]⟩, ⟨#[97, 100, 100, 105]⟩, ⟨#[115, 108, 116, 105]⟩, ⟨#[115, 108, 116, 105, 117]⟩, ⟨#[120, 111, 114, 105]⟩, ⟨#[111, 114, 105]⟩, ⟨#[97, 110, 100, 105]⟩, ⟨#[115, 108, 108, 105]⟩, ⟨#[115, 114, 108, 105]⟩, ⟨#[115, 114, 97, 105]⟩, ⟨#[97, 100, 100]⟩, ⟨#[115, 117, 98]⟩, ⟨#[115, 108, 108]⟩, ⟨#[115, 108, 116]⟩, ⟨#[115, 108, 116, 117]⟩, ⟨#[120, 111, 114]⟩, ⟨#[115, 114, 108]⟩, ⟨#[115, 114, 97]⟩, ⟨#[111, 114]⟩, ⟨#[97, 110, 100]⟩, ⟨#[109, 117, 108]⟩, ⟨#[109, 117, 108, 104]⟩, ⟨#[109, 117, 108, 104, 115, 117]⟩, ⟨#[109, 117, 108, 104, 117]⟩, ⟨#[100, 105, 118]⟩, ⟨#[100, 105, 118, 117]⟩, ⟨#[114, 101, 109]⟩, ⟨#[114, 101, 109, 117]⟩]
/-- The formats. -/
def fmL : List Int := [0, 85, 85, 74, 73, 66, 66, 66, 66, 66, 66, 73, 73, 73, 73, 73, 83, 83, 83, 73, 73, 73, 73, 73, 73, 72, 72, 72, 82, 82, 82, 82, 82, 82, 82, 82, 82, 82, 82, 82, 82, 82, 82, 82, 82, 82]
/-- The opcodes. -/
def ocL : List Int := [0, 55, 23, 111, 103, 99, 99, 99, 99, 99, 99, 3, 3, 3, 3, 3, 35, 35, 35, 19, 19, 19, 19, 19, 19, 19, 19, 19, 51, 51, 51, 51, 51, 51, 51, 51, 51, 51, 51, 51, 51, 51, 51, 51, 51, 51]
/-- The funct3. -/
def f3L : List Int := [0, 0, 0, 0, 0, 0, 1, 4, 5, 6, 7, 0, 1, 2, 4, 5, 0, 1, 2, 0, 2, 3, 4, 6, 7, 1, 5, 5, 0, 0, 1, 2, 3, 4, 5, 5, 6, 7, 0, 1, 2, 3, 4, 5, 6, 7]
/-- The funct7. -/
def f7L : List Int := [0, 0, 0, 0, 0, 0, 0, 0, 0, 0, 0, 0, 0, 0, 0, 0, 0, 0, 0, 0, 0, 0, 0, 0, 0, 0, 0, 32, 0, 32, 0, 0, 0, 0, 0, 32, 0, 0, 1, 1, 1, 1, 1, 1, 1, 1]
def codesArr : Array Value := #[.string ⟨#[]⟩, .int .u8 0, .int .u8 0, .int .u8 0, .int .u8 0, .string ⟨#[108, 117, 105]⟩, .int .u8 85, .int .u8 55, .int .u8 0, .int .u8 0, .string ⟨#[97, 117, 105, 112, 99]⟩, .int .u8 85, .int .u8 23, .int .u8 0, .int .u8 0, .string ⟨#[106, 97, 108]⟩, .int .u8 74, .int .u8 111, .int .u8 0, .int .u8 0, .string ⟨#[106, 97, 108, 114]⟩, .int .u8 73, .int .u8 103, .int .u8 0, .int .u8 0, .string ⟨#[98, 101, 113]⟩, .int .u8 66, .int .u8 99, .int .u8 0, .int .u8 0, .string ⟨#[98, 110, 101]⟩, .int .u8 66, .int .u8 99, .int .u8 1, .int .u8 0, .string ⟨#[98, 108, 116]⟩, .int .u8 66, .int .u8 99, .int .u8 4, .int .u8 0, .string ⟨#[98, 103, 101]⟩, .int .u8 66, .int .u8 99, .int .u8 5, .int .u8 0, .string ⟨#[98, 108, 116, 117]⟩, .int .u8 66, .int .u8 99, .int .u8 6, .int .u8 0, .string ⟨#[98, 103, 101, 117]⟩, .int .u8 66, .int .u8 99, .int .u8 7, .int .u8 0, .string ⟨#[108, 98]⟩, .int .u8 73, .int .u8 3, .int .u8 0, .int .u8 0, .string ⟨#[108, 104]⟩, .int .u8 73, .int .u8 3, .int .u8 1, .int .u8 0, .string ⟨#[108, 119]⟩, .int .u8 73, .int .u8 3, .int .u8 2, .int .u8 0, .string ⟨#[108, 98, 117]⟩, .int .u8 73, .int .u8 3, .int .u8 4, .int .u8 0, .string ⟨#[108, 104, 117]⟩, .int .u8 73, .int .u8 3, .int .u8 5, .int .u8 0, .string ⟨#[115, 98]⟩, .int .u8 83, .int .u8 35, .int .u8 0, .int .u8 0, .string ⟨#[115, 104]⟩, .int .u8 83, .int .u8 35, .int .u8 1, .int .u8 0, .string ⟨#[115, 119]⟩, .int .u8 83, .int .u8 35, .int .u8 2, .int .u8 0, .string ⟨#[97, 100, 100, 105]⟩, .int .u8 73, .int .u8 19, .int .u8 0, .int .u8 0, .string ⟨#[115, 108, 116, 105]⟩, .int .u8 73, .int .u8 19, .int .u8 2, .int .u8 0, .string ⟨#[115, 108, 116, 105, 117]⟩, .int .u8 73, .int .u8 19, .int .u8 3, .int .u8 0, .string ⟨#[120, 111, 114, 105]⟩, .int .u8 73, .int .u8 19, .int .u8 4, .int .u8 0, .string ⟨#[111, 114, 105]⟩, .int .u8 73, .int .u8 19, .int .u8 6, .int .u8 0, .string ⟨#[97, 110, 100, 105]⟩, .int .u8 73, .int .u8 19, .int .u8 7, .int .u8 0, .string ⟨#[115, 108, 108, 105]⟩, .int .u8 72, .int .u8 19, .int .u8 1, .int .u8 0, .string ⟨#[115, 114, 108, 105]⟩, .int .u8 72, .int .u8 19, .int .u8 5, .int .u8 0, .string ⟨#[115, 114, 97, 105]⟩, .int .u8 72, .int .u8 19, .int .u8 5, .int .u8 32, .string ⟨#[97, 100, 100]⟩, .int .u8 82, .int .u8 51, .int .u8 0, .int .u8 0, .string ⟨#[115, 117, 98]⟩, .int .u8 82, .int .u8 51, .int .u8 0, .int .u8 32, .string ⟨#[115, 108, 108]⟩, .int .u8 82, .int .u8 51, .int .u8 1, .int .u8 0, .string ⟨#[115, 108, 116]⟩, .int .u8 82, .int .u8 51, .int .u8 2, .int .u8 0, .string ⟨#[115, 108, 116, 117]⟩, .int .u8 82, .int .u8 51, .int .u8 3, .int .u8 0, .string ⟨#[120, 111, 114]⟩, .int .u8 82, .int .u8 51, .int .u8 4, .int .u8 0, .string ⟨#[115, 114, 108]⟩, .int .u8 82, .int .u8 51, .int .u8 5, .int .u8 0, .string ⟨#[115, 114, 97]⟩, .int .u8 82, .int .u8 51, .int .u8 5, .int .u8 32, .string ⟨#[111, 114]⟩, .int .u8 82, .int .u8 51, .int .u8 6, .int .u8 0, .string ⟨#[97, 110, 100]⟩, .int .u8 82, .int .u8 51, .int .u8 7, .int .u8 0, .string ⟨#[109, 117, 108]⟩, .int .u8 82, .int .u8 51, .int .u8 0, .int .u8 1, .string ⟨#[109, 117, 108, 104]⟩, .int .u8 82, .int .u8 51, .int .u8 1, .int .u8 1, .string ⟨#[109, 117, 108, 104, 115, 117]⟩, .int .u8 82, .int .u8 51, .int .u8 2, .int .u8 1, .string ⟨#[109, 117, 108, 104, 117]⟩, .int .u8 82, .int .u8 51, .int .u8 3, .int .u8 1, .string ⟨#[100, 105, 118]⟩, .int .u8 82, .int .u8 51, .int .u8 4, .int .u8 1, .string ⟨#[100, 105, 118, 117]⟩, .int .u8 82, .int .u8 51, .int .u8 5, .int .u8 1, .string ⟨#[114, 101, 109]⟩, .int .u8 82, .int .u8 51, .int .u8 6, .int .u8 1, .string ⟨#[114, 101, 109, 117]⟩, .int .u8 82, .int .u8 51, .int .u8 7, .int .u8 1]

theorem cells73 : (Tryz.prog.info? 104).map (·.size) = some codesArr.size := by kernel_rfl
set_option maxRecDepth 1000000 in
set_option maxHeartbeats 4000000 in
theorem c68 (w : World) :
    Calls Tryz.prog 68 #[] w fun e w' => e = .returned (.agg codesArr) ∧ Grown w w' := by
  go_enter Tryz.func68, Tryz.ntmps68
  apply wp_seq_k; intro K0 hK0
  have HK := Lib.hid hK0
  clear hK0
  go_wp2
  refine HK.out _ _ ?_
  clear HK
  apply wp_seq_k; intro K1 hK1
  apply wp_region_lit
  refine wpList_buildTo rfl 80 _ rfl (some 1) rfl #[.string ⟨#[108, 117, 105]⟩, .int .u8 85, .int .u8 55, .int .u8 0, .int .u8 0] (by as_aux_lemma => kernel_rfl) ?_
  refine wpList_buildTo rfl 80 _ rfl (some 2) rfl #[.string ⟨#[97, 117, 105, 112, 99]⟩, .int .u8 85, .int .u8 23, .int .u8 0, .int .u8 0] (by as_aux_lemma => kernel_rfl) ?_
  refine wpList_buildTo rfl 80 _ rfl (some 3) rfl #[.string ⟨#[106, 97, 108]⟩, .int .u8 74, .int .u8 111, .int .u8 0, .int .u8 0] (by as_aux_lemma => kernel_rfl) ?_
  refine wpList_buildTo rfl 80 _ rfl (some 4) rfl #[.string ⟨#[106, 97, 108, 114]⟩, .int .u8 73, .int .u8 103, .int .u8 0, .int .u8 0] (by as_aux_lemma => kernel_rfl) ?_
  refine wpList_buildTo rfl 80 _ rfl (some 5) rfl #[.string ⟨#[98, 101, 113]⟩, .int .u8 66, .int .u8 99, .int .u8 0, .int .u8 0] (by as_aux_lemma => kernel_rfl) ?_
  refine wpList_buildTo rfl 80 _ rfl (some 6) rfl #[.string ⟨#[98, 110, 101]⟩, .int .u8 66, .int .u8 99, .int .u8 1, .int .u8 0] (by as_aux_lemma => kernel_rfl) ?_
  refine wpList_buildTo rfl 80 _ rfl (some 7) rfl #[.string ⟨#[98, 108, 116]⟩, .int .u8 66, .int .u8 99, .int .u8 4, .int .u8 0] (by as_aux_lemma => kernel_rfl) ?_
  refine wpList_buildTo rfl 80 _ rfl (some 8) rfl #[.string ⟨#[98, 103, 101]⟩, .int .u8 66, .int .u8 99, .int .u8 5, .int .u8 0] (by as_aux_lemma => kernel_rfl) ?_
  refine wpList_buildTo rfl 80 _ rfl (some 9) rfl #[.string ⟨#[98, 108, 116, 117]⟩, .int .u8 66, .int .u8 99, .int .u8 6, .int .u8 0] (by as_aux_lemma => kernel_rfl) ?_
  refine wpList_buildTo rfl 80 _ rfl (some 10) rfl #[.string ⟨#[98, 103, 101, 117]⟩, .int .u8 66, .int .u8 99, .int .u8 7, .int .u8 0] (by as_aux_lemma => kernel_rfl) ?_
  refine wpList_buildTo rfl 80 _ rfl (some 11) rfl #[.string ⟨#[108, 98]⟩, .int .u8 73, .int .u8 3, .int .u8 0, .int .u8 0] (by as_aux_lemma => kernel_rfl) ?_
  refine wpList_buildTo rfl 80 _ rfl (some 12) rfl #[.string ⟨#[108, 104]⟩, .int .u8 73, .int .u8 3, .int .u8 1, .int .u8 0] (by as_aux_lemma => kernel_rfl) ?_
  refine wpList_buildTo rfl 80 _ rfl (some 13) rfl #[.string ⟨#[108, 119]⟩, .int .u8 73, .int .u8 3, .int .u8 2, .int .u8 0] (by as_aux_lemma => kernel_rfl) ?_
  refine wpList_buildTo rfl 80 _ rfl (some 14) rfl #[.string ⟨#[108, 98, 117]⟩, .int .u8 73, .int .u8 3, .int .u8 4, .int .u8 0] (by as_aux_lemma => kernel_rfl) ?_
  refine wpList_buildTo rfl 80 _ rfl (some 15) rfl #[.string ⟨#[108, 104, 117]⟩, .int .u8 73, .int .u8 3, .int .u8 5, .int .u8 0] (by as_aux_lemma => kernel_rfl) ?_
  refine wpList_buildTo rfl 80 _ rfl (some 16) rfl #[.string ⟨#[115, 98]⟩, .int .u8 83, .int .u8 35, .int .u8 0, .int .u8 0] (by as_aux_lemma => kernel_rfl) ?_
  refine wpList_buildTo rfl 80 _ rfl (some 17) rfl #[.string ⟨#[115, 104]⟩, .int .u8 83, .int .u8 35, .int .u8 1, .int .u8 0] (by as_aux_lemma => kernel_rfl) ?_
  refine wpList_buildTo rfl 80 _ rfl (some 18) rfl #[.string ⟨#[115, 119]⟩, .int .u8 83, .int .u8 35, .int .u8 2, .int .u8 0] (by as_aux_lemma => kernel_rfl) ?_
  refine wpList_buildTo rfl 80 _ rfl (some 19) rfl #[.string ⟨#[97, 100, 100, 105]⟩, .int .u8 73, .int .u8 19, .int .u8 0, .int .u8 0] (by as_aux_lemma => kernel_rfl) ?_
  refine wpList_buildTo rfl 80 _ rfl (some 20) rfl #[.string ⟨#[115, 108, 116, 105]⟩, .int .u8 73, .int .u8 19, .int .u8 2, .int .u8 0] (by as_aux_lemma => kernel_rfl) ?_
  refine wpList_buildTo rfl 80 _ rfl (some 21) rfl #[.string ⟨#[115, 108, 116, 105, 117]⟩, .int .u8 73, .int .u8 19, .int .u8 3, .int .u8 0] (by as_aux_lemma => kernel_rfl) ?_
  refine wpList_buildTo rfl 80 _ rfl (some 22) rfl #[.string ⟨#[120, 111, 114, 105]⟩, .int .u8 73, .int .u8 19, .int .u8 4, .int .u8 0] (by as_aux_lemma => kernel_rfl) ?_
  refine wpList_buildTo rfl 80 _ rfl (some 23) rfl #[.string ⟨#[111, 114, 105]⟩, .int .u8 73, .int .u8 19, .int .u8 6, .int .u8 0] (by as_aux_lemma => kernel_rfl) ?_
  refine wpList_buildTo rfl 80 _ rfl (some 24) rfl #[.string ⟨#[97, 110, 100, 105]⟩, .int .u8 73, .int .u8 19, .int .u8 7, .int .u8 0] (by as_aux_lemma => kernel_rfl) ?_
  refine wpList_buildTo rfl 80 _ rfl (some 25) rfl #[.string ⟨#[115, 108, 108, 105]⟩, .int .u8 72, .int .u8 19, .int .u8 1, .int .u8 0] (by as_aux_lemma => kernel_rfl) ?_
  refine wpList_buildTo rfl 80 _ rfl (some 26) rfl #[.string ⟨#[115, 114, 108, 105]⟩, .int .u8 72, .int .u8 19, .int .u8 5, .int .u8 0] (by as_aux_lemma => kernel_rfl) ?_
  refine wpList_buildTo rfl 80 _ rfl (some 27) rfl #[.string ⟨#[115, 114, 97, 105]⟩, .int .u8 72, .int .u8 19, .int .u8 5, .int .u8 32] (by as_aux_lemma => kernel_rfl) ?_
  refine wpList_buildTo rfl 80 _ rfl (some 28) rfl #[.string ⟨#[97, 100, 100]⟩, .int .u8 82, .int .u8 51, .int .u8 0, .int .u8 0] (by as_aux_lemma => kernel_rfl) ?_
  refine wpList_buildTo rfl 80 _ rfl (some 29) rfl #[.string ⟨#[115, 117, 98]⟩, .int .u8 82, .int .u8 51, .int .u8 0, .int .u8 32] (by as_aux_lemma => kernel_rfl) ?_
  refine wpList_buildTo rfl 80 _ rfl (some 30) rfl #[.string ⟨#[115, 108, 108]⟩, .int .u8 82, .int .u8 51, .int .u8 1, .int .u8 0] (by as_aux_lemma => kernel_rfl) ?_
  refine wpList_buildTo rfl 80 _ rfl (some 31) rfl #[.string ⟨#[115, 108, 116]⟩, .int .u8 82, .int .u8 51, .int .u8 2, .int .u8 0] (by as_aux_lemma => kernel_rfl) ?_
  refine wpList_buildTo rfl 80 _ rfl (some 32) rfl #[.string ⟨#[115, 108, 116, 117]⟩, .int .u8 82, .int .u8 51, .int .u8 3, .int .u8 0] (by as_aux_lemma => kernel_rfl) ?_
  refine wpList_buildTo rfl 80 _ rfl (some 33) rfl #[.string ⟨#[120, 111, 114]⟩, .int .u8 82, .int .u8 51, .int .u8 4, .int .u8 0] (by as_aux_lemma => kernel_rfl) ?_
  refine wpList_buildTo rfl 80 _ rfl (some 34) rfl #[.string ⟨#[115, 114, 108]⟩, .int .u8 82, .int .u8 51, .int .u8 5, .int .u8 0] (by as_aux_lemma => kernel_rfl) ?_
  refine wpList_buildTo rfl 80 _ rfl (some 35) rfl #[.string ⟨#[115, 114, 97]⟩, .int .u8 82, .int .u8 51, .int .u8 5, .int .u8 32] (by as_aux_lemma => kernel_rfl) ?_
  refine wpList_buildTo rfl 80 _ rfl (some 36) rfl #[.string ⟨#[111, 114]⟩, .int .u8 82, .int .u8 51, .int .u8 6, .int .u8 0] (by as_aux_lemma => kernel_rfl) ?_
  refine wpList_buildTo rfl 80 _ rfl (some 37) rfl #[.string ⟨#[97, 110, 100]⟩, .int .u8 82, .int .u8 51, .int .u8 7, .int .u8 0] (by as_aux_lemma => kernel_rfl) ?_
  refine wpList_buildTo rfl 80 _ rfl (some 38) rfl #[.string ⟨#[109, 117, 108]⟩, .int .u8 82, .int .u8 51, .int .u8 0, .int .u8 1] (by as_aux_lemma => kernel_rfl) ?_
  refine wpList_buildTo rfl 80 _ rfl (some 39) rfl #[.string ⟨#[109, 117, 108, 104]⟩, .int .u8 82, .int .u8 51, .int .u8 1, .int .u8 1] (by as_aux_lemma => kernel_rfl) ?_
  refine wpList_buildTo rfl 80 _ rfl (some 40) rfl #[.string ⟨#[109, 117, 108, 104, 115, 117]⟩, .int .u8 82, .int .u8 51, .int .u8 2, .int .u8 1] (by as_aux_lemma => kernel_rfl) ?_
  refine wpList_buildTo rfl 80 _ rfl (some 41) rfl #[.string ⟨#[109, 117, 108, 104, 117]⟩, .int .u8 82, .int .u8 51, .int .u8 3, .int .u8 1] (by as_aux_lemma => kernel_rfl) ?_
  refine wpList_buildTo rfl 80 _ rfl (some 42) rfl #[.string ⟨#[100, 105, 118]⟩, .int .u8 82, .int .u8 51, .int .u8 4, .int .u8 1] (by as_aux_lemma => kernel_rfl) ?_
  refine wpList_buildTo rfl 80 _ rfl (some 43) rfl #[.string ⟨#[100, 105, 118, 117]⟩, .int .u8 82, .int .u8 51, .int .u8 5, .int .u8 1] (by as_aux_lemma => kernel_rfl) ?_
  refine wpList_buildTo rfl 80 _ rfl (some 44) rfl #[.string ⟨#[114, 101, 109]⟩, .int .u8 82, .int .u8 51, .int .u8 6, .int .u8 1] (by as_aux_lemma => kernel_rfl) ?_
  refine wpList_buildTo rfl 80 _ rfl (some 45) rfl #[.string ⟨#[114, 101, 109, 117]⟩, .int .u8 82, .int .u8 51, .int .u8 7, .int .u8 1] (by as_aux_lemma => kernel_rfl) ?_
  refine wpList_buildTo rfl 104 _ rfl (some 46) rfl codesArr (by as_aux_lemma => kernel_rfl) ?_
  refine wpList_store_row rfl 104 _ _ rfl w.heap.size codesArr (by as_aux_lemma => kernel_rfl) (by as_aux_lemma => kernel_rfl) 104 Tryz.zeroCells104 (heap_alloc_new _ _) cells73 (by as_aux_lemma => kernel_rfl) (by as_aux_lemma => kernel_rfl) ?_
  rw [World.setRow_alloc_new]
  apply wpList_nil
  refine hK1 _ _ ?_
  clear hK1
  refine wp_ret ?_
  refine bodyPost_ret (v := .agg codesArr) (results_cell_row rfl _ _ w.heap.size 104 codesArr (0, 0) _ (by as_aux_lemma => kernel_rfl) (heap_alloc_new _ _) Tryz.underlying104 rfl cells73) (by as_aux_lemma => kernel_rfl) ⟨rfl, (Grown.refl _).alloc _ _⟩
end Go.Proofs.YtlagdgkjpnocfaaGreatDoor
