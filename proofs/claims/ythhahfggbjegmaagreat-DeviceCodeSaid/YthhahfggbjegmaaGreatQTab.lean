/-
  The table of the instructions as it lies in the program, row by row, and what the call that gives it returns. The contract of codeOf: the row of an instruction's number, the zero row where there is none. The contracts of the functions of the formats: which registers, which bits, which pieces, and a few of the document's own answers to them.
-/
import Derived.Test.YthhahfggbjegmaaGreatQShift
import Derived.Laws.Tables
import Derived.Great.BuildSlice
import Derived.Great.ByCallsLater
import Derived.Great.Frames
import Derived.Deep.WholeRow
import Derived.Deep.RegionHeld3
namespace Go.Proofs.YthhahfggbjegmaaGreat
open Go.RowKit
set_option linter.unusedVariables false
set_option linter.unusedSimpArgs false

/-- The names, as bytes. -/
def nmL : List ByteArray := [⟨#[]⟩, ⟨#[108, 117, 105]⟩, ⟨#[97, 117, 105, 112, 99]⟩, ⟨#[106, 97, 108]⟩, ⟨#[106, 97, 108, 114]⟩, ⟨#[98, 101, 113]⟩, ⟨#[98, 110, 101]⟩, ⟨#[98, 108, 116]⟩, ⟨#[98, 103, 101]⟩, ⟨#[98, 108, 116, 117]⟩, ⟨#[98, 103, 101, 117]⟩, ⟨#[108, 98]⟩, ⟨#[108, 104]⟩, ⟨#[108, 119]⟩, ⟨#[108, 98, 117]⟩, ⟨#[108, 104, 117]⟩, ⟨#[115, 98]⟩, ⟨#[115, 104]⟩, ⟨#[115, 119]⟩, ⟨#[97, 100, 100, 105]⟩, ⟨#[115, 108, 116, 105]⟩, ⟨#[115, 108, 116, 105, 117]⟩, ⟨#[120, 111, 114, 105]⟩, ⟨#[111, 114, 105]⟩, ⟨#[97, 110, 100, 105]⟩, ⟨#[115, 108, 108, 105]⟩, ⟨#[115, 114, 108, 105]⟩, ⟨#[115, 114, 97, 105]⟩, ⟨#[97, 100, 100]⟩, ⟨#[115, 117, 98]⟩, ⟨#[115, 108, 108]⟩, ⟨#[115, 108, 116]⟩, ⟨#[115, 108, 116, 117]⟩, ⟨#[120, 111, 114]⟩, ⟨#[115, 114, 108]⟩, ⟨#[115, 114, 97]⟩, ⟨#[111, 114]⟩, ⟨#[97, 110, 100]⟩, ⟨#[109, 117, 108]⟩, ⟨#[109, 117, 108, 104]⟩, ⟨#[109, 117, 108, 104, 115, 117]⟩, ⟨#[109, 117, 108, 104, 117]⟩, ⟨#[100, 105, 118]⟩, ⟨#[100, 105, 118, 117]⟩, ⟨#[114, 101, 109]⟩, ⟨#[114, 101, 109, 117]⟩]
/-- The formats. -/
def fmL : List Int := [0, 85, 85, 74, 73, 66, 66, 66, 66, 66, 66, 73, 73, 73, 73, 73, 83, 83, 83, 73, 73, 73, 73, 73, 73, 72, 72, 72, 82, 82, 82, 82, 82, 82, 82, 82, 82, 82, 82, 82, 82, 82, 82, 82, 82, 82]
/-- The opcodes. -/
def ocL : List Int := [0, 55, 23, 111, 103, 99, 99, 99, 99, 99, 99, 3, 3, 3, 3, 3, 35, 35, 35, 19, 19, 19, 19, 19, 19, 19, 19, 19, 51, 51, 51, 51, 51, 51, 51, 51, 51, 51, 51, 51, 51, 51, 51, 51, 51, 51]
/-- The funct3. -/
def f3L : List Int := [0, 0, 0, 0, 0, 0, 1, 4, 5, 6, 7, 0, 1, 2, 4, 5, 0, 1, 2, 0, 2, 3, 4, 6, 7, 1, 5, 5, 0, 0, 1, 2, 3, 4, 5, 5, 6, 7, 0, 1, 2, 3, 4, 5, 6, 7]
/-- The funct7. -/
def f7L : List Int := [0, 0, 0, 0, 0, 0, 0, 0, 0, 0, 0, 0, 0, 0, 0, 0, 0, 0, 0, 0, 0, 0, 0, 0, 0, 0, 0, 32, 0, 32, 0, 0, 0, 0, 0, 32, 0, 0, 1, 1, 1, 1, 1, 1, 1, 1]
def codesArr : Array Value := #[.string ⟨#[]⟩, .int .u8 0, .int .u8 0, .int .u8 0, .int .u8 0, .string ⟨#[108, 117, 105]⟩, .int .u8 85, .int .u8 55, .int .u8 0, .int .u8 0, .string ⟨#[97, 117, 105, 112, 99]⟩, .int .u8 85, .int .u8 23, .int .u8 0, .int .u8 0, .string ⟨#[106, 97, 108]⟩, .int .u8 74, .int .u8 111, .int .u8 0, .int .u8 0, .string ⟨#[106, 97, 108, 114]⟩, .int .u8 73, .int .u8 103, .int .u8 0, .int .u8 0, .string ⟨#[98, 101, 113]⟩, .int .u8 66, .int .u8 99, .int .u8 0, .int .u8 0, .string ⟨#[98, 110, 101]⟩, .int .u8 66, .int .u8 99, .int .u8 1, .int .u8 0, .string ⟨#[98, 108, 116]⟩, .int .u8 66, .int .u8 99, .int .u8 4, .int .u8 0, .string ⟨#[98, 103, 101]⟩, .int .u8 66, .int .u8 99, .int .u8 5, .int .u8 0, .string ⟨#[98, 108, 116, 117]⟩, .int .u8 66, .int .u8 99, .int .u8 6, .int .u8 0, .string ⟨#[98, 103, 101, 117]⟩, .int .u8 66, .int .u8 99, .int .u8 7, .int .u8 0, .string ⟨#[108, 98]⟩, .int .u8 73, .int .u8 3, .int .u8 0, .int .u8 0, .string ⟨#[108, 104]⟩, .int .u8 73, .int .u8 3, .int .u8 1, .int .u8 0, .string ⟨#[108, 119]⟩, .int .u8 73, .int .u8 3, .int .u8 2, .int .u8 0, .string ⟨#[108, 98, 117]⟩, .int .u8 73, .int .u8 3, .int .u8 4, .int .u8 0, .string ⟨#[108, 104, 117]⟩, .int .u8 73, .int .u8 3, .int .u8 5, .int .u8 0, .string ⟨#[115, 98]⟩, .int .u8 83, .int .u8 35, .int .u8 0, .int .u8 0, .string ⟨#[115, 104]⟩, .int .u8 83, .int .u8 35, .int .u8 1, .int .u8 0, .string ⟨#[115, 119]⟩, .int .u8 83, .int .u8 35, .int .u8 2, .int .u8 0, .string ⟨#[97, 100, 100, 105]⟩, .int .u8 73, .int .u8 19, .int .u8 0, .int .u8 0, .string ⟨#[115, 108, 116, 105]⟩, .int .u8 73, .int .u8 19, .int .u8 2, .int .u8 0, .string ⟨#[115, 108, 116, 105, 117]⟩, .int .u8 73, .int .u8 19, .int .u8 3, .int .u8 0, .string ⟨#[120, 111, 114, 105]⟩, .int .u8 73, .int .u8 19, .int .u8 4, .int .u8 0, .string ⟨#[111, 114, 105]⟩, .int .u8 73, .int .u8 19, .int .u8 6, .int .u8 0, .string ⟨#[97, 110, 100, 105]⟩, .int .u8 73, .int .u8 19, .int .u8 7, .int .u8 0, .string ⟨#[115, 108, 108, 105]⟩, .int .u8 72, .int .u8 19, .int .u8 1, .int .u8 0, .string ⟨#[115, 114, 108, 105]⟩, .int .u8 72, .int .u8 19, .int .u8 5, .int .u8 0, .string ⟨#[115, 114, 97, 105]⟩, .int .u8 72, .int .u8 19, .int .u8 5, .int .u8 32, .string ⟨#[97, 100, 100]⟩, .int .u8 82, .int .u8 51, .int .u8 0, .int .u8 0, .string ⟨#[115, 117, 98]⟩, .int .u8 82, .int .u8 51, .int .u8 0, .int .u8 32, .string ⟨#[115, 108, 108]⟩, .int .u8 82, .int .u8 51, .int .u8 1, .int .u8 0, .string ⟨#[115, 108, 116]⟩, .int .u8 82, .int .u8 51, .int .u8 2, .int .u8 0, .string ⟨#[115, 108, 116, 117]⟩, .int .u8 82, .int .u8 51, .int .u8 3, .int .u8 0, .string ⟨#[120, 111, 114]⟩, .int .u8 82, .int .u8 51, .int .u8 4, .int .u8 0, .string ⟨#[115, 114, 108]⟩, .int .u8 82, .int .u8 51, .int .u8 5, .int .u8 0, .string ⟨#[115, 114, 97]⟩, .int .u8 82, .int .u8 51, .int .u8 5, .int .u8 32, .string ⟨#[111, 114]⟩, .int .u8 82, .int .u8 51, .int .u8 6, .int .u8 0, .string ⟨#[97, 110, 100]⟩, .int .u8 82, .int .u8 51, .int .u8 7, .int .u8 0, .string ⟨#[109, 117, 108]⟩, .int .u8 82, .int .u8 51, .int .u8 0, .int .u8 1, .string ⟨#[109, 117, 108, 104]⟩, .int .u8 82, .int .u8 51, .int .u8 1, .int .u8 1, .string ⟨#[109, 117, 108, 104, 115, 117]⟩, .int .u8 82, .int .u8 51, .int .u8 2, .int .u8 1, .string ⟨#[109, 117, 108, 104, 117]⟩, .int .u8 82, .int .u8 51, .int .u8 3, .int .u8 1, .string ⟨#[100, 105, 118]⟩, .int .u8 82, .int .u8 51, .int .u8 4, .int .u8 1, .string ⟨#[100, 105, 118, 117]⟩, .int .u8 82, .int .u8 51, .int .u8 5, .int .u8 1, .string ⟨#[114, 101, 109]⟩, .int .u8 82, .int .u8 51, .int .u8 6, .int .u8 1, .string ⟨#[114, 101, 109, 117]⟩, .int .u8 82, .int .u8 51, .int .u8 7, .int .u8 1]

theorem cells73 : (Tryz.prog.info? 99).map (·.size) = some codesArr.size := by kernel_rfl
set_option maxRecDepth 1000000 in
set_option maxHeartbeats 4000000 in
theorem c79 (w : World) :
    Calls Tryz.prog 79 #[] w fun e w' => e = .returned (.agg codesArr) ∧ Grown w w' := by
  go_enter Tryz.func79, Tryz.ntmps79
  apply wp_seq_k; intro K0 hK0
  have HK := Lib.hid hK0
  clear hK0
  go_wp2
  refine HK.out _ _ ?_
  clear HK
  apply wp_seq_k; intro K1 hK1
  apply wp_region_lit
  refine wpList_buildTo rfl 98 _ rfl (some 1) rfl #[.string ⟨#[108, 117, 105]⟩, .int .u8 85, .int .u8 55, .int .u8 0, .int .u8 0] (by as_aux_lemma => kernel_rfl) ?_
  refine wpList_buildTo rfl 98 _ rfl (some 2) rfl #[.string ⟨#[97, 117, 105, 112, 99]⟩, .int .u8 85, .int .u8 23, .int .u8 0, .int .u8 0] (by as_aux_lemma => kernel_rfl) ?_
  refine wpList_buildTo rfl 98 _ rfl (some 3) rfl #[.string ⟨#[106, 97, 108]⟩, .int .u8 74, .int .u8 111, .int .u8 0, .int .u8 0] (by as_aux_lemma => kernel_rfl) ?_
  refine wpList_buildTo rfl 98 _ rfl (some 4) rfl #[.string ⟨#[106, 97, 108, 114]⟩, .int .u8 73, .int .u8 103, .int .u8 0, .int .u8 0] (by as_aux_lemma => kernel_rfl) ?_
  refine wpList_buildTo rfl 98 _ rfl (some 5) rfl #[.string ⟨#[98, 101, 113]⟩, .int .u8 66, .int .u8 99, .int .u8 0, .int .u8 0] (by as_aux_lemma => kernel_rfl) ?_
  refine wpList_buildTo rfl 98 _ rfl (some 6) rfl #[.string ⟨#[98, 110, 101]⟩, .int .u8 66, .int .u8 99, .int .u8 1, .int .u8 0] (by as_aux_lemma => kernel_rfl) ?_
  refine wpList_buildTo rfl 98 _ rfl (some 7) rfl #[.string ⟨#[98, 108, 116]⟩, .int .u8 66, .int .u8 99, .int .u8 4, .int .u8 0] (by as_aux_lemma => kernel_rfl) ?_
  refine wpList_buildTo rfl 98 _ rfl (some 8) rfl #[.string ⟨#[98, 103, 101]⟩, .int .u8 66, .int .u8 99, .int .u8 5, .int .u8 0] (by as_aux_lemma => kernel_rfl) ?_
  refine wpList_buildTo rfl 98 _ rfl (some 9) rfl #[.string ⟨#[98, 108, 116, 117]⟩, .int .u8 66, .int .u8 99, .int .u8 6, .int .u8 0] (by as_aux_lemma => kernel_rfl) ?_
  refine wpList_buildTo rfl 98 _ rfl (some 10) rfl #[.string ⟨#[98, 103, 101, 117]⟩, .int .u8 66, .int .u8 99, .int .u8 7, .int .u8 0] (by as_aux_lemma => kernel_rfl) ?_
  refine wpList_buildTo rfl 98 _ rfl (some 11) rfl #[.string ⟨#[108, 98]⟩, .int .u8 73, .int .u8 3, .int .u8 0, .int .u8 0] (by as_aux_lemma => kernel_rfl) ?_
  refine wpList_buildTo rfl 98 _ rfl (some 12) rfl #[.string ⟨#[108, 104]⟩, .int .u8 73, .int .u8 3, .int .u8 1, .int .u8 0] (by as_aux_lemma => kernel_rfl) ?_
  refine wpList_buildTo rfl 98 _ rfl (some 13) rfl #[.string ⟨#[108, 119]⟩, .int .u8 73, .int .u8 3, .int .u8 2, .int .u8 0] (by as_aux_lemma => kernel_rfl) ?_
  refine wpList_buildTo rfl 98 _ rfl (some 14) rfl #[.string ⟨#[108, 98, 117]⟩, .int .u8 73, .int .u8 3, .int .u8 4, .int .u8 0] (by as_aux_lemma => kernel_rfl) ?_
  refine wpList_buildTo rfl 98 _ rfl (some 15) rfl #[.string ⟨#[108, 104, 117]⟩, .int .u8 73, .int .u8 3, .int .u8 5, .int .u8 0] (by as_aux_lemma => kernel_rfl) ?_
  refine wpList_buildTo rfl 98 _ rfl (some 16) rfl #[.string ⟨#[115, 98]⟩, .int .u8 83, .int .u8 35, .int .u8 0, .int .u8 0] (by as_aux_lemma => kernel_rfl) ?_
  refine wpList_buildTo rfl 98 _ rfl (some 17) rfl #[.string ⟨#[115, 104]⟩, .int .u8 83, .int .u8 35, .int .u8 1, .int .u8 0] (by as_aux_lemma => kernel_rfl) ?_
  refine wpList_buildTo rfl 98 _ rfl (some 18) rfl #[.string ⟨#[115, 119]⟩, .int .u8 83, .int .u8 35, .int .u8 2, .int .u8 0] (by as_aux_lemma => kernel_rfl) ?_
  refine wpList_buildTo rfl 98 _ rfl (some 19) rfl #[.string ⟨#[97, 100, 100, 105]⟩, .int .u8 73, .int .u8 19, .int .u8 0, .int .u8 0] (by as_aux_lemma => kernel_rfl) ?_
  refine wpList_buildTo rfl 98 _ rfl (some 20) rfl #[.string ⟨#[115, 108, 116, 105]⟩, .int .u8 73, .int .u8 19, .int .u8 2, .int .u8 0] (by as_aux_lemma => kernel_rfl) ?_
  refine wpList_buildTo rfl 98 _ rfl (some 21) rfl #[.string ⟨#[115, 108, 116, 105, 117]⟩, .int .u8 73, .int .u8 19, .int .u8 3, .int .u8 0] (by as_aux_lemma => kernel_rfl) ?_
  refine wpList_buildTo rfl 98 _ rfl (some 22) rfl #[.string ⟨#[120, 111, 114, 105]⟩, .int .u8 73, .int .u8 19, .int .u8 4, .int .u8 0] (by as_aux_lemma => kernel_rfl) ?_
  refine wpList_buildTo rfl 98 _ rfl (some 23) rfl #[.string ⟨#[111, 114, 105]⟩, .int .u8 73, .int .u8 19, .int .u8 6, .int .u8 0] (by as_aux_lemma => kernel_rfl) ?_
  refine wpList_buildTo rfl 98 _ rfl (some 24) rfl #[.string ⟨#[97, 110, 100, 105]⟩, .int .u8 73, .int .u8 19, .int .u8 7, .int .u8 0] (by as_aux_lemma => kernel_rfl) ?_
  refine wpList_buildTo rfl 98 _ rfl (some 25) rfl #[.string ⟨#[115, 108, 108, 105]⟩, .int .u8 72, .int .u8 19, .int .u8 1, .int .u8 0] (by as_aux_lemma => kernel_rfl) ?_
  refine wpList_buildTo rfl 98 _ rfl (some 26) rfl #[.string ⟨#[115, 114, 108, 105]⟩, .int .u8 72, .int .u8 19, .int .u8 5, .int .u8 0] (by as_aux_lemma => kernel_rfl) ?_
  refine wpList_buildTo rfl 98 _ rfl (some 27) rfl #[.string ⟨#[115, 114, 97, 105]⟩, .int .u8 72, .int .u8 19, .int .u8 5, .int .u8 32] (by as_aux_lemma => kernel_rfl) ?_
  refine wpList_buildTo rfl 98 _ rfl (some 28) rfl #[.string ⟨#[97, 100, 100]⟩, .int .u8 82, .int .u8 51, .int .u8 0, .int .u8 0] (by as_aux_lemma => kernel_rfl) ?_
  refine wpList_buildTo rfl 98 _ rfl (some 29) rfl #[.string ⟨#[115, 117, 98]⟩, .int .u8 82, .int .u8 51, .int .u8 0, .int .u8 32] (by as_aux_lemma => kernel_rfl) ?_
  refine wpList_buildTo rfl 98 _ rfl (some 30) rfl #[.string ⟨#[115, 108, 108]⟩, .int .u8 82, .int .u8 51, .int .u8 1, .int .u8 0] (by as_aux_lemma => kernel_rfl) ?_
  refine wpList_buildTo rfl 98 _ rfl (some 31) rfl #[.string ⟨#[115, 108, 116]⟩, .int .u8 82, .int .u8 51, .int .u8 2, .int .u8 0] (by as_aux_lemma => kernel_rfl) ?_
  refine wpList_buildTo rfl 98 _ rfl (some 32) rfl #[.string ⟨#[115, 108, 116, 117]⟩, .int .u8 82, .int .u8 51, .int .u8 3, .int .u8 0] (by as_aux_lemma => kernel_rfl) ?_
  refine wpList_buildTo rfl 98 _ rfl (some 33) rfl #[.string ⟨#[120, 111, 114]⟩, .int .u8 82, .int .u8 51, .int .u8 4, .int .u8 0] (by as_aux_lemma => kernel_rfl) ?_
  refine wpList_buildTo rfl 98 _ rfl (some 34) rfl #[.string ⟨#[115, 114, 108]⟩, .int .u8 82, .int .u8 51, .int .u8 5, .int .u8 0] (by as_aux_lemma => kernel_rfl) ?_
  refine wpList_buildTo rfl 98 _ rfl (some 35) rfl #[.string ⟨#[115, 114, 97]⟩, .int .u8 82, .int .u8 51, .int .u8 5, .int .u8 32] (by as_aux_lemma => kernel_rfl) ?_
  refine wpList_buildTo rfl 98 _ rfl (some 36) rfl #[.string ⟨#[111, 114]⟩, .int .u8 82, .int .u8 51, .int .u8 6, .int .u8 0] (by as_aux_lemma => kernel_rfl) ?_
  refine wpList_buildTo rfl 98 _ rfl (some 37) rfl #[.string ⟨#[97, 110, 100]⟩, .int .u8 82, .int .u8 51, .int .u8 7, .int .u8 0] (by as_aux_lemma => kernel_rfl) ?_
  refine wpList_buildTo rfl 98 _ rfl (some 38) rfl #[.string ⟨#[109, 117, 108]⟩, .int .u8 82, .int .u8 51, .int .u8 0, .int .u8 1] (by as_aux_lemma => kernel_rfl) ?_
  refine wpList_buildTo rfl 98 _ rfl (some 39) rfl #[.string ⟨#[109, 117, 108, 104]⟩, .int .u8 82, .int .u8 51, .int .u8 1, .int .u8 1] (by as_aux_lemma => kernel_rfl) ?_
  refine wpList_buildTo rfl 98 _ rfl (some 40) rfl #[.string ⟨#[109, 117, 108, 104, 115, 117]⟩, .int .u8 82, .int .u8 51, .int .u8 2, .int .u8 1] (by as_aux_lemma => kernel_rfl) ?_
  refine wpList_buildTo rfl 98 _ rfl (some 41) rfl #[.string ⟨#[109, 117, 108, 104, 117]⟩, .int .u8 82, .int .u8 51, .int .u8 3, .int .u8 1] (by as_aux_lemma => kernel_rfl) ?_
  refine wpList_buildTo rfl 98 _ rfl (some 42) rfl #[.string ⟨#[100, 105, 118]⟩, .int .u8 82, .int .u8 51, .int .u8 4, .int .u8 1] (by as_aux_lemma => kernel_rfl) ?_
  refine wpList_buildTo rfl 98 _ rfl (some 43) rfl #[.string ⟨#[100, 105, 118, 117]⟩, .int .u8 82, .int .u8 51, .int .u8 5, .int .u8 1] (by as_aux_lemma => kernel_rfl) ?_
  refine wpList_buildTo rfl 98 _ rfl (some 44) rfl #[.string ⟨#[114, 101, 109]⟩, .int .u8 82, .int .u8 51, .int .u8 6, .int .u8 1] (by as_aux_lemma => kernel_rfl) ?_
  refine wpList_buildTo rfl 98 _ rfl (some 45) rfl #[.string ⟨#[114, 101, 109, 117]⟩, .int .u8 82, .int .u8 51, .int .u8 7, .int .u8 1] (by as_aux_lemma => kernel_rfl) ?_
  refine wpList_buildTo rfl 99 _ rfl (some 46) rfl codesArr (by as_aux_lemma => kernel_rfl) ?_
  refine wpList_store_row rfl 99 _ _ rfl w.heap.size codesArr (by as_aux_lemma => kernel_rfl) (by as_aux_lemma => kernel_rfl) 99 Tryz.zeroCells99 (heap_alloc_new _ _) cells73 (by as_aux_lemma => kernel_rfl) (by as_aux_lemma => kernel_rfl) ?_
  rw [World.setRow_alloc_new]
  apply wpList_nil
  refine hK1 _ _ ?_
  clear hK1
  refine wp_ret ?_
  refine bodyPost_ret (v := .agg codesArr) (results_cell_row rfl _ _ w.heap.size 99 codesArr (0, 0) _ (by as_aux_lemma => kernel_rfl) (heap_alloc_new _ _) Tryz.underlying99 rfl cells73) (by as_aux_lemma => kernel_rfl) ⟨rfl, (Grown.refl _).alloc _ _⟩

theorem grown_cell {w w' : World} (h : Grown w w') {b o : Nat} {v : Value} (hc : w.cell? ⟨b, o, none⟩ = some v) : w'.cell? ⟨b, o, none⟩ = some v := by
  have hb : b < w.heap.size := block_lt_of_cell hc
  have h3 := h.1.2.2 b hb
  simp only [World.cell?] at hc ⊢
  cases h1 : w.heap[b]? with
  | none => simp [h1] at hc
  | some o1 =>
    rw [h1] at h3 hc
    cases o1 with
    | cells c t fr =>
      cases h2 : w'.heap[b]? with
      | none => rw [h2] at h3; simp at h3
      | some o2 =>
        rw [h2] at h3
        cases o2 with
        | cells c' t' fr' =>
          simp at h3 hc ⊢
          rw [h3.2.2.2]; exact hc
        | _ => simp at h3
    | _ => simp at hc
theorem grown_size {w w' : World} (h : Grown w w') {n : Nat} (hn : n < w.heap.size) : n < w'.heap.size := Nat.lt_of_lt_of_le hn h.2.2

def nm (k : Nat) : ByteArray := nmL.getD k ⟨#[]⟩
def fm (k : Nat) : Int := fmL.getD k 0
def oc (k : Nat) : Int := ocL.getD k 0
def f3 (k : Nat) : Int := f3L.getD k 0
def f7 (k : Nat) : Int := f7L.getD k 0
def ix (op : Int) : Nat := if 0 ≤ op ∧ op < 46 then op.toNat else 0
def rowCells (k : Nat) : Array Value := #[.string (nm k), .int .u8 (fm k), .int .u8 (oc k), .int .u8 (f3 k), .int .u8 (f7 k)]

set_option maxRecDepth 1000000 in
theorem codes_at (k : Nat) (h : k < 46) : codesArr[k * 5]? = some (.string (nm k)) ∧ codesArr[k * 5 + 1]? = some (.int .u8 (fm k)) ∧ codesArr[k * 5 + 2]? = some (.int .u8 (oc k)) ∧ codesArr[k * 5 + 3]? = some (.int .u8 (f3 k)) ∧ codesArr[k * 5 + 4]? = some (.int .u8 (f7 k)) := by
  have : ∀ k : Fin 46, codesArr[k.val * 5]? = some (.string (nm k)) ∧ codesArr[k.val * 5 + 1]? = some (.int .u8 (fm k)) ∧ codesArr[k.val * 5 + 2]? = some (.int .u8 (oc k)) ∧ codesArr[k.val * 5 + 3]? = some (.int .u8 (f3 k)) ∧ codesArr[k.val * 5 + 4]? = some (.int .u8 (f7 k)) := by
    intro ⟨k, hk⟩
    match k, hk with
    | 0, _ | 1, _ | 2, _ | 3, _ | 4, _ | 5, _ | 6, _ | 7, _ | 8, _ | 9, _ | 10, _ | 11, _ | 12, _ | 13, _ | 14, _ | 15, _ | 16, _ | 17, _ | 18, _ | 19, _ | 20, _ | 21, _ | 22, _ | 23, _ | 24, _ | 25, _ | 26, _ | 27, _ | 28, _ | 29, _ | 30, _ | 31, _ | 32, _ | 33, _ | 34, _ | 35, _ | 36, _ | 37, _ | 38, _ | 39, _ | 40, _ | 41, _ | 42, _ | 43, _ | 44, _ | 45, _ => exact ⟨rfl, rfl, rfl, rfl, rfl⟩
    | n + 46, hn => exact absurd hn (by omega)
  exact this ⟨k, h⟩

set_option maxRecDepth 1000000 in
theorem codes_cell (w : World) (k : Nat) (h : k < 46) : (w.alloc (.cells codesArr 99)).cell? ⟨w.heap.size, k * 5, none⟩ = some (.string (nm k)) ∧ (w.alloc (.cells codesArr 99)).cell? ⟨w.heap.size, k * 5 + 1, none⟩ = some (.int .u8 (fm k)) ∧ (w.alloc (.cells codesArr 99)).cell? ⟨w.heap.size, k * 5 + 2, none⟩ = some (.int .u8 (oc k)) ∧ (w.alloc (.cells codesArr 99)).cell? ⟨w.heap.size, k * 5 + 3, none⟩ = some (.int .u8 (f3 k)) ∧ (w.alloc (.cells codesArr 99)).cell? ⟨w.heap.size, k * 5 + 4, none⟩ = some (.int .u8 (f7 k)) := by
  obtain ⟨a0, a1, a2, a3, a4⟩ := codes_at k h
  refine ⟨?_, ?_, ?_, ?_, ?_⟩
  all_goals (rw [cell_of_row _ _ _ codesArr 99 (0, 0) (heap_alloc_new _ _)]; assumption)
theorem row_cell (w : World) (cs : Array Value) (t : TypeId) (j : Nat) (v : Value) (h : cs[j]? = some v) : (w.alloc (.cells cs t)).cell? ⟨w.heap.size, j, none⟩ = some v := by
  rw [cell_of_row _ _ _ cs t (0, 0) (heap_alloc_new _ _)]; exact h
theorem new_frozen {w w' : World} {cs : Array Value} {t : TypeId} (h : Grown (w.alloc (.cells cs t)) w') (j : Nat) : w'.frozen? ⟨w.heap.size, j, none⟩ = false := by
  rw [h.2.1]; exact World.frozen?_alloc_at _ _ _ _ rfl
def zero58 : Array Value := #[.string ⟨#[]⟩, .int .u8 0, .int .u8 0, .int .u8 0, .int .u8 0]

set_option maxRecDepth 1000000 in
set_option maxHeartbeats 4000000 in
theorem c82_in (k : Nat) (hk : k < 46) (w : World) :
    Calls Tryz.prog 82 #[.int .i64 k] w fun e w' => e = .returned (.agg (rowCells k)) ∧ Grown w w' := by
  go_enter Tryz.func82, Tryz.ntmps82
  go_wp2_with (first
    | (go_at_call 79; (with_reducible refine (c79 _).mono ?_); rintro e w' ⟨rfl, hg⟩
       obtain ⟨m0, m1, m2, m3, m4⟩ := codes_cell w' k hk
       have hs : w.heap.size < w'.heap.size := Nat.lt_of_lt_of_le (by simp) hg.2.2
       have hs' : w.heap.size ≠ w'.heap.size := by omega
       have z0 := grown_cell hg (row_cell w zero58 98 0 _ rfl)
       have z1 := grown_cell hg (row_cell w zero58 98 1 _ rfl)
       have z2 := grown_cell hg (row_cell w zero58 98 2 _ rfl)
       have z3 := grown_cell hg (row_cell w zero58 98 3 _ rfl)
       have z4 := grown_cell hg (row_cell w zero58 98 4 _ rfl)
       have y0 := new_frozen hg 0
       have y1 := new_frozen hg 1
       have y2 := new_frozen hg 2
       have y3 := new_frozen hg 3
       have y4 := new_frozen hg 4
       have HG := Lib.hid hg; clear hg)
    | (refine wpList_store_row rfl 99 _ _ rfl _ codesArr rfl rfl 99 Tryz.zeroCells99 (heap_alloc_new _ _) cells73 (by as_aux_lemma => kernel_rfl) (by as_aux_lemma => kernel_rfl) ?_; rw [World.setRow_alloc_new]))
  refine bodyPost_ret (v := .agg (rowCells k)) (by simp [results, Tryz.results82, go_sem, rowCells, z0, z1, z2, z3, z4, hs]) rfl ⟨rfl, ?_⟩
  exact ((((((grown_trans ((Grown.refl w).alloc _ _) HG.out).setCell (Nat.le_refl _) _).setCell (Nat.le_refl _) _).setCell (Nat.le_refl _) _).setCell (Nat.le_refl _) _).setCell (Nat.le_refl _) _).alloc _ _
set_option maxRecDepth 1000000 in
set_option maxHeartbeats 4000000 in
theorem c82_out (op : Int) (hk : op < 0 ∨ 46 ≤ op) (w : World) :
    Calls Tryz.prog 82 #[.int .i64 op] w fun e w' => e = .returned (.agg (rowCells 0)) ∧ Grown w w' := by
  rcases hk with hk | hk
  all_goals
    go_enter Tryz.func82, Tryz.ntmps82
    go_wp2_with (first
      | (go_at_call 79; (with_reducible refine (c79 _).mono ?_); rintro e w' ⟨rfl, hg⟩
         have hs : w.heap.size < w'.heap.size := Nat.lt_of_lt_of_le (by simp) hg.2.2
         have hs' : w.heap.size ≠ w'.heap.size := by omega
         have z0 := grown_cell hg (row_cell w zero58 98 0 _ rfl)
         have z1 := grown_cell hg (row_cell w zero58 98 1 _ rfl)
         have z2 := grown_cell hg (row_cell w zero58 98 2 _ rfl)
         have z3 := grown_cell hg (row_cell w zero58 98 3 _ rfl)
         have z4 := grown_cell hg (row_cell w zero58 98 4 _ rfl)
         have y0 := new_frozen hg 0
         have y1 := new_frozen hg 1
         have y2 := new_frozen hg 2
         have y3 := new_frozen hg 3
         have y4 := new_frozen hg 4
         have HG := Lib.hid hg; clear hg)
      | (refine wpList_store_row rfl 99 _ _ rfl _ codesArr rfl rfl 99 Tryz.zeroCells99 (heap_alloc_new _ _) cells73 (by as_aux_lemma => kernel_rfl) (by as_aux_lemma => kernel_rfl) ?_; rw [World.setRow_alloc_new]))
    refine bodyPost_ret (v := .agg (rowCells 0)) (by simp [results, Tryz.results82, go_sem, rowCells, z0, z1, z2, z3, z4, hs]; exact ⟨rfl, rfl, rfl, rfl, rfl⟩) rfl ⟨rfl, ?_⟩
    exact ((((((grown_trans ((Grown.refl w).alloc _ _) HG.out).setCell (Nat.le_refl _) _).setCell (Nat.le_refl _) _).setCell (Nat.le_refl _) _).setCell (Nat.le_refl _) _).setCell (Nat.le_refl _) _).alloc _ _
theorem c82 (op : Int) (w : World) :
    Calls Tryz.prog 82 #[.int .i64 op] w fun e w' => e = .returned (.agg #[.string (nm (ix op)), .int .u8 (fm (ix op)), .int .u8 (oc (ix op)), .int .u8 (f3 (ix op)), .int .u8 (f7 (ix op))]) ∧ Grown w w' := by
  unfold ix
  by_cases h : 0 ≤ op ∧ op < 46
  · rw [if_pos h]
    have := c82_in op.toNat (by omega) w
    rw [show ((op.toNat : Nat) : Int) = op by omega] at this
    exact this
  · rw [if_neg h]
    exact c82_out op (by omega) w

theorem field0 (s a b c d : Value) (w : World) : (Instr.field 98 (.agg #[s, a, b, c, d]) 0).run Tryz.prog w = .ok s w := by kernel_rfl
theorem field1 (s a b c d : Value) (w : World) : (Instr.field 98 (.agg #[s, a, b, c, d]) 1).run Tryz.prog w = .ok a w := by kernel_rfl
theorem c50 (op : Int) (w : World) :
    Calls Tryz.prog 50 #[.int .i64 op] w fun e w' => e = .returned (.int .u8 (fm (ix op))) ∧ Grown w w' := by
  have hfi := field1
  go_enter Tryz.func50, Tryz.ntmps50
  go_wp2_with (go_at_call 82; (with_reducible refine (c82 _ _).mono ?_); rintro e w' ⟨rfl, hg⟩; have HG := Lib.hid hg; clear hg)
  go_ret
  exact ⟨rfl, HG.out⟩
/-- The format of an instruction's number. -/
def formF (x : Int) : Int := if x < 1 ∨ 45 < x then 0 else if x ≤ 2 then 85 else if x = 3 then 74 else if 5 ≤ x ∧ x ≤ 10 then 66 else if 16 ≤ x ∧ x ≤ 18 then 83 else if 25 ≤ x ∧ x ≤ 27 then 72 else if 28 ≤ x then 82 else 73
theorem fm_is : ∀ k : Nat, k < 46 → fm k = formF k := by decide
theorem ix_lt (op : Int) : ix op < 46 := by unfold ix; split <;> omega
theorem ix_in {op : Int} (h : 0 ≤ op ∧ op < 46) : (ix op : Int) = op := by unfold ix; rw [if_pos h]; omega
theorem ix_out {op : Int} (h : ¬ (0 ≤ op ∧ op < 46)) : ix op = 0 := by unfold ix; rw [if_neg h]
theorem fm_ix (op : Int) : fm (ix op) = formF op := by
  rw [fm_is _ (ix_lt op)]
  by_cases h : 0 ≤ op ∧ op < 46
  · rw [ix_in h]
  · rw [ix_out h]; unfold formF; rw [if_pos (by omega), if_pos (by omega)]
set_option maxHeartbeats 2000000 in
theorem c36 (op : Int) (w : World) :
    Calls Tryz.prog 36 #[.int .i64 op] w fun e w' => e = .returned (.int .u8 (fm (ix op))) ∧ w = w' := by
  have F := Lib.hid (fm_ix op)
  have hc : op < 1 ∨ 45 < op ∨ (1 ≤ op ∧ op ≤ 2) ∨ (3 ≤ op ∧ op ≤ 3) ∨ (4 ≤ op ∧ op ≤ 4) ∨ (5 ≤ op ∧ op ≤ 10) ∨ (11 ≤ op ∧ op ≤ 15) ∨ (16 ≤ op ∧ op ≤ 18) ∨ (19 ≤ op ∧ op ≤ 24) ∨ (25 ≤ op ∧ op ≤ 27) ∨ (28 ≤ op ∧ op ≤ 45) := by omega
  rcases hc with hc | hc | ⟨hc, hd⟩ | ⟨hc, hd⟩ | ⟨hc, hd⟩ | ⟨hc, hd⟩ | ⟨hc, hd⟩ | ⟨hc, hd⟩ | ⟨hc, hd⟩ | ⟨hc, hd⟩ | ⟨hc, hd⟩
  all_goals
    go_enter Tryz.func36, Tryz.ntmps36
    go_wp2
    all_goals go_ret
    all_goals
      refine ⟨ret_int ?_, rfl⟩
      rw [F.out]; unfold formF
      repeat' split
      all_goals first | rfl | (exfalso; omega)

theorem ret_bool {a b : Bool} (h : a = b) : Ending.returned (.bool a) = .returned (.bool b) := by rw [h]
/-- A format is one of the seven letters, or 0. -/
def isForm (f : Int) : Prop := f = 85 ∨ f = 74 ∨ f = 73 ∨ f = 72 ∨ f = 83 ∨ f = 66 ∨ f = 82 ∨ f = 0
theorem fm_form (op : Int) : isForm (fm (ix op)) := by
  rw [fm_ix]; unfold isForm formF
  repeat' split
  all_goals simp
theorem fm_form' (k : Nat) (h : k < 46) : isForm (fm k) := by
  rw [fm_is k h]; unfold isForm formF
  repeat' split
  all_goals simp
def uRd (f : Int) : Bool := f == 82 || f == 73 || f == 72 || f == 85 || f == 74
def uRs1 (f : Int) : Bool := f == 82 || f == 73 || f == 72 || f == 83 || f == 66
def uRs2 (f : Int) : Bool := f == 82 || f == 83 || f == 66
theorem c51 (f : Int) (hf : isForm f) (w : World) :
    Calls Tryz.prog 51 #[.int .u8 f] w fun e w' => e = .returned (.tuple #[.bool (uRd f), .bool (uRs1 f), .bool (uRs2 f)]) ∧ w = w' := by
  rcases hf with rfl | rfl | rfl | rfl | rfl | rfl | rfl | rfl
  all_goals
    go_enter Tryz.func51, Tryz.ntmps51
    go_wp2
    go_ret3
    exact ⟨rfl, rfl⟩
def maskF (f : Int) : Int := if f = 82 ∨ f = 72 then 4261412864 + 28672 + 127 else if f = 73 ∨ f = 83 ∨ f = 66 then 28672 + 127 else if f = 85 ∨ f = 74 then 127 else 0
theorem c80 (f : Int) (hf : isForm f) (w : World) :
    Calls Tryz.prog 80 #[.int .u8 f] w fun e w' => e = .returned (.int .u32 (maskF f)) ∧ w = w' := by
  rcases hf with rfl | rfl | rfl | rfl | rfl | rfl | rfl | rfl
  all_goals
    go_enter Tryz.func80, Tryz.ntmps80
    go_wp2
    go_ret
    exact ⟨ret_int (by decide), rfl⟩
def immB (f : Int) : Int := if f = 74 then 21 else if f = 66 then 13 else if f = 73 ∨ f = 83 then 12 else 32
theorem c86 (f : Int) (hf : isForm f) (w : World) :
    Calls Tryz.prog 86 #[.int .u8 f] w fun e w' => e = .returned (.int .i64 (immB f)) ∧ w = w' := by
  rcases hf with rfl | rfl | rfl | rfl | rfl | rfl | rfl | rfl
  all_goals
    go_enter Tryz.func86, Tryz.ntmps86
    go_wp2
    go_ret
    exact ⟨ret_int (by simp [immB]), rfl⟩
/-- Whether a register's number may stand in a field that is used or not. -/
def regB (n : Int) (u : Bool) : Bool := if u then decide (0 ≤ n ∧ n < 32) else decide (n = 0)
def regV (x at_ : Int) (u : Bool) : Int := if u then x / 2 ^ at_.toNat % 32 else 0
theorem c52 (x p : Int) (u : Bool) (h0 : 0 ≤ x) (h1 : x ≤ 4294967295) (hp : p = 7 ∨ p = 15 ∨ p = 20) (w : World) :
    Calls Tryz.prog 52 #[.int .u32 x, .int .i64 p, .bool u] w fun e w' => e = .returned (.int .i64 (regV x p u)) ∧ w = w' := by
  rcases hp with rfl | rfl | rfl <;> cases u
  all_goals
    go_enter Tryz.func52, Tryz.ntmps52
    go_wp2
    go_ret
    exact ⟨ret_int (by simp [regV]), rfl⟩
theorem mask_val {b : Int} (h0 : 0 ≤ b) (h1 : b ≤ 31) : ((2 : Int) ^ b.toNat % 4294967296 - 1) % 4294967296 = 2 ^ b.toNat - 1 := by
  have p := one_le_pow2 b.toNat
  have q : (2 : Int) ^ b.toNat ≤ 2147483648 := by
    have := pw_hi (b := b) h0
    unfold pw at this
    rw [show b % 32 = b by omega] at this
    exact this
  omega
theorem c84 (a b c : Int) (hb0 : 0 ≤ b) (hb : b ≤ 31) (w : World) :
    Calls Tryz.prog 84 #[.agg #[.int .i64 a, .int .i64 b, .int .i64 c]] w fun e w' => e = .returned (.int .u32 (2 ^ b.toNat - 1)) ∧ Grown w w' := by
  have H := Lib.hid (mask_val hb0 hb)
  go_enter Tryz.func84, Tryz.ntmps84
  go_wp2
  go_ret
  exact ⟨ret_int H.out, (Grown.refl _).alloc _ _⟩
/-- An or of bits that do not meet is a sum. -/
theorem nat_or_field (x f k c : Nat) (hx : x / 2 ^ k % 2 ^ c = 0) (hf : f < 2 ^ c) : x ||| f * 2 ^ k = x + f * 2 ^ k := by
  have e1 : x = 2 ^ k * (x / 2 ^ k) + x % 2 ^ k := (Nat.div_add_mod x (2 ^ k)).symm
  have e2 : x / 2 ^ k = 2 ^ c * (x / 2 ^ k / 2 ^ c) := by have := Nat.div_add_mod (x / 2 ^ k) (2 ^ c); omega
  have l : x % 2 ^ k < 2 ^ k := Nat.mod_lt _ (Nat.two_pow_pos k)
  generalize x / 2 ^ k / 2 ^ c = h at e2
  generalize x % 2 ^ k = lo at *
  rw [e2] at e1
  have e3 : x ||| f * 2 ^ k = (2 ^ k * (2 ^ c * h + f)) ||| lo := by
    rw [e1, Nat.two_pow_add_eq_or_of_lt l, Nat.or_assoc, Nat.or_comm lo, ← Nat.or_assoc, Nat.two_pow_add_eq_or_of_lt hf]
    congr 1
    rw [Nat.mul_comm (2 ^ k), Nat.mul_comm (2 ^ k), ← Nat.shiftLeft_eq, ← Nat.shiftLeft_eq, ← Nat.shiftLeft_eq, Nat.shiftLeft_or_distrib]
  rw [e3, ← Nat.two_pow_add_eq_or_of_lt l, e1, Nat.mul_add, Nat.mul_comm f]
  omega
theorem or_field {x f : Int} (k c : Nat) (h0 : 0 ≤ x) (h1 : x < 4294967296) (g0 : 0 ≤ f) (hx : x / 2 ^ k % 2 ^ c = 0) (hf : f < 2 ^ c) (hk : k + c ≤ 32) : bits .or .u32 x (f * 2 ^ k) = x + f * 2 ^ k := by
  obtain ⟨X, rfl⟩ : ∃ n : Nat, x = n := ⟨x.toNat, by omega⟩
  obtain ⟨F, rfl⟩ : ∃ n : Nat, f = n := ⟨f.toNat, by omega⟩
  have hf' : F < 2 ^ c := by exact_mod_cast hf
  have hlt : F * 2 ^ k < 4294967296 := by
    have a1 : F * 2 ^ k < 2 ^ c * 2 ^ k := Nat.mul_lt_mul_of_pos_right hf' (Nat.two_pow_pos k)
    rw [← Nat.pow_add] at a1
    have a2 : 2 ^ (c + k) ≤ 2 ^ 32 := Nat.pow_le_pow_right (by omega) (by omega)
    omega
  have hx' : X / 2 ^ k % 2 ^ c = 0 := by exact_mod_cast hx
  have e := u32_or_nat X (F * 2 ^ k) (by omega) hlt
  rw [nat_or_field X F k c hx' hf'] at e
  simpa using e
theorem and_mask {x : Int} (c : Nat) (h0 : 0 ≤ x) (h1 : x < 4294967296) (hc : c ≤ 31) : bits .and .u32 x (2 ^ c - 1) = x % 2 ^ c := by
  obtain ⟨X, rfl⟩ : ∃ n : Nat, x = n := ⟨x.toNat, by omega⟩
  have p : 1 ≤ 2 ^ c := Nat.one_le_two_pow
  have q : 2 ^ c ≤ 2 ^ 31 := Nat.pow_le_pow_right (by omega) hc
  have e : ((2 : Int) ^ c - 1) = ((2 ^ c - 1 : Nat) : Int) := by
    rw [Int.natCast_sub p]; simp
  rw [e, u32_and_nat X (2 ^ c - 1) (by omega) (by omega), Nat.and_two_pow_sub_one_eq_mod]
  simp
end Go.Proofs.YthhahfggbjegmaaGreat
