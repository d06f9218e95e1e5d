/-
  Tables of types (layer 8): the first types.
-/
import Derived.Test.YtbhhmmfopammgaaKindA
import Derived.Laws.Rows
import Derived.Great.BuildSlice
import Derived.Laws.Tables
import Derived.Great.ByCallsLater
import Derived.Great.Frames
import Derived.Deep.WholeRow
import Derived.Test.YtbhhmmfopammgaaChecked
import Derived.Outline
import Derived.ProofKit
namespace Go.Proofs.Ytbhhmmfopammgaa
open Go.RowKit
set_option linter.unusedVariables false
set_option linter.unusedSimpArgs false
set_option maxRecDepth 1000000 in
set_option maxHeartbeats 4000000 in
theorem first_types (w : World) : Calls Try.prog 45 #[] w fun e w' => e = .returned (.agg types21) ∧ Fr (fun _ => False) w w' := by
  go_enter Try.func45, Try.ntmps45
  apply wp_seq_k; intro K0 hK0
  have HK := Lib.hid hK0
  clear hK0
  go_wp2
  refine HK.out _ _ ?_
  clear HK
  apply wp_seq_k; intro K1 hK1
  apply wp_region_lit
  refine wpList_buildTo rfl 38 _ rfl (some 1) rfl #[.int .i64 0, .int .i64 0, .int .i64 0, .string ⟨#[]⟩, .slice none 0 0] (by as_aux_lemma => kernel_rfl) ?_
  refine wpList_buildTo rfl 72 _ rfl (some 2) rfl #[.int .i64 0, .int .i64 0, .int .i64 0, .string ⟨#[]⟩, .slice none 0 0, .int .i64 0, .int .i64 0] (by as_aux_lemma => kernel_rfl) ?_
  refine wpList_buildTo rfl 38 _ rfl (some 3) rfl #[.int .i64 1, .int .i64 0, .int .i64 0, .string ⟨#[]⟩, .slice none 0 0] (by as_aux_lemma => kernel_rfl) ?_
  refine wpList_buildTo rfl 72 _ rfl (some 4) rfl #[.int .i64 1, .int .i64 0, .int .i64 0, .string ⟨#[]⟩, .slice none 0 0, .int .i64 4, .int .i64 4] (by as_aux_lemma => kernel_rfl) ?_
  refine wpList_buildTo rfl 38 _ rfl (some 5) rfl #[.int .i64 2, .int .i64 0, .int .i64 0, .string ⟨#[]⟩, .slice none 0 0] (by as_aux_lemma => kernel_rfl) ?_
  refine wpList_buildTo rfl 72 _ rfl (some 6) rfl #[.int .i64 2, .int .i64 0, .int .i64 0, .string ⟨#[]⟩, .slice none 0 0, .int .i64 1, .int .i64 1] (by as_aux_lemma => kernel_rfl) ?_
  refine wpList_buildTo rfl 84 _ rfl (some 7) rfl types21 (by as_aux_lemma => kernel_rfl) ?_
  refine wpList_store_row rfl 84 _ _ rfl w.heap.size types21 (by as_aux_lemma => kernel_rfl) (by as_aux_lemma => kernel_rfl) 84 _ (heap_alloc_new _ _) cells3 (by as_aux_lemma => kernel_rfl) (by as_aux_lemma => kernel_rfl) ?_
  rw [World.setRow_alloc_new]
  apply wpList_nil
  refine hK1 _ _ ?_
  clear hK1
  refine wp_ret ?_
  refine bodyPost_ret (v := .agg types21) (results_cell_row rfl _ _ w.heap.size 84 types21 (0, 0) _ (by as_aux_lemma => kernel_rfl) (heap_alloc_new _ _) Try.underlying84 rfl cells3) (by as_aux_lemma => kernel_rfl) ⟨rfl, fr_al (Fr.refl _ _) _⟩
end Go.Proofs.Ytbhhmmfopammgaa
