/-
  Modules (layer 13): the order of a region of the document's own test. Modules (layer 13): the order of a region of the document's own test.
-/
import Derived.Test.YtdhagimcffmdfaaDoorQChkL
namespace Go.Proofs.YtdhagimcffmdfaaDoor
open Go.RowKit
set_option linter.unusedVariables false
set_option linter.unusedSimpArgs false
set_option maxRecDepth 100000 in
set_option maxHeartbeats 8000000 in
theorem lexR : Region.lexB .any (regOps Tryd.f32 15) = true := by
  refine lexB_via rfl ?_
  refine lexB_of (by simp only [List.size_toArray, List.length_cons, List.length_nil]; rfl) (by as_aux_lemma => kernel_rfl) ?_
  repeat (refine lexStep (by as_aux_lemma => kernel_rfl) (by as_aux_lemma => kernel_rfl) ?_)
  as_aux_lemma => kernel_rfl
set_option maxRecDepth 100000 in
set_option maxHeartbeats 8000000 in
theorem lexR7 : Region.lexB .any (regOps Tryd.f32 7) = true := by
  refine lexB_via rfl ?_
  refine lexB_of (by simp only [List.size_toArray, List.length_cons, List.length_nil]; rfl) (by as_aux_lemma => kernel_rfl) ?_
  repeat (refine lexStep (by as_aux_lemma => kernel_rfl) (by as_aux_lemma => kernel_rfl) ?_)
  as_aux_lemma => kernel_rfl
end Go.Proofs.YtdhagimcffmdfaaDoor
