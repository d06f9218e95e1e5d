/-
  The fields of an operation (layer 13): the document's own, some operations.
-/
import Derived.Test.YteghojgdljlplaaDoorTelD
namespace Go.Proofs.YteghojgdljlplaaDoor
open Go.RowKit
set_option linter.unusedVariables false
set_option linter.unusedSimpArgs false
set_option maxRecDepth 100000 in
set_option maxHeartbeats 4000000 in
theorem rf_1 (w : World) : Calls Tryd.prog 34 #[.int .i64 1] w fun e w' => (∃ g, e = .returned (.slice (some ⟨g, 0, none⟩) 10 10) ∧ Rw w' g (1)) ∧ Fr (fun _ => False) w w' := by
  go_enter Tryd.func34, Tryd.ntmps34
  go_wp2
  go_ret
  refine ⟨⟨_, rfl, al4 (by iterate 12 (refine fr_al ?_ _)
                           exact Fr.refl _ _) (by simp) (by rfl) (by rfl) (by rfl) (by rfl)⟩, ?_⟩
  iterate 13 (refine fr_al ?_ _)
  exact Fr.refl _ _
set_option maxRecDepth 100000 in
set_option maxHeartbeats 4000000 in
theorem rf_2 (w : World) : Calls Tryd.prog 34 #[.int .i64 2] w fun e w' => (∃ g, e = .returned (.slice (some ⟨g, 0, none⟩) 10 10) ∧ Rw w' g (2)) ∧ Fr (fun _ => False) w w' := by
  go_enter Tryd.func34, Tryd.ntmps34
  go_wp2
  go_ret
  refine ⟨⟨_, rfl, al4 (by iterate 11 (refine fr_al ?_ _)
                           exact Fr.refl _ _) (by simp) (by rfl) (by rfl) (by rfl) (by rfl)⟩, ?_⟩
  iterate 13 (refine fr_al ?_ _)
  exact Fr.refl _ _
set_option maxRecDepth 100000 in
set_option maxHeartbeats 4000000 in
theorem rf_3 (w : World) : Calls Tryd.prog 34 #[.int .i64 3] w fun e w' => (∃ g, e = .returned (.slice (some ⟨g, 0, none⟩) 10 10) ∧ Rw w' g (3)) ∧ Fr (fun _ => False) w w' := by
  go_enter Tryd.func34, Tryd.ntmps34
  go_wp2
  go_ret
  refine ⟨⟨_, rfl, al4 (by iterate 10 (refine fr_al ?_ _)
                           exact Fr.refl _ _) (by simp) (by rfl) (by rfl) (by rfl) (by rfl)⟩, ?_⟩
  iterate 13 (refine fr_al ?_ _)
  exact Fr.refl _ _
end Go.Proofs.YteghojgdljlplaaDoor
