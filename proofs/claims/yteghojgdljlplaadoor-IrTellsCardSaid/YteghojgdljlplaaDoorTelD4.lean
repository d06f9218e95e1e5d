/-
  The fields of an operation (layer 13): the document's own, some operations.
-/
import Derived.Test.YteghojgdljlplaaDoorTelD
namespace Go.Proofs.YteghojgdljlplaaDoor
open Go.RowKit
set_option linter.unusedVariables false
set_option linter.unusedSimpArgs false
set_option maxRecDepth 100000 in
set_option maxHeartbeats 4000000 in
theorem rf_10 (w : World) : Calls Tryd.prog 34 #[.int .i64 10] w fun e w' => (∃ g, e = .returned (.slice (some ⟨g, 0, none⟩) 10 10) ∧ Rw w' g (10)) ∧ Fr (fun _ => False) w w' := by
  go_enter Tryd.func34, Tryd.ntmps34
  go_wp2
  go_ret
  refine ⟨⟨_, rfl, al4 (by iterate 3 (refine fr_al ?_ _)
                           exact Fr.refl _ _) (by simp) (by rfl) (by rfl) (by rfl) (by rfl)⟩, ?_⟩
  iterate 13 (refine fr_al ?_ _)
  exact Fr.refl _ _
set_option maxRecDepth 100000 in
set_option maxHeartbeats 4000000 in
theorem rf_11 (w : World) : Calls Tryd.prog 34 #[.int .i64 11] w fun e w' => (∃ g, e = .returned (.slice (some ⟨g, 0, none⟩) 10 10) ∧ Rw w' g (11)) ∧ Fr (fun _ => False) w w' := by
  go_enter Tryd.func34, Tryd.ntmps34
  go_wp2
  go_ret
  refine ⟨⟨_, rfl, al4 (by iterate 2 (refine fr_al ?_ _)
                           exact Fr.refl _ _) (by simp) (by rfl) (by rfl) (by rfl) (by rfl)⟩, ?_⟩
  iterate 13 (refine fr_al ?_ _)
  exact Fr.refl _ _
set_option maxRecDepth 100000 in
set_option maxHeartbeats 4000000 in
theorem rf_12 (w : World) : Calls Tryd.prog 34 #[.int .i64 12] w fun e w' => (∃ g, e = .returned (.slice (some ⟨g, 0, none⟩) 10 10) ∧ Rw w' g (12)) ∧ Fr (fun _ => False) w w' := by
  go_enter Tryd.func34, Tryd.ntmps34
  go_wp2
  go_ret
  refine ⟨⟨_, rfl, al4 (by iterate 1 (refine fr_al ?_ _)
                           exact Fr.refl _ _) (by simp) (by rfl) (by rfl) (by rfl) (by rfl)⟩, ?_⟩
  iterate 13 (refine fr_al ?_ _)
  exact Fr.refl _ _
set_option maxRecDepth 100000 in
set_option maxHeartbeats 8000000 in
theorem rf_no (op : Int) (h : op < 1 ∨ 12 < op) (w : World) : Calls Tryd.prog 34 #[.int .i64 op] w fun e w' => e = .returned (.slice none 0 0) ∧ Fr (fun _ => False) w w' := by
  rcases h with h | h
  · go_enter Tryd.func34, Tryd.ntmps34
    go_wp2
    go_ret
    refine ⟨rfl, ?_⟩
    iterate 13 (refine fr_al ?_ _)
    exact Fr.refl _ _
  · go_enter Tryd.func34, Tryd.ntmps34
    go_wp2
    go_ret
    refine ⟨rfl, ?_⟩
    iterate 13 (refine fr_al ?_ _)
    exact Fr.refl _ _
end Go.Proofs.YteghojgdljlplaaDoor
