/-
  The fields of an operation (layer 13): the document's own, all ten, some operations. The fields of an operation (layer 13): the document's own, all ten, some operations.
-/
import Derived.Test.YtdhagimcffmdfaaDoorQRfD
namespace Go.Proofs.YtdhagimcffmdfaaDoor
open Go.RowKit
set_option linter.unusedVariables false
set_option linter.unusedSimpArgs false
set_option maxRecDepth 100000 in
set_option maxHeartbeats 4000000 in
theorem rff_1 (w : World) : Calls Tryd.prog 34 #[.int .i64 1] w fun e w' => (∃ g, e = .returned (.slice (some ⟨g, 0, none⟩) 10 10) ∧ RwF w' g [.bool true, .bool false, .bool false, .bool false, .bool false, .bool false, .bool false, .bool true, .bool false, .bool true]) ∧ Fr (fun _ => False) w w' := by
  go_enter Tryd.func34, Tryd.ntmps34
  go_wp2
  go_ret
  refine ⟨⟨_, rfl, alF (by iterate 12 (refine fr_al ?_ _)
                           exact Fr.refl _ _) (by simp)⟩, ?_⟩
  iterate 13 (refine fr_al ?_ _)
  exact Fr.refl _ _
set_option maxRecDepth 100000 in
set_option maxHeartbeats 4000000 in
theorem rff_2 (w : World) : Calls Tryd.prog 34 #[.int .i64 2] w fun e w' => (∃ g, e = .returned (.slice (some ⟨g, 0, none⟩) 10 10) ∧ RwF w' g [.bool true, .bool true, .bool false, .bool false, .bool false, .bool false, .bool false, .bool false, .bool false, .bool true]) ∧ Fr (fun _ => False) w w' := by
  go_enter Tryd.func34, Tryd.ntmps34
  go_wp2
  go_ret
  refine ⟨⟨_, rfl, alF (by iterate 11 (refine fr_al ?_ _)
                           exact Fr.refl _ _) (by simp)⟩, ?_⟩
  iterate 13 (refine fr_al ?_ _)
  exact Fr.refl _ _
set_option maxRecDepth 100000 in
set_option maxHeartbeats 4000000 in
theorem rff_3 (w : World) : Calls Tryd.prog 34 #[.int .i64 3] w fun e w' => (∃ g, e = .returned (.slice (some ⟨g, 0, none⟩) 10 10) ∧ RwF w' g [.bool true, .bool true, .bool true, .bool true, .bool false, .bool false, .bool false, .bool false, .bool false, .bool true]) ∧ Fr (fun _ => False) w w' := by
  go_enter Tryd.func34, Tryd.ntmps34
  go_wp2
  go_ret
  refine ⟨⟨_, rfl, alF (by iterate 10 (refine fr_al ?_ _)
                           exact Fr.refl _ _) (by simp)⟩, ?_⟩
  iterate 13 (refine fr_al ?_ _)
  exact Fr.refl _ _
set_option maxRecDepth 100000 in
set_option maxHeartbeats 4000000 in
theorem rff_4 (w : World) : Calls Tryd.prog 34 #[.int .i64 4] w fun e w' => (∃ g, e = .returned (.slice (some ⟨g, 0, none⟩) 10 10) ∧ RwF w' g [.bool true, .bool true, .bool false, .bool true, .bool false, .bool false, .bool false, .bool false, .bool false, .bool true]) ∧ Fr (fun _ => False) w w' := by
  go_enter Tryd.func34, Tryd.ntmps34
  go_wp2
  go_ret
  refine ⟨⟨_, rfl, alF (by iterate 9 (refine fr_al ?_ _)
                           exact Fr.refl _ _) (by simp)⟩, ?_⟩
  iterate 13 (refine fr_al ?_ _)
  exact Fr.refl _ _
set_option maxRecDepth 100000 in
set_option maxHeartbeats 4000000 in
theorem rff_5 (w : World) : Calls Tryd.prog 34 #[.int .i64 5] w fun e w' => (∃ g, e = .returned (.slice (some ⟨g, 0, none⟩) 10 10) ∧ RwF w' g [.bool true, .bool true, .bool false, .bool false, .bool false, .bool true, .bool true, .bool false, .bool false, .bool true]) ∧ Fr (fun _ => False) w w' := by
  go_enter Tryd.func34, Tryd.ntmps34
  go_wp2
  go_ret
  refine ⟨⟨_, rfl, alF (by iterate 8 (refine fr_al ?_ _)
                           exact Fr.refl _ _) (by simp)⟩, ?_⟩
  iterate 13 (refine fr_al ?_ _)
  exact Fr.refl _ _
set_option maxRecDepth 100000 in
set_option maxHeartbeats 4000000 in
theorem rff_6 (w : World) : Calls Tryd.prog 34 #[.int .i64 6] w fun e w' => (∃ g, e = .returned (.slice (some ⟨g, 0, none⟩) 10 10) ∧ RwF w' g [.bool false, .bool true, .bool true, .bool false, .bool false, .bool true, .bool true, .bool false, .bool false, .bool true]) ∧ Fr (fun _ => False) w w' := by
  go_enter Tryd.func34, Tryd.ntmps34
  go_wp2
  go_ret
  refine ⟨⟨_, rfl, alF (by iterate 7 (refine fr_al ?_ _)
                           exact Fr.refl _ _) (by simp)⟩, ?_⟩
  iterate 13 (refine fr_al ?_ _)
  exact Fr.refl _ _
end Go.Proofs.YtdhagimcffmdfaaDoor
