/-
  The fields of an operation (layer 13): the document's own, all ten, some operations. The fields of an operation (layer 13): the document's own, all ten, some operations.
-/
import Derived.Test.YtdhagimcffmdfaaDoorQRfD
namespace Go.Proofs.YtdhagimcffmdfaaDoor
open Go.RowKit
set_option linter.unusedVariables false
set_option linter.unusedSimpArgs false
set_option maxRecDepth 100000 in
set_option maxHeartbeats 4000000 in
theorem rff_7 (w : World) : Calls Tryd.prog 34 #[.int .i64 7] w fun e w' => (∃ g, e = .returned (.slice (some ⟨g, 0, none⟩) 10 10) ∧ RwF w' g [.bool true, .bool false, .bool false, .bool false, .bool true, .bool true, .bool false, .bool false, .bool false, .bool true]) ∧ Fr (fun _ => False) w w' := by
  go_enter Tryd.func34, Tryd.ntmps34
  go_wp2
  go_ret
  refine ⟨⟨_, rfl, alF (by iterate 6 (refine fr_al ?_ _)
                           exact Fr.refl _ _) (by simp)⟩, ?_⟩
  iterate 13 (refine fr_al ?_ _)
  exact Fr.refl _ _
set_option maxRecDepth 100000 in
set_option maxHeartbeats 4000000 in
theorem rff_8 (w : World) : Calls Tryd.prog 34 #[.int .i64 8] w fun e w' => (∃ g, e = .returned (.slice (some ⟨g, 0, none⟩) 10 10) ∧ RwF w' g [.bool true, .bool false, .bool false, .bool false, .bool true, .bool true, .bool false, .bool false, .bool false, .bool true]) ∧ Fr (fun _ => False) w w' := by
  go_enter Tryd.func34, Tryd.ntmps34
  go_wp2
  go_ret
  refine ⟨⟨_, rfl, alF (by iterate 5 (refine fr_al ?_ _)
                           exact Fr.refl _ _) (by simp)⟩, ?_⟩
  iterate 13 (refine fr_al ?_ _)
  exact Fr.refl _ _
set_option maxRecDepth 100000 in
set_option maxHeartbeats 4000000 in
theorem rff_9 (w : World) : Calls Tryd.prog 34 #[.int .i64 9] w fun e w' => (∃ g, e = .returned (.slice (some ⟨g, 0, none⟩) 10 10) ∧ RwF w' g [.bool true, .bool false, .bool false, .bool false, .bool true, .bool false, .bool false, .bool false, .bool true, .bool true]) ∧ Fr (fun _ => False) w w' := by
  go_enter Tryd.func34, Tryd.ntmps34
  go_wp2
  go_ret
  refine ⟨⟨_, rfl, alF (by iterate 4 (refine fr_al ?_ _)
                           exact Fr.refl _ _) (by simp)⟩, ?_⟩
  iterate 13 (refine fr_al ?_ _)
  exact Fr.refl _ _
set_option maxRecDepth 100000 in
set_option maxHeartbeats 4000000 in
theorem rff_10 (w : World) : Calls Tryd.prog 34 #[.int .i64 10] w fun e w' => (∃ g, e = .returned (.slice (some ⟨g, 0, none⟩) 10 10) ∧ RwF w' g [.bool false, .bool true, .bool false, .bool false, .bool false, .bool false, .bool false, .bool false, .bool false, .bool false]) ∧ Fr (fun _ => False) w w' := by
  go_enter Tryd.func34, Tryd.ntmps34
  go_wp2
  go_ret
  refine ⟨⟨_, rfl, alF (by iterate 3 (refine fr_al ?_ _)
                           exact Fr.refl _ _) (by simp)⟩, ?_⟩
  iterate 13 (refine fr_al ?_ _)
  exact Fr.refl _ _
set_option maxRecDepth 100000 in
set_option maxHeartbeats 4000000 in
theorem rff_11 (w : World) : Calls Tryd.prog 34 #[.int .i64 11] w fun e w' => (∃ g, e = .returned (.slice (some ⟨g, 0, none⟩) 10 10) ∧ RwF w' g [.bool true, .bool false, .bool false, .bool false, .bool false, .bool false, .bool false, .bool false, .bool false, .bool true]) ∧ Fr (fun _ => False) w w' := by
  go_enter Tryd.func34, Tryd.ntmps34
  go_wp2
  go_ret
  refine ⟨⟨_, rfl, alF (by iterate 2 (refine fr_al ?_ _)
                           exact Fr.refl _ _) (by simp)⟩, ?_⟩
  iterate 13 (refine fr_al ?_ _)
  exact Fr.refl _ _
set_option maxRecDepth 100000 in
set_option maxHeartbeats 4000000 in
theorem rff_12 (w : World) : Calls Tryd.prog 34 #[.int .i64 12] w fun e w' => (∃ g, e = .returned (.slice (some ⟨g, 0, none⟩) 10 10) ∧ RwF w' g [.bool false, .bool false, .bool false, .bool false, .bool false, .bool false, .bool false, .bool false, .bool false, .bool false]) ∧ Fr (fun _ => False) w w' := by
  go_enter Tryd.func34, Tryd.ntmps34
  go_wp2
  go_ret
  refine ⟨⟨_, rfl, alF (by iterate 1 (refine fr_al ?_ _)
                           exact Fr.refl _ _) (by simp)⟩, ?_⟩
  iterate 13 (refine fr_al ?_ _)
  exact Fr.refl _ _
set_option maxRecDepth 100000 in
set_option maxHeartbeats 8000000 in
theorem rff_lo (op : Int) (h : op < 1) (w : World) : Calls Tryd.prog 34 #[.int .i64 op] w fun e w' => e = .returned (.slice none 0 0) ∧ Fr (fun _ => False) w w' := by
  go_enter Tryd.func34, Tryd.ntmps34
  go_wp2
  go_ret
  refine ⟨rfl, ?_⟩
  iterate 13 (refine fr_al ?_ _)
  exact Fr.refl _ _
set_option maxRecDepth 100000 in
set_option maxHeartbeats 8000000 in
theorem rff_hi (op : Int) (h : 12 < op) (w : World) : Calls Tryd.prog 34 #[.int .i64 op] w fun e w' => e = .returned (.slice none 0 0) ∧ Fr (fun _ => False) w w' := by
  go_enter Tryd.func34, Tryd.ntmps34
  go_wp2
  go_ret
  refine ⟨rfl, ?_⟩
  iterate 13 (refine fr_al ?_ _)
  exact Fr.refl _ _
end Go.Proofs.YtdhagimcffmdfaaDoor
