/-
  The fields of an operation (layer 13): the document's own, any operation.
-/
import Derived.Test.YteghojgdljlplaaDoorTelD1
import Derived.Test.YteghojgdljlplaaDoorTelD2
import Derived.Test.YteghojgdljlplaaDoorTelD3
import Derived.Test.YteghojgdljlplaaDoorTelD4
namespace Go.Proofs.YteghojgdljlplaaDoor
open Go.RowKit
set_option linter.unusedVariables false
set_option linter.unusedSimpArgs false
theorem rf_any (op : Int) (h : 1 ≤ op ∧ op ≤ 12) (w : World) : Calls Tryd.prog 34 #[.int .i64 op] w fun e w' => (∃ g, e = .returned (.slice (some ⟨g, 0, none⟩) 10 10) ∧ Rw w' g (op)) ∧ Fr (fun _ => False) w w' := by
  rcases op_cases op with rfl | rfl | rfl | rfl | rfl | rfl | rfl | rfl | rfl | rfl | rfl | rfl | h'
  · exact rf_1 w
  · exact rf_2 w
  · exact rf_3 w
  · exact rf_4 w
  · exact rf_5 w
  · exact rf_6 w
  · exact rf_7 w
  · exact rf_8 w
  · exact rf_9 w
  · exact rf_10 w
  · exact rf_11 w
  · exact rf_12 w
  · omega
end Go.Proofs.YteghojgdljlplaaDoor
