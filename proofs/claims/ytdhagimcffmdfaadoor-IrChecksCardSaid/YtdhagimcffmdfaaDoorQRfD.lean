/-
  The fields of an operation (layer 13): the document's own, all ten.
-/
import Derived.Test.YtdhagimcffmdfaaDoorQChkB
namespace Go.Proofs.YtdhagimcffmdfaaDoor
open Go.RowKit
set_option linter.unusedVariables false
set_option linter.unusedSimpArgs false
/-- An operation's row of ten, in memory. -/
def RwF (w : World) (g : Nat) (l : List Value) : Prop := ∀ (j : Nat) (y : Value), l[j]? = some y → w.cell? ⟨g, j, none⟩ = some y
theorem RwF.fr {w w' : World} {g : Nat} {l : List Value} (h : RwF w g l) (hf : Fr (fun _ => False) w w') : RwF w' g l := fun j y hj => hf.cell (h j y hj) id
theorem alF {w w' : World} {b : Nat} {l : List Value} {t : TypeId} (hf : Fr (fun _ => False) (w.alloc (.cells l.toArray t)) w') (hb : w.heap.size = b) : RwF w' b l := by
  subst hb
  exact fun j y hj => hf.cell (fcell w l.toArray t j y (by simpa using hj)) (fun h => h)
end Go.Proofs.YtdhagimcffmdfaaDoor
