/-
  The fields of an operation (layer 13): the document's own.
-/
import Derived.Test.YteghojgdljlplaaDoorTelA
import Derived.Test.YteghojgdljlplaaDoorTelC
namespace Go.Proofs.YteghojgdljlplaaDoor
open Go.RowKit
set_option linter.unusedVariables false
set_option linter.unusedSimpArgs false
/-- An operation's row, in memory. -/
structure Rw (w : World) (g : Nat) (op : Int) : Prop where
  d : w.cell? ⟨g, 0, none⟩ = some (.bool (hasD op))
  a : w.cell? ⟨g, 1, none⟩ = some (.bool (hasA op))
  b : w.cell? ⟨g, 2, none⟩ = some (.bool (hasB op))
  s : w.cell? ⟨g, 8, none⟩ = some (.bool (hasG op))
theorem Rw.fr {w w' : World} {g : Nat} {op : Int} (h : Rw w g op) (hf : Fr (fun _ => False) w w') : Rw w' g op :=
  ⟨hf.cell h.d (fun h => h), hf.cell h.a (fun h => h), hf.cell h.b (fun h => h), hf.cell h.s (fun h => h)⟩
theorem al4 {w w' : World} {b : Nat} {cs : Array Value} {t : TypeId} {op : Int} (hf : Fr (fun _ => False) (w.alloc (.cells cs t)) w') (hb : w.heap.size = b) (h0 : cs[0]? = some (.bool (hasD op))) (h1 : cs[1]? = some (.bool (hasA op))) (h2 : cs[2]? = some (.bool (hasB op))) (h8 : cs[8]? = some (.bool (hasG op))) : Rw w' b op := by
  subst hb
  exact ⟨hf.cell (fcell w cs t 0 _ h0) (fun h => h), hf.cell (fcell w cs t 1 _ h1) (fun h => h), hf.cell (fcell w cs t 2 _ h2) (fun h => h), hf.cell (fcell w cs t 8 _ h8) (fun h => h)⟩
end Go.Proofs.YteghojgdljlplaaDoor
