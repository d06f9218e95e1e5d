/-
  Modules (layer 13): the order of the region that tells whether an instruction is right. Modules (layer 13): small things for an instruction's test.
-/
import Derived.Test.YthdkmjbeemfbbaaQChkB
namespace Go.Proofs.Ythdkmjbeemfbbaa
open Go.RowKit
set_option linter.unusedVariables false
set_option linter.unusedSimpArgs false
/-- A function's region of a number. -/
def findR (n : Nat) : Code → Option (Array Oper)
  | .region id ops _ => if id = n then some ops else none
  | .seq a b => match findR n a with | some x => some x | none => findR n b
  | .cond _ a b => match findR n a with | some x => some x | none => findR n b
  | .block _ b => findR n b
  | .loop b => findR n b
  | .scope b => findR n b
  | .rangeFunc _ _ a b => match findR n a with | some x => some x | none => findR n b
  | _ => none
def regOps (f : Func) (n : Nat) : Array Oper := match f.body with | some c => (match findR n c with | some x => x | none => #[]) | none => #[]
theorem lexB_via {md : Region.Mode} {ops : Array Oper} {l : List Oper} (h : ops = l.toArray) (h2 : Region.lexB md l.toArray = true) : Region.lexB md ops = true := by rw [h]; exact h2
set_option maxRecDepth 100000 in
set_option maxHeartbeats 8000000 in
theorem lexI : Region.lexB .any (regOps Try.f46 4) = true := by
  refine lexB_via rfl ?_
  refine lexB_of (by simp only [List.size_toArray, List.length_cons, List.length_nil]; rfl) (by as_aux_lemma => kernel_rfl) ?_
  repeat (refine lexStep (by as_aux_lemma => kernel_rfl) (by as_aux_lemma => kernel_rfl) ?_)
  as_aux_lemma => kernel_rfl
theorem off0 {x : Int} (h : false = true ↔ -32768 ≤ x ∧ x ≤ 32768) : (x == 0) = false := by
  have z : ¬(-32768 ≤ x ∧ x ≤ 32768) := fun q => Bool.false_ne_true (h.2 q)
  simp only [beq_eq_false_iff_ne, ne_eq]; omega
end Go.Proofs.Ythdkmjbeemfbbaa
