/-
  Tables of types (layer 8): Size, Align, Scalar at nil and at a table.
-/
import Derived.Test.YtbhhmmfopammgaaKindK
import Derived.Outline
namespace Go.Proofs.Ytbhhmmfopammgaa
open Go.RowKit
set_option linter.unusedVariables false
set_option linter.unusedSimpArgs false
def noE : Ent := ⟨0, 0, 0, ⟨#[]⟩, none, 0, 0, 0, 0⟩
theorem size_nil (n : Int) (w : World) : Calls Try.prog 14 #[.pointer none, .int .i64 n] w fun r w' => r = .returned (.int .i64 0) ∧ Fr (fun _ => False) w w' :=
  size_of (.pointer none) n 1 noE w (Lib.hid fun W hW => (entry_nil' n).out W)
theorem align_nil (n : Int) (w : World) : Calls Try.prog 16 #[.pointer none, .int .i64 n] w fun r w' => r = .returned (.int .i64 0) ∧ Fr (fun _ => False) w w' :=
  align_of (.pointer none) n 1 noE w (Lib.hid fun W hW => (entry_nil' n).out W)
theorem scalar_nil (n : Int) (w : World) : Calls Try.prog 19 #[.pointer none, .int .i64 n] w fun r w' => r = .returned (.bool false) ∧ Fr (fun _ => False) w w' :=
  scalar_of (.pointer none) n 1 noE w (Lib.hid fun W hW => (entry_nil' n).out W)
theorem size_at {base : Nat} {w : World} {tb : Nat} {v : Value} {es : List Ent} (h : TabAt base w tb v es) (n : Int) : Calls Try.prog 14 #[.pointer (some ⟨tb, 0, none⟩), .int .i64 n] w fun r w' => r = .returned (.int .i64 (entF es n).size) ∧ Fr (fun _ => False) w w' :=
  size_of _ n _ _ w (entry_ent h n _ rfl)
theorem align_at {base : Nat} {w : World} {tb : Nat} {v : Value} {es : List Ent} (h : TabAt base w tb v es) (n : Int) : Calls Try.prog 16 #[.pointer (some ⟨tb, 0, none⟩), .int .i64 n] w fun r w' => r = .returned (.int .i64 (entF es n).align) ∧ Fr (fun _ => False) w w' :=
  align_of _ n _ _ w (entry_ent h n _ rfl)
theorem scalar_at {base : Nat} {w : World} {tb : Nat} {v : Value} {es : List Ent} (h : TabAt base w tb v es) (n : Int) : Calls Try.prog 19 #[.pointer (some ⟨tb, 0, none⟩), .int .i64 n] w fun r w' => r = .returned (.bool (scalarB (entF es n).kind)) ∧ Fr (fun _ => False) w w' :=
  scalar_of _ n _ _ w (entry_ent h n _ rfl)
end Go.Proofs.Ytbhhmmfopammgaa
