/-
  A walk over a frame of which some slots are known: function values, results in cells.
-/
import Derived.Test.YthdkmjbeemfbbaaQWo
import Derived.Laws.ResultCell
namespace Go.Proofs.Ythdkmjbeemfbbaa
open Go.RowKit
set_option linter.unusedVariables false
set_option linter.unusedSimpArgs false
section
variable {P : Program} {ops : Array Oper} {N : Nat} {Q : Exit → Act → World → Prop} {s : List (Nat × Value)} {l : List Oper} {o : Oper} {d : Nat} {w : World}
end
theorem O.bmax {P : Program} {ops : Array Oper} {N : Nat} {Q : Exit → Act → World → Prop} {s : List (Nat × Value)} {l : List Oper} {o : Oper} {d : Nat} {w : World} {x y : Operand} {t t2 : TypeId} {u u2 v : Value} (hop : o.op = .call ⟨.builtin .max, #[x, y], #[t, t2]⟩) (hd : o.dst = some d) (hN : Nat.blt d N = true) (hg : gd ops s o = some true) (hu : ev s x = some u) (hu2 : ev s y = some u2) (hr : (Builtin.max_ #[t, t2] o.type #[u, u2]).run P w = .ok v w) (h : WL P ops N Q ((d, v) :: s) l w) : WL P ops N Q s (o :: l) w :=
  WL.run hd hN hg (fun a k => by
    have h1 := k.eval hu
    have h2 := k.eval hu2
    unfold execOp
    rw [hop]
    generalize a.eval = e at *
    simp [go_sem, h1, h2, hr]) h
theorem O.retc1 {P : Program} {N : Nat} {s : List (Nat × Value)} {w : World} {fn : Func} {R : Ending → World → Prop} {t : Nat} {ty : TypeId} {p : Addr} {v : Value} (hr : fn.results = #[.cell t ty]) (hv : lk s t = some (.pointer (some p))) (hl : (loadVar ty p).run P w = .ok v w) (h : R (.returned v) w) : Xw .ret N (bodyPost P fn R) s w := fun a k => by
  refine ⟨k.defers, v, ?_, h⟩
  have h1 := k.has t _ hv
  simp [results, hr, h1, asAddr, hl]
end Go.Proofs.Ythdkmjbeemfbbaa
