/-
  Listing (layer 6): a line, read.
-/
import Derived.Test.YtlagdgkjpnocfaaGreatDoorLsL
import Derived.Laws.ResultCell
namespace Go.Proofs.YtlagdgkjpnocfaaGreatDoor
open Go.RowKit
set_option linter.unusedVariables false
set_option linter.unusedSimpArgs false
theorem bodyw_retct {P : Program} {N : Nat} {s : List (Nat × Value)} {w : World} {fn : Func} {R : Ending → World → Prop} {t u g : Nat} {ty t2 : TypeId} {cs : Array Value} {d : TypeDesc} {v : Value} (hr : fn.results = #[.cell t ty, .tmp u]) (hp : lk s t = some (.pointer (some ⟨g, 0, none⟩))) (hv : lk s u = some v) (hg : w.heap[g]? = some (.cells cs t2 (0, 0))) (hu : P.underlying ty = some d) (hd : (match d with | .struct _ | .array _ _ => true | _ => false) = true) (hi : (P.info? ty).map (·.size) = some cs.size) (h : R (.returned (.tuple #[.agg cs, v])) w) : Xw .ret N (bodyPost P fn R) s w := fun a k => by
  refine ⟨k.defers, .tuple #[.agg cs, v], ?_, h⟩
  have h1 := k.has t _ hp
  have h2 := k.has u _ hv
  rw [results_cell_tmp hr]
  have e1 : a.tmps.getD t undef = .pointer (some ⟨g, 0, none⟩) := by simp only [Array.getD_eq_getD_getElem?, h1, Option.getD_some]
  have e2 : a.tmps.getD u undef = v := by simp only [Array.getD_eq_getD_getElem?, h2, Option.getD_some]
  rw [e1, e2]
  simp [asAddr, run_loadVar_row w g t2 ty cs (0, 0) d hg hu hd hi, Result.andThen]
def ldR : List UInt8 → List (List UInt8) → I5 → Option I5
  | o :: os, p :: ps, i => if (opR o p i).2 = true then ldR os ps (opR o p i).1 else none
  | _, _, i => some i
def prtsR (s : List UInt8) (n : Nat) : List (List UInt8) := (Lib.splitB ⟨#[44, 32]⟩ 0 (min n (s.length + 1) - 1) ⟨s.toArray⟩).map (·.data.toList)
def z5 : I5 := ⟨0, 0, 0, 0, 0⟩
/-- The instruction of a line, if it can be read as one. -/
def parseR (s : List UInt8) : Option I5 :=
  let c := Lib.cut s [32]
  let op := opF c.1 1
  let ps := prtsR c.2.1 ((layT op).length + 1)
  if op = 0 ∨ ps.length ≠ (layT op).length then none else ldR (layT op) ps ⟨op, 0, 0, 0, 0⟩
def PaP (s : List UInt8) (w : World) (e : Ending) (w' : World) : Prop := e = .returned (match parseR s with | some i => .tuple #[.agg i.vals, .bool true] | none => .tuple #[.agg z5.vals, .bool false]) ∧ Fr (fun _ => False) w w'
section
variable (w : World)
theorem bd_op (m : Int) : (Instr.build 23 #[(0, .int .i64 m)]).run Tryz.prog w = .ok (.agg #[.int .i64 m, .int .i64 0, .int .i64 0, .int .i64 0, .int .i64 0]) w := by simp [go_sem]
theorem bd_no : (Instr.build 23 #[]).run Tryz.prog w = .ok (.agg #[.int .i64 0, .int .i64 0, .int .i64 0, .int .i64 0, .int .i64 0]) w := by simp [go_sem]
theorem st_ins (g : Nat) (z0 z1 z2 z3 z4 : Value) (u0 u1 u2 u3 u4 : Int) (h : RwL w g #[z0, z1, z2, z3, z4] 23) : ∃ w', (Instr.storeAt 23 (.pointer (some ⟨g, 0, none⟩)) (.agg #[.int .i64 u0, .int .i64 u1, .int .i64 u2, .int .i64 u3, .int .i64 u4])).run Tryz.prog w = .ok () w' ∧ RwL w' g #[.int .i64 u0, .int .i64 u1, .int .i64 u2, .int .i64 u3, .int .i64 u4] 23 ∧ Fr (fun q => q = g) w w' := by
  refine ⟨((((w.setCell ⟨g, 0, none⟩ (.int .i64 u0)).setCell ⟨g, 1, none⟩ (.int .i64 u1)).setCell ⟨g, 2, none⟩ (.int .i64 u2)).setCell ⟨g, 3, none⟩ (.int .i64 u3)).setCell ⟨g, 4, none⟩ (.int .i64 u4), ?_, ((((h.set 0 (.int .i64 u0)).set 1 (.int .i64 u1)).set 2 (.int .i64 u2)).set 3 (.int .i64 u3)).set 4 (.int .i64 u4), ?_⟩
  · have a0 := h.cell (j := 0) rfl
    have a1 := h.cell (j := 1) rfl
    have a2 := h.cell (j := 2) rfl
    have a3 := h.cell (j := 3) rfl
    have a4 := h.cell (j := 4) rfl
    simp [go_sem, a0, a1, a2, a3, a4, h.free]
  · have f : ∀ (w : World) (j : Nat) (u : Value), Fr (fun q => q = g) w (w.setCell ⟨g, j, none⟩ u) := fun w j u => Fr.setCell (F := fun q => q = g) w ⟨g, j, none⟩ u rfl
    exact ((((f _ 0 _).trans (f _ 1 _)).trans (f _ 2 _)).trans (f _ 3 _)).trans (f _ 4 _)
theorem ix_s (b o n c j : Nat) (hj : j < n) : (Instr.indexAt 68 (.slice (some ⟨b, o, none⟩) n c) (.int .i64 (j : Int))).run Tryz.prog w = .ok (.pointer (some ⟨b, o + j, none⟩)) w := by
  have h : (j : Int) < (n : Int) := by omega
  simp [go_sem, h, hj]
theorem ld_s (u : List UInt8) (d : Addr) (h : w.cell? d = some (bts u)) : (Instr.loadAt 9 (.pointer (some d))).run Tryz.prog w = .ok (bts u) w := by simp [go_sem, h]
theorem ln_sl (a : Option Addr) (k l : Nat) : (Builtin.len_ #[68] 3 #[.slice a k l]).run Tryz.prog w = .ok (.int .i64 k) w := by simp [go_sem]
theorem bn_nei (x y : Operand) (m n : Int) : (do eqGuard .neq 3 x y (.int .i64 m) (.int .i64 n); binOp .neq 3 (.int .i64 m) (.int .i64 n) : Sem Value).run Tryz.prog w = .ok (.bool (m != n)) w := by simp [go_sem]
theorem cf_on (vs : Array Value) : (callFunc 38 vs).run Tryz.prog w = .ok (.enter 38 vs) w := by simp [go_sem]
theorem cf_spn (vs : Array Value) : (callFunc 39 vs).run Tryz.prog w = .ok (.enter 39 vs) w := by simp [go_sem]
theorem cf_prs (vs : Array Value) : (callFunc 22 vs).run Tryz.prog w = .ok (.enter 22 vs) w := by simp [go_sem]
end
theorem prts_cell (s : List UInt8) (n : Nat) (w : World) (hl : (Lib.splitB ⟨#[44, 32]⟩ 0 (min n (s.length + 1) - 1) ⟨s.toArray⟩).length ≤ min n (s.length + 1)) (j : Nat) (hj : j < (prtsR s n).length) : (w.alloc (.cells (Lib.cellsOf (Lib.splitB ⟨#[44, 32]⟩ 0 (min n (s.length + 1) - 1) ⟨s.toArray⟩) (min n (s.length + 1))) 9)).cell? ⟨w.heap.size, j, none⟩ = some (bts ((prtsR s n).getD j [])) := by
  have hj' : j < (Lib.splitB ⟨#[44, 32]⟩ 0 (min n (s.length + 1) - 1) ⟨s.toArray⟩).length := by simpa [prtsR] using hj
  refine fcell w _ _ j _ ?_
  simp [Lib.cellsOf, prtsR, List.getElem?_append, hj', List.getD_eq_getElem?_getD]
end Go.Proofs.YtlagdgkjpnocfaaGreatDoor
