/-
  Items (layer 5): slices of items, of instructions and of numbers, as they lie in memory.
-/
import Derived.Test.YtnjlcimeaoedcaaQAsmA
import Derived.LoopTactic
import Derived.OwnWalk
import Derived.Maps.Range
import Derived.Maps.RangeWalk
namespace Go.Proofs.Ytnjlcimeaoedcaa
open Go.RowKit Go.Maps
set_option linter.unusedVariables false
set_option linter.unusedSimpArgs false
/-- A slice of items that reads as l; it lies below the block B. -/
def ItAt (B : Nat) (w : World) (a : Option Addr) (l : List It) : Prop :=
  ∀ k, k < l.length → ∃ g o, a = some ⟨g, o, none⟩ ∧ g < B ∧ ∀ j, j < 7 → w.cell? ⟨g, o + (k * 7 + j), none⟩ = (l.getD k it0).vals[j]?
theorem ItAt.fr {B : Nat} {w w' : World} {a : Option Addr} {l : List It} {F : Nat → Prop} (h : ItAt B w a l) (hf : Fr F w w') (hF : ∀ k, F k → B ≤ k) : ItAt B w' a l := fun k hk => by
  obtain ⟨g, o, e, hg, c⟩ := h k hk
  refine ⟨g, o, e, hg, fun j hj => ?_⟩
  have h1 : ∃ x, (l.getD k it0).vals[j]? = some x := ⟨_, List.getElem?_eq_getElem (by simpa [It.vals] using hj)⟩
  obtain ⟨x, h1⟩ := h1
  rw [h1]
  exact hf.cell ((c j hj).trans h1) (fun hf => by have := hF g hf; omega)
theorem ItAt.mono {B C : Nat} {w : World} {a : Option Addr} {l : List It} (h : ItAt B w a l) (hc : B ≤ C) : ItAt C w a l := fun k hk => by
  obtain ⟨g, o, e, hg, c⟩ := h k hk
  exact ⟨g, o, e, by omega, c⟩
theorem ItAt.get {B : Nat} {w w' : World} {a : Option Addr} {l : List It} {F : Nat → Prop} (h : ItAt B w a l) (hf : Fr F w w') (hF : ∀ k, F k → B ≤ k) (k : Nat) (hk : k < l.length) (x : It) (hx : l.getD k it0 = x) :
    ∃ g o, a = some ⟨g, o, none⟩ ∧ g < B ∧ w'.cell? ⟨g, o + k * 7, none⟩ = some (.int .i64 x.k) ∧ w'.cell? ⟨g, o + k * 7 + 1, none⟩ = some (.int .i64 x.op) ∧ w'.cell? ⟨g, o + k * 7 + 2, none⟩ = some (.int .i64 x.rd) ∧ w'.cell? ⟨g, o + k * 7 + 3, none⟩ = some (.int .i64 x.r1) ∧ w'.cell? ⟨g, o + k * 7 + 4, none⟩ = some (.int .i64 x.r2) ∧ w'.cell? ⟨g, o + k * 7 + 5, none⟩ = some (.int .i64 x.imm) ∧ w'.cell? ⟨g, o + k * 7 + 6, none⟩ = some (.int .i64 x.lab) := by
  obtain ⟨g, o, e, hg, c⟩ := h.fr hf hF k hk
  rw [hx] at c
  exact ⟨g, o, e, hg, c 0 (by omega), c 1 (by omega), c 2 (by omega), c 3 (by omega), c 4 (by omega), c 5 (by omega), c 6 (by omega)⟩
/-- A slice of instructions that reads as l. -/
def InAt (w : World) (a : Option Addr) (l : List In) : Prop :=
  ∀ k, k < l.length → ∃ g o, a = some ⟨g, o, none⟩ ∧ ∀ j, j < 5 → w.cell? ⟨g, o + (k * 5 + j), none⟩ = (l.getD k in0).vals[j]?
theorem InAt.fr {w w' : World} {a : Option Addr} {l : List In} (h : InAt w a l) (hf : Fr (fun _ => False) w w') : InAt w' a l := fun k hk => by
  obtain ⟨g, o, e, c⟩ := h k hk
  refine ⟨g, o, e, fun j hj => ?_⟩
  have h1 : ∃ x, (l.getD k in0).vals[j]? = some x := ⟨_, List.getElem?_eq_getElem (by simpa [In.vals] using hj)⟩
  obtain ⟨x, h1⟩ := h1
  rw [h1]
  exact hf.cell ((c j hj).trans h1) id
theorem InAt.get {w w' : World} {a : Option Addr} {l : List In} (h : InAt w a l) (hf : Fr (fun _ => False) w w') (k : Nat) (hk : k < l.length) (x : In) (hx : l.getD k in0 = x) :
    ∃ g o, a = some ⟨g, o, none⟩ ∧ w'.cell? ⟨g, o + k * 5, none⟩ = some (.int .i64 x.op) ∧ w'.cell? ⟨g, o + k * 5 + 1, none⟩ = some (.int .i64 x.rd) ∧ w'.cell? ⟨g, o + k * 5 + 2, none⟩ = some (.int .i64 x.r1) ∧ w'.cell? ⟨g, o + k * 5 + 3, none⟩ = some (.int .i64 x.r2) ∧ w'.cell? ⟨g, o + k * 5 + 4, none⟩ = some (.int .i64 x.imm) := by
  obtain ⟨g, o, e, c⟩ := h.fr hf k hk
  rw [hx] at c
  exact ⟨g, o, e, c 0 (by omega), c 1 (by omega), c 2 (by omega), c 3 (by omega), c 4 (by omega)⟩
/-- A row of numbers of the call's own, from the block B on. -/
structure IRow (B : Nat) (w : World) (g : Nat) (xs : List Int) : Prop where
  heap : w.heap[g]? = some (.cells (ints xs).toArray 3 (0, 0))
  ge : B ≤ g
theorem IRow.lt {B : Nat} {w : World} {g : Nat} {xs : List Int} (h : IRow B w g xs) : g < w.heap.size := (Array.getElem?_eq_some_iff.1 h.heap).1
theorem IRow.fr {B : Nat} {w w' : World} {g : Nat} {xs : List Int} {F : Nat → Prop} (h : IRow B w g xs) (hf : Fr F w w') (hn : ¬ F g) : IRow B w' g xs :=
  ⟨(hf.block g h.lt hn).trans h.heap, h.ge⟩
theorem IRow.mono {B C : Nat} {w : World} {g : Nat} {xs : List Int} (h : IRow B w g xs) (hc : C ≤ B) : IRow C w g xs := ⟨h.heap, Nat.le_trans hc h.ge⟩
theorem IRow.cell {B : Nat} {w : World} {g : Nat} {xs : List Int} (h : IRow B w g xs) {k : Nat} (hk : k < xs.length) : w.cell? ⟨g, k, none⟩ = some (.int .i64 (xs.getD k 0)) := by
  rw [cell_of_row w g k _ _ _ h.heap]
  simp [ints_get hk]
theorem IRow.free {B : Nat} {w : World} {g : Nat} {xs : List Int} (h : IRow B w g xs) (k : Nat) : w.frozen? ⟨g, k, none⟩ = false := frozen_of_row w g k _ _ h.heap
theorem IRow.set {B : Nat} {w : World} {g : Nat} {xs : List Int} (h : IRow B w g xs) (k : Nat) (v : Int) : IRow B (w.setCell ⟨g, k, none⟩ (.int .i64 v)) g (xs.set k v) :=
  ⟨by rw [heap_setCell_same w g k _ _ _ h.heap]; simp [ints, List.map_set], h.ge⟩
theorem made_zero (n : Nat) : (madeCells (Value.int .i64 0).cells (n * 1)).toList = ints (List.replicate n 0) := by
  simp only [madeCells, ints, Nat.mul_one]
  apply List.ext_getElem
  · simp
  · intro i h1 h2
    simp [Value.cells, Nat.mod_one]
theorem IRow.of_own {B n : Nat} {w : World} {g : Nat} {xs : List Int} (h : w.ownsRow B 3 1 (.slice (some ⟨g, 0, none⟩) n n) n (ints xs)) : IRow B w g xs := by
  rcases h.2 with ⟨e, _⟩ | ⟨g', cap, cur, e, hb, hg, _, _, hs, ht⟩
  · cases e
  · injection e with e1 e2 e3
    injection e1 with e1
    injection e1 with e1
    subst e1
    subst e3
    refine ⟨?_, hb⟩
    have hc : cur.toList = ints xs := by rw [← ht, List.take_of_length_le (by simp [hs])]
    rw [hg]
    congr 2
    rw [← hc]
/-- A slice of numbers, of the call's own or none at all. -/
def NumAt (B : Nat) (w : World) (v : Value) (xs : List Int) : Prop := w.ownsRow B 3 1 v xs.length (ints xs)
theorem NumAt.form {B : Nat} {w : World} {v : Value} {xs : List Int} (h : NumAt B w v xs) : ∃ a c, v = .slice a xs.length c ∧ ∀ k, k < xs.length → ∃ g, a = some ⟨g, 0, none⟩ ∧ B ≤ g ∧ w.cell? ⟨g, k, none⟩ = some (.int .i64 (xs.getD k 0)) := by
  have hc := h
  rcases h.2 with ⟨rfl, hn⟩ | ⟨g, cap, cur, rfl, hb, _⟩
  · exact ⟨none, 0, by rw [hn], fun k hk => by omega⟩
  · refine ⟨some ⟨g, 0, none⟩, cap, rfl, fun k hk => ⟨g, rfl, hb, ?_⟩⟩
    have := World.ownsRow.cells hc (g := g) rfl k _ (ints_get hk)
    rw [Addr.add_lit] at this
    simpa using this
theorem fr_al' {F : Nat → Prop} {w w4 : World} (h : Fr F w w4) (c : Array Value) (t : TypeId) : Fr F w (w4.alloc (.cells c t)) := fr_al h _
theorem lawI : Keyed Try.prog 3 := int_keyed Try.underlying3
theorem zeroI (w : World) : (zeroValue 3).run Try.prog w = .ok (.int .i64 0) w := by kernel_rfl
abbrev ownsL (w : World) (B : Nat) (acc : List (Int × Nat)) : Prop := w.ownsMap Try.prog 3 (plainElem Try.prog 3) B acc.length (mapL acc)
theorem wfI {a : Int} (h : -9223372036854775808 ≤ a) (h' : a ≤ 9223372036854775807) : (Lit.int .i64 a).wf = true := by
  simp [Lit.wf, IntKind.min, IntKind.max, IntKind.signed, IntKind.bits]; omega
theorem infoI : (Try.prog.info? 3).map (fun i => (i.zero, i.size, i.bytes)) = some (some (.int .i64 0), 1, 8) := by kernel_rfl
end Go.Proofs.Ytnjlcimeaoedcaa
