/-
  Frames: what a call leaves as it was; rows of the call's own; boxes.
-/
import Derived.WalkKit
import Derived.RowKit3
import Derived.Laws.AppendOwn
import Derived.Below
import Derived.Deep.Draws
import Derived.Carry
import Derived.Lib.Hide
namespace Go.Proofs.YtoffbjfgledjfaaDoor
open Go.RowKit
set_option linter.unusedVariables false
set_option linter.unusedSimpArgs false
/-- w' is w but for the blocks F and new ones. -/
structure Fr (F : Nat → Prop) (w w' : World) : Prop where
  os : w'.os = w.os
  output : w'.output = w.output
  size : w.heap.size ≤ w'.heap.size
  block : ∀ k, k < w.heap.size → ¬ F k → w'.heap[k]? = w.heap[k]?
theorem Fr.refl (F : Nat → Prop) (w : World) : Fr F w w := ⟨rfl, rfl, Nat.le_refl _, fun _ _ _ => rfl⟩
theorem Fr.trans {F : Nat → Prop} {a b c : World} (h : Fr F a b) (k : Fr F b c) : Fr F a c :=
  ⟨k.os.trans h.os, k.output.trans h.output, Nat.le_trans h.size k.size, fun i hi hn => (k.block i (Nat.lt_of_lt_of_le hi h.size) hn).trans (h.block i hi hn)⟩
theorem Fr.mono {F G : Nat → Prop} {a b : World} (h : Fr F a b) (hg : ∀ k, k < a.heap.size → F k → G k) : Fr G a b := ⟨h.os, h.output, h.size, fun k hk hn => h.block k hk (fun hf => hn (hg k hk hf))⟩
/-- Two frames in a row, the second's blocks being the first's or new. -/
theorem Fr.trans' {F G : Nat → Prop} {a b c : World} (h : Fr F a b) (k : Fr G b c) (hg : ∀ j, j < a.heap.size → G j → F j) : Fr F a c :=
  ⟨k.os.trans h.os, k.output.trans h.output, Nat.le_trans h.size k.size, fun i hi hn => (k.block i (Nat.lt_of_lt_of_le hi h.size) (fun hgi => hn (hg i hi hgi))).trans (h.block i hi hn)⟩
theorem Fr.of_by {w w' : World} {row : Option Nat} (h : w.grownBy w' row) : Fr (fun k => row = some k) w w' :=
  ⟨h.os, h.output, h.size, fun k hk hn => h.block k hk (fun e => hn e.symm)⟩
theorem Fr.of_by0 {F : Nat → Prop} {w w' : World} (h : w.grownBy w' none) : Fr F w w' :=
  ⟨h.os, h.output, h.size, fun k hk hn => h.block k hk (by simp)⟩
theorem Fr.of_grown {F : Nat → Prop} {w w' : World} (h : Grown w w') : Fr F w w' := by
  obtain ⟨⟨h1, h2, h3⟩, hf, hs⟩ := h
  refine ⟨h1, h2, hs, fun k hk _ => ?_⟩
  have hm := h3 k hk
  cases hw : w.heap[k]? with
  | none => rw [hw] at hm; simpa using hm
  | some o =>
    cases hw' : w'.heap[k]? with
    | none => rw [hw, hw'] at hm; revert hm; cases o <;> simp
    | some o' =>
      rw [hw, hw'] at hm
      revert hm
      cases o <;> cases o' <;> simp
      · rename_i c t f c' t' f'
        intro a b e d
        refine ⟨?_, a, b⟩
        apply Array.ext_getElem?
        intro i
        exact d i
      all_goals first | (intro a b; exact ⟨a, b⟩) | (intro a; exact a) | trivial
theorem Fr.setCell {F : Nat → Prop} (w : World) (a : Addr) (v : Value) (h : F a.block) : Fr F w (w.setCell a v) :=
  ⟨rfl, rfl, by simp [World.setCell], fun k _ hn => Below.heap_setCell w a v k (fun e => hn (e ▸ h))⟩
theorem Fr.drewN {F : Nat → Prop} {w w1 : World} (h : Fr F w w1) (n : Nat) : Fr F w (w1.drewN n) := ⟨h.os, h.output, h.size, h.block⟩
theorem Fr.cell {F : Nat → Prop} {w w' : World} (h : Fr F w w') {a : Addr} {v : Value} (hc : w.cell? a = some v) (hn : ¬ F a.block) : w'.cell? a = some v :=
  (World.cell?_of_block (h.block a.block (World.block_lt_of_cell? w a hc) hn)).trans hc
theorem Fr.frozen {F : Nat → Prop} {w w' : World} (h : Fr F w w') {a : Addr} {v : Value} (hc : w.cell? a = some v) (hn : ¬ F a.block) : w'.frozen? a = w.frozen? a :=
  World.frozen?_of_block (h.block a.block (World.block_lt_of_cell? w a hc) hn)
theorem Fr.owns {F : Nat → Prop} {w w' : World} (hg : Fr F w w') {base : Nat} {e : TypeId} {size : Nat} {v : Value} {n : Nat} {xs : List Value} (h : w.ownsRow base e size v n xs) (hne : ∀ k, v.ownBlock = some k → ¬ F k) : w'.ownsRow base e size v n xs := by
  refine ⟨h.1, ?_⟩
  rcases h.2 with hn | ⟨g, cap, cur, rfl, hb, hgg, rest⟩
  · exact .inl hn
  · refine .inr ⟨g, cap, cur, rfl, hb, ?_, rest⟩
    rw [hg.block g (Array.getElem?_eq_some_iff.1 hgg).1 (hne g rfl)]
    exact hgg
theorem fbyRefl (w : World) : w.grownBy w none := World.grownBy.refl w _
theorem fr_al {F : Nat → Prop} {w w4 : World} (h : Fr F w w4) (o : Obj) : Fr F w (w4.alloc o) := h.trans (Fr.of_by0 (World.grownBy_alloc w4 o none))
theorem fr_set {w w4 : World} (h : Fr (fun _ => False) w w4) {b : Nat} (hb : w.heap.size ≤ b) (o : Nat) (v : Value) : Fr (fun _ => False) w (w4.setCell ⟨b, o, none⟩ v) :=
  h.trans' (Fr.setCell (F := fun k => k = b) w4 ⟨b, o, none⟩ v rfl) (fun j hj e => by omega)
theorem set_keep {w : World} {g i j : Nat} {v x : Value} (h : w.cell? ⟨g, j, none⟩ = some x) (hne : j ≠ i) : (w.setCell ⟨g, i, none⟩ v).cell? ⟨g, j, none⟩ = some x :=
  (World.cell?_setCell_other _ _ _ _ (fun e => hne (by injection e with _ q; exact q.symm))).trans h
theorem drew2 (w : World) (n m : Nat) : (w.drewN n).drewN m = w.drewN (n + m) := World.drewN_drewN _ _ _
theorem fcell (w : World) (cs : Array Value) (t : TypeId) (j : Nat) (v : Value) (h : cs[j]? = some v) : (w.alloc (.cells cs t)).cell? ⟨w.heap.size, j, none⟩ = some v := by
  rw [cell_of_row _ _ _ cs t (0, 0) (heap_alloc_new _ _)]; exact h
theorem own_form {w : World} {base e size n : Nat} {v : Value} {xs : List Value} (h : w.ownsRow base e size v n xs) (hv : v ≠ .slice none 0 0) : ∃ g c, v = .slice (some ⟨g, 0, none⟩) n c ∧ base ≤ g ∧ g < w.heap.size := by
  rcases h.2 with ⟨e1, _⟩ | ⟨g, cap, cur, hv', hb, hg, _⟩
  · exact absurd e1 hv
  · exact ⟨g, cap, hv', hb, (Array.getElem?_eq_some_iff.1 hg).1⟩
end Go.Proofs.YtoffbjfgledjfaaDoor
