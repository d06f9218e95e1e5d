/-
  Frames: what a call leaves as it was; rows of the call's own; boxes. A strings.Builder of the call's own: written and read; a number's digits. Numbers as text: one, and a list of them, each behind a space. An instruction's line (layer 13). A procedure's lines (layer 13). A procedure's lines, as the program writes them (layer 13).
-/
import Derived.WalkKit
import Derived.RowKit3
import Derived.Laws.AppendOwn
import Derived.Below
import Derived.Deep.Draws
import Derived.Carry
import Derived.Lib.Hide
import Derived.Test.YthdkmjbeemfbbaaChecked
import Derived.Test.YthdkmjbeemfbbaaQShelf
import Derived.Lib.Builder
import Derived.Lib.FrozenHead
import Derived.Laws.Externs
import Derived.KernelRfl
import Derived.Outline
import Derived.LoopTactic
import Derived.Lib.LaidTab
import Derived.Lib.ItoaLen
import Derived.Laws.Concat
import Derived.Deep.RegionHeld3
import Derived.Deep.DeepCutAuto
import Derived.IntWalk
namespace Go.Proofs.Ythdkmjbeemfbbaa
open Go.RowKit
set_option linter.unusedVariables false
set_option linter.unusedSimpArgs false
/-- w' is w but for the blocks F and new ones. -/
structure Fr (F : Nat → Prop) (w w' : World) : Prop where
  os : w'.os = w.os
  output : w'.output = w.output
  size : w.heap.size ≤ w'.heap.size
  block : ∀ k, k < w.heap.size → ¬ F k → w'.heap[k]? = w.heap[k]?
theorem Fr.refl (F : Nat → Prop) (w : World) : Fr F w w := ⟨rfl, rfl, Nat.le_refl _, fun _ _ _ => rfl⟩
theorem Fr.trans {F : Nat → Prop} {a b c : World} (h : Fr F a b) (k : Fr F b c) : Fr F a c :=
  ⟨k.os.trans h.os, k.output.trans h.output, Nat.le_trans h.size k.size, fun i hi hn => (k.block i (Nat.lt_of_lt_of_le hi h.size) hn).trans (h.block i hi hn)⟩
theorem Fr.mono {F G : Nat → Prop} {a b : World} (h : Fr F a b) (hg : ∀ k, k < a.heap.size → F k → G k) : Fr G a b := ⟨h.os, h.output, h.size, fun k hk hn => h.block k hk (fun hf => hn (hg k hk hf))⟩
/-- Two frames in a row, the second's blocks being the first's or new. -/
theorem Fr.trans' {F G : Nat → Prop} {a b c : World} (h : Fr F a b) (k : Fr G b c) (hg : ∀ j, j < a.heap.size → G j → F j) : Fr F a c :=
  ⟨k.os.trans h.os, k.output.trans h.output, Nat.le_trans h.size k.size, fun i hi hn => (k.block i (Nat.lt_of_lt_of_le hi h.size) (fun hgi => hn (hg i hi hgi))).trans (h.block i hi hn)⟩
theorem Fr.of_by {w w' : World} {row : Option Nat} (h : w.grownBy w' row) : Fr (fun k => row = some k) w w' :=
  ⟨h.os, h.output, h.size, fun k hk hn => h.block k hk (fun e => hn e.symm)⟩
theorem Fr.of_by0 {F : Nat → Prop} {w w' : World} (h : w.grownBy w' none) : Fr F w w' :=
  ⟨h.os, h.output, h.size, fun k hk hn => h.block k hk (by simp)⟩
theorem Fr.setCell {F : Nat → Prop} (w : World) (a : Addr) (v : Value) (h : F a.block) : Fr F w (w.setCell a v) :=
  ⟨rfl, rfl, by simp [World.setCell], fun k _ hn => Below.heap_setCell w a v k (fun e => hn (e ▸ h))⟩
theorem Fr.drewN {F : Nat → Prop} {w w1 : World} (h : Fr F w w1) (n : Nat) : Fr F w (w1.drewN n) := ⟨h.os, h.output, h.size, h.block⟩
theorem Fr.cell {F : Nat → Prop} {w w' : World} (h : Fr F w w') {a : Addr} {v : Value} (hc : w.cell? a = some v) (hn : ¬ F a.block) : w'.cell? a = some v :=
  (World.cell?_of_block (h.block a.block (World.block_lt_of_cell? w a hc) hn)).trans hc
theorem Fr.frozen {F : Nat → Prop} {w w' : World} (h : Fr F w w') {a : Addr} {v : Value} (hc : w.cell? a = some v) (hn : ¬ F a.block) : w'.frozen? a = w.frozen? a :=
  World.frozen?_of_block (h.block a.block (World.block_lt_of_cell? w a hc) hn)
theorem Fr.owns {F : Nat → Prop} {w w' : World} (hg : Fr F w w') {base : Nat} {e : TypeId} {size : Nat} {v : Value} {n : Nat} {xs : List Value} (h : w.ownsRow base e size v n xs) (hne : ∀ k, v.ownBlock = some k → ¬ F k) : w'.ownsRow base e size v n xs := by
  refine ⟨h.1, ?_⟩
  rcases h.2 with hn | ⟨g, cap, cur, rfl, hb, hgg, rest⟩
  · exact .inl hn
  · refine .inr ⟨g, cap, cur, rfl, hb, ?_, rest⟩
    rw [hg.block g (Array.getElem?_eq_some_iff.1 hgg).1 (hne g rfl)]
    exact hgg
theorem fr_al {F : Nat → Prop} {w w4 : World} (h : Fr F w w4) (o : Obj) : Fr F w (w4.alloc o) := h.trans (Fr.of_by0 (World.grownBy_alloc w4 o none))
theorem fcell (w : World) (cs : Array Value) (t : TypeId) (j : Nat) (v : Value) (h : cs[j]? = some v) : (w.alloc (.cells cs t)).cell? ⟨w.heap.size, j, none⟩ = some v := by
  rw [cell_of_row _ _ _ cs t (0, 0) (heap_alloc_new _ _)]; exact h
/-- These numbers lie behind a slice's head. -/
def IntsAt (w : World) (a : Option Addr) (l : List Int) : Prop := ∀ k, k < l.length → ∃ g o, a = some ⟨g, o, none⟩ ∧ w.cell? ⟨g, o + k, none⟩ = some (.int .i64 (l.getD k 0))
theorem IntsAt.fr {w w' : World} {a : Option Addr} {l : List Int} (h : IntsAt w a l) (hf : Fr (fun _ => False) w w') : IntsAt w' a l := fun k hk => by
  obtain ⟨g, o, e, c⟩ := h k hk
  exact ⟨g, o, e, hf.cell c id⟩
def InR (x : Int) : Prop := -9223372036854775808 ≤ x ∧ x ≤ 9223372036854775807
/-- An instruction, plainly. -/
structure Inn where
  x0 : Int
  x1 : Int
  x2 : Int
  x3 : Int
  x4 : Int
  x5 : Int
  x6 : Int
  x7 : Int
  u : Int
  args : List Int
  lg : Bool
def Inn.l8 (i : Inn) : List Int := [i.x0, i.x1, i.x2, i.x3, i.x4, i.x5, i.x6, i.x7]
/-- A block, plainly. -/
structure Bk where
  ins : List Inn
  en : Int
  a : Int
  t : Int
  el : Int
def inn0 : Inn := ⟨0, 0, 0, 0, 0, 0, 0, 0, 0, [], false⟩
def bk0 : Bk := ⟨[], 0, 0, 0, 0⟩
structure Inn.ok (i : Inn) : Prop where
  r : ∀ x ∈ i.l8, InR x
  ra : ∀ x ∈ i.args, InR x
  n : i.args.length ≤ 1000
  u0 : 0 ≤ i.u
  u1 : i.u ≤ 4294967295
structure Bk.ok (b : Bk) : Prop where
  i : ∀ x ∈ b.ins, x.ok
  n : b.ins.length ≤ 1000
  r : ∀ x ∈ [b.en, b.a, b.t, b.el], InR x
/-- An instruction's eleven cells. -/
def InsAt (w : World) (g o : Nat) (i : Inn) : Prop :=
  w.cell? ⟨g, o, none⟩ = some (.int .i64 i.x0) ∧ w.cell? ⟨g, o + 1, none⟩ = some (.int .i64 i.x1) ∧ w.cell? ⟨g, o + 2, none⟩ = some (.int .i64 i.x2) ∧ w.cell? ⟨g, o + 3, none⟩ = some (.int .i64 i.x3) ∧ w.cell? ⟨g, o + 4, none⟩ = some (.int .i64 i.x4) ∧ w.cell? ⟨g, o + 5, none⟩ = some (.int .i64 i.x5) ∧ w.cell? ⟨g, o + 6, none⟩ = some (.int .i64 i.x6) ∧ w.cell? ⟨g, o + 7, none⟩ = some (.int .i64 i.x7) ∧ w.cell? ⟨g, o + 8, none⟩ = some (.int .u32 i.u) ∧ (∃ a c, w.cell? ⟨g, o + 9, none⟩ = some (.slice a i.args.length c) ∧ IntsAt w a i.args) ∧ w.cell? ⟨g, o + 10, none⟩ = some (.bool i.lg)
theorem InsAt.fr {w w' : World} {g o : Nat} {i : Inn} (h : InsAt w g o i) (hf : Fr (fun _ => False) w w') : InsAt w' g o i := by
  obtain ⟨k0, k1, k2, k3, k4, k5, k6, k7, k8, ⟨a, c, k9, ka⟩, k10⟩ := h
  exact ⟨hf.cell k0 id, hf.cell k1 id, hf.cell k2 id, hf.cell k3 id, hf.cell k4 id, hf.cell k5 id, hf.cell k6 id, hf.cell k7 id, hf.cell k8 id, ⟨a, c, hf.cell k9 id, ka.fr hf⟩, hf.cell k10 id⟩
/-- Instructions behind a slice's head. -/
def InsL (w : World) (a : Option Addr) (l : List Inn) : Prop := ∀ k, k < l.length → ∃ g o, a = some ⟨g, o, none⟩ ∧ InsAt w g (o + k * 11) (l.getD k inn0)
theorem InsL.fr {w w' : World} {a : Option Addr} {l : List Inn} (h : InsL w a l) (hf : Fr (fun _ => False) w w') : InsL w' a l := fun k hk => by
  obtain ⟨g, o, e, c⟩ := h k hk
  exact ⟨g, o, e, c.fr hf⟩
/-- A block's five cells. -/
def BkAt (w : World) (g o : Nat) (b : Bk) : Prop :=
  (∃ a c, w.cell? ⟨g, o, none⟩ = some (.slice a b.ins.length c) ∧ InsL w a b.ins) ∧ w.cell? ⟨g, o + 1, none⟩ = some (.int .i64 b.en) ∧ w.cell? ⟨g, o + 2, none⟩ = some (.int .i64 b.a) ∧ w.cell? ⟨g, o + 3, none⟩ = some (.int .i64 b.t) ∧ w.cell? ⟨g, o + 4, none⟩ = some (.int .i64 b.el)
theorem BkAt.fr {w w' : World} {g o : Nat} {b : Bk} (h : BkAt w g o b) (hf : Fr (fun _ => False) w w') : BkAt w' g o b := by
  obtain ⟨⟨a, c, k0, ka⟩, k1, k2, k3, k4⟩ := h
  exact ⟨⟨a, c, hf.cell k0 id, ka.fr hf⟩, hf.cell k1 id, hf.cell k2 id, hf.cell k3 id, hf.cell k4 id⟩
def BkL (w : World) (a : Option Addr) (l : List Bk) : Prop := ∀ k, k < l.length → ∃ g o, a = some ⟨g, o, none⟩ ∧ BkAt w g (o + k * 5) (l.getD k bk0)
theorem BkL.fr {w w' : World} {a : Option Addr} {l : List Bk} (h : BkL w a l) (hf : Fr (fun _ => False) w w') : BkL w' a l := fun k hk => by
  obtain ⟨g, o, e, c⟩ := h k hk
  exact ⟨g, o, e, c.fr hf⟩
theorem getD_mem {l : List Bk} {k : Nat} (h : k < l.length) : l.getD k bk0 ∈ l := by
  rw [List.getD_eq_getElem?_getD, List.getElem?_eq_getElem h]; exact List.getElem_mem _
theorem getD_memI {l : List Inn} {k : Nat} (h : k < l.length) : l.getD k inn0 ∈ l := by
  rw [List.getD_eq_getElem?_getD, List.getElem?_eq_getElem h]; exact List.getElem_mem _
end Go.Proofs.Ythdkmjbeemfbbaa
