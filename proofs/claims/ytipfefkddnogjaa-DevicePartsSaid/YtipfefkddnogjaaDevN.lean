/-
  The machine (layer 3) as plain data; where it lies; frames.
-/
import Derived.WalkKit
import Derived.RowKit3
import Derived.Laws.AppendOwn
import Derived.Below
import Derived.Deep.Draws
import Derived.Carry
namespace Go.Proofs.Ytipfefkddnogjaa
open Go.RowKit
set_option linter.unusedVariables false
set_option linter.unusedSimpArgs false
/-- w' is w but for the blocks F and new ones. -/
structure Fr (F : Nat → Prop) (w w' : World) : Prop where
  os : w'.os = w.os
  output : w'.output = w.output
  size : w.heap.size ≤ w'.heap.size
  block : ∀ k, k < w.heap.size → ¬ F k → w'.heap[k]? = w.heap[k]?
theorem Fr.refl (F : Nat → Prop) (w : World) : Fr F w w := ⟨rfl, rfl, Nat.le_refl _, fun _ _ _ => rfl⟩
theorem Fr.trans {F : Nat → Prop} {a b c : World} (h : Fr F a b) (k : Fr F b c) : Fr F a c :=
  ⟨k.os.trans h.os, k.output.trans h.output, Nat.le_trans h.size k.size, fun i hi hn => (k.block i (Nat.lt_of_lt_of_le hi h.size) hn).trans (h.block i hi hn)⟩
theorem Fr.mono {F G : Nat → Prop} {a b : World} (h : Fr F a b) (hg : ∀ k, k < a.heap.size → F k → G k) : Fr G a b := ⟨h.os, h.output, h.size, fun k hk hn => h.block k hk (fun hf => hn (hg k hk hf))⟩
/-- Two frames in a row, the second's blocks being the first's or new. -/
theorem Fr.trans' {F G : Nat → Prop} {a b c : World} (h : Fr F a b) (k : Fr G b c) (hg : ∀ j, j < a.heap.size → G j → F j) : Fr F a c :=
  ⟨k.os.trans h.os, k.output.trans h.output, Nat.le_trans h.size k.size, fun i hi hn => (k.block i (Nat.lt_of_lt_of_le hi h.size) (fun hgi => hn (hg i hi hgi))).trans (h.block i hi hn)⟩
theorem Fr.of_by {w w' : World} {row : Option Nat} (h : w.grownBy w' row) : Fr (fun k => row = some k) w w' :=
  ⟨h.os, h.output, h.size, fun k hk hn => h.block k hk (fun e => hn e.symm)⟩
theorem Fr.of_by0 {F : Nat → Prop} {w w' : World} (h : w.grownBy w' none) : Fr F w w' :=
  ⟨h.os, h.output, h.size, fun k hk hn => h.block k hk (by simp)⟩
theorem Fr.of_grown {F : Nat → Prop} {w w' : World} (h : Grown w w') : Fr F w w' := by
  obtain ⟨⟨h1, h2, h3⟩, hf, hs⟩ := h
  refine ⟨h1, h2, hs, fun k hk _ => ?_⟩
  have hm := h3 k hk
  cases hw : w.heap[k]? with
  | none => rw [hw] at hm; simpa using hm
  | some o =>
    cases hw' : w'.heap[k]? with
    | none => rw [hw, hw'] at hm; revert hm; cases o <;> simp
    | some o' =>
      rw [hw, hw'] at hm
      revert hm
      cases o <;> cases o' <;> simp
      · rename_i c t f c' t' f'
        intro a b e d
        refine ⟨?_, a, b⟩
        apply Array.ext_getElem?
        intro i
        exact d i
      all_goals first | (intro a b; exact ⟨a, b⟩) | (intro a; exact a) | trivial
theorem Fr.setCell {F : Nat → Prop} (w : World) (a : Addr) (v : Value) (h : F a.block) : Fr F w (w.setCell a v) :=
  ⟨rfl, rfl, by simp [World.setCell], fun k _ hn => Below.heap_setCell w a v k (fun e => hn (e ▸ h))⟩
theorem Fr.drewN {F : Nat → Prop} {w w1 : World} (h : Fr F w w1) (n : Nat) : Fr F w (w1.drewN n) := ⟨h.os, h.output, h.size, h.block⟩
theorem Fr.cell {F : Nat → Prop} {w w' : World} (h : Fr F w w') {a : Addr} {v : Value} (hc : w.cell? a = some v) (hn : ¬ F a.block) : w'.cell? a = some v :=
  (World.cell?_of_block (h.block a.block (World.block_lt_of_cell? w a hc) hn)).trans hc
theorem Fr.frozen {F : Nat → Prop} {w w' : World} (h : Fr F w w') {a : Addr} {v : Value} (hc : w.cell? a = some v) (hn : ¬ F a.block) : w'.frozen? a = w.frozen? a :=
  World.frozen?_of_block (h.block a.block (World.block_lt_of_cell? w a hc) hn)
theorem Fr.owns {F : Nat → Prop} {w w' : World} (hg : Fr F w w') {base : Nat} {e : TypeId} {size : Nat} {v : Value} {n : Nat} {xs : List Value} (h : w.ownsRow base e size v n xs) (hne : ∀ k, v.ownBlock = some k → ¬ F k) : w'.ownsRow base e size v n xs := by
  refine ⟨h.1, ?_⟩
  rcases h.2 with hn | ⟨g, cap, cur, rfl, hb, hgg, rest⟩
  · exact .inl hn
  · refine .inr ⟨g, cap, cur, rfl, hb, ?_, rest⟩
    rw [hg.block g (Array.getElem?_eq_some_iff.1 hgg).1 (hne g rfl)]
    exact hgg
/-- The kind of a cell of a machine. -/
def kindAt (o : Nat) : IntKind := if o = 39 then .i64 else if o = 40 then .i64 else .u32
/-- A machine: its numbers by their places, its data, its log. -/
structure MSt where
  c : Nat → Int
  data : Nat → Int
  log : List (Int × Int)
def updN (f : Nat → Int) (k : Nat) (v : Int) : Nat → Int := fun o => if o = k then v else f o
/-- What of a machine never changes: its blocks, its code, its inputs. -/
structure Lay where
  b : Nat
  cb : Nat
  co : Nat
  cc : Nat
  db : Nat
  dof : Nat
  dn : Nat
  dc : Nat
  ia : Option Addr
  ic : Nat
  code : List (List Int)
  ins : List Int
def isNum (o : Nat) : Prop := o < 35 ∨ (39 ≤ o ∧ o < 42)
def recCells (l : List (Int × Int)) : List Value := (l.map fun r => [Value.int .u32 r.1, Value.int .u32 r.2]).flatten
/-- A machine lies in a world. -/
structure At (base : Nat) (w : World) (L : Lay) (lv : Value) (s : MSt) : Prop where
  num : ∀ o, isNum o → w.cell? ⟨L.b, o, none⟩ = some (.int (kindAt o) (s.c o))
  code : w.cell? ⟨L.b, 35, none⟩ = some (.slice (some ⟨L.cb, L.co, none⟩) L.code.length L.cc)
  dat : w.cell? ⟨L.b, 36, none⟩ = some (.slice (some ⟨L.db, L.dof, none⟩) L.dn L.dc)
  inp : w.cell? ⟨L.b, 37, none⟩ = some (.slice L.ia L.ins.length L.ic)
  logv : w.cell? ⟨L.b, 38, none⟩ = some lv
  own : w.ownsRow base 66 2 lv s.log.length (recCells s.log)
  free : ∀ o, o < 42 → w.frozen? ⟨L.b, o, none⟩ = false
  byte : ∀ k, k < L.dn → w.cell? ⟨L.db, L.dof + k, none⟩ = some (.int .u8 (s.data k))
  dfree : ∀ k, k < L.dn → w.frozen? ⟨L.db, L.dof + k, none⟩ = false
  insts : ∀ k, k < L.code.length → ∀ j, j < 5 → w.cell? ⟨L.cb, L.co + k * 5 + j, none⟩ = some (.int .i64 ((L.code.getD k []).getD j 0))
  inputs : ∀ k, k < L.ins.length → ∃ b o, L.ia = some ⟨b, o, none⟩ ∧ w.cell? ⟨b, o + k, none⟩ = some (.int .u32 (L.ins.getD k 0))
  bw : ∀ o, isNum o → 0 ≤ s.c o
  bu : ∀ o, isNum o → kindAt o = .u32 → s.c o ≤ 4294967295
  bd : ∀ k, k < L.dn → 0 ≤ s.data k ∧ s.data k ≤ 255
  bb : base ≤ w.heap.size
  ilt : ∀ a, L.ia = some a → a.block < w.heap.size
/-- The instructions of the code are such as Decode gives. -/
def CodeOk (L : Lay) : Prop := 0 < L.code.length ∧ ∀ i ∈ L.code, i.length = 5 ∧ 0 ≤ i.getD 0 0 ∧ i.getD 0 0 ≤ 45 ∧ (0 ≤ i.getD 1 0 ∧ i.getD 1 0 < 32) ∧ (0 ≤ i.getD 2 0 ∧ i.getD 2 0 < 32) ∧ (0 ≤ i.getD 3 0 ∧ i.getD 3 0 < 32)
/-- What lies where, for good. -/
structure Wf (base : Nat) (L : Lay) (lv : Value) : Prop where
  db : L.db ≠ L.b
  cb : L.cb ≠ L.b
  cd : L.cb ≠ L.db
  ib : ∀ a, L.ia = some a → a.block ≠ L.b ∧ a.block ≠ L.db
  dn : 4 ≤ L.dn ∧ L.dn ≤ 65536 ∧ L.dn % 4 = 0
  cn : 1 ≤ L.code.length ∧ L.code.length ≤ 32768
  inn : L.ins.length ≤ 100000
  lb : ∀ g, lv.ownBlock = some g → g ≠ L.b ∧ g ≠ L.db ∧ g ≠ L.cb ∧ (∀ a, L.ia = some a → g ≠ a.block)
  insb : ∀ k, k < L.ins.length → 0 ≤ L.ins.getD k 0 ∧ L.ins.getD k 0 ≤ 4294967295
  ok : CodeOk L
/-- The blocks that a machine writes. -/
def Foot (L : Lay) (lv : Value) (k : Nat) : Prop := k = L.b ∨ k = L.db ∨ lv.ownBlock = some k
end Go.Proofs.Ytipfefkddnogjaa
