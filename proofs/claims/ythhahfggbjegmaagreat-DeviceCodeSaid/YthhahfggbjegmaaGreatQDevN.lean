/-
  The machine (layer 3) as plain data; where it lies; frames. How a machine lies in a world behind each kind of write. The contracts of holds, multiply and compute (layer 3): what branches and arithmetic instructions make of two words.
-/
import Derived.WalkKit
import Derived.RowKit3
import Derived.Laws.AppendOwn
import Derived.Below
import Derived.Deep.Draws
import Derived.Carry
import Derived.Test.YthhahfggbjegmaaGreatQShift
import Derived.Maps.AppendAt
import Derived.BigQuiet
import Derived.Deep.QuietTactic
namespace Go.Proofs.YthhahfggbjegmaaGreat
open Go.RowKit
set_option linter.unusedVariables false
set_option linter.unusedSimpArgs false
/-- w' is w but for the blocks F and new ones. -/
structure Fr (F : Nat → Prop) (w w' : World) : Prop where
  os : w'.os = w.os
  output : w'.output = w.output
  size : w.heap.size ≤ w'.heap.size
  block : ∀ k, k < w.heap.size → ¬ F k → w'.heap[k]? = w.heap[k]?
theorem Fr.refl (F : Nat → Prop) (w : World) : Fr F w w := ⟨rfl, rfl, Nat.le_refl _, fun _ _ _ => rfl⟩
theorem Fr.trans {F : Nat → Prop} {a b c : World} (h : Fr F a b) (k : Fr F b c) : Fr F a c :=
  ⟨k.os.trans h.os, k.output.trans h.output, Nat.le_trans h.size k.size, fun i hi hn => (k.block i (Nat.lt_of_lt_of_le hi h.size) hn).trans (h.block i hi hn)⟩
theorem Fr.mono {F G : Nat → Prop} {a b : World} (h : Fr F a b) (hg : ∀ k, k < a.heap.size → F k → G k) : Fr G a b := ⟨h.os, h.output, h.size, fun k hk hn => h.block k hk (fun hf => hn (hg k hk hf))⟩
/-- Two frames in a row, the second's blocks being the first's or new. -/
theorem Fr.trans' {F G : Nat → Prop} {a b c : World} (h : Fr F a b) (k : Fr G b c) (hg : ∀ j, j < a.heap.size → G j → F j) : Fr F a c :=
  ⟨k.os.trans h.os, k.output.trans h.output, Nat.le_trans h.size k.size, fun i hi hn => (k.block i (Nat.lt_of_lt_of_le hi h.size) (fun hgi => hn (hg i hi hgi))).trans (h.block i hi hn)⟩
theorem Fr.of_by {w w' : World} {row : Option Nat} (h : w.grownBy w' row) : Fr (fun k => row = some k) w w' :=
  ⟨h.os, h.output, h.size, fun k hk hn => h.block k hk (fun e => hn e.symm)⟩
theorem Fr.of_by0 {F : Nat → Prop} {w w' : World} (h : w.grownBy w' none) : Fr F w w' :=
  ⟨h.os, h.output, h.size, fun k hk hn => h.block k hk (by simp)⟩
theorem Fr.of_grown {F : Nat → Prop} {w w' : World} (h : Grown w w') : Fr F w w' := by
  obtain ⟨⟨h1, h2, h3⟩, hf, hs⟩ := h
  refine ⟨h1, h2, hs, fun k hk _ => ?_⟩
  have hm := h3 k hk
  cases hw : w.heap[k]? with
  | none => rw [hw] at hm; simpa using hm
  | some o =>
    cases hw' : w'.heap[k]? with
    | none => rw [hw, hw'] at hm; revert hm; cases o <;> simp
    | some o' =>
      rw [hw, hw'] at hm
      revert hm
      cases o <;> cases o' <;> simp
      · rename_i c t f c' t' f'
        intro a b e d
        refine ⟨?_, a, b⟩
        apply Array.ext_getElem?
        intro i
        exact d i
      all_goals first | (intro a b; exact ⟨a, b⟩) | (intro a; exact a) | trivial
theorem Fr.setCell {F : Nat → Prop} (w : World) (a : Addr) (v : Value) (h : F a.block) : Fr F w (w.setCell a v) :=
  ⟨rfl, rfl, by simp [World.setCell], fun k _ hn => Below.heap_setCell w a v k (fun e => hn (e ▸ h))⟩
theorem Fr.drewN {F : Nat → Prop} {w w1 : World} (h : Fr F w w1) (n : Nat) : Fr F w (w1.drewN n) := ⟨h.os, h.output, h.size, h.block⟩
theorem Fr.cell {F : Nat → Prop} {w w' : World} (h : Fr F w w') {a : Addr} {v : Value} (hc : w.cell? a = some v) (hn : ¬ F a.block) : w'.cell? a = some v :=
  (World.cell?_of_block (h.block a.block (World.block_lt_of_cell? w a hc) hn)).trans hc
theorem Fr.frozen {F : Nat → Prop} {w w' : World} (h : Fr F w w') {a : Addr} {v : Value} (hc : w.cell? a = some v) (hn : ¬ F a.block) : w'.frozen? a = w.frozen? a :=
  World.frozen?_of_block (h.block a.block (World.block_lt_of_cell? w a hc) hn)
theorem Fr.owns {F : Nat → Prop} {w w' : World} (hg : Fr F w w') {base : Nat} {e : TypeId} {size : Nat} {v : Value} {n : Nat} {xs : List Value} (h : w.ownsRow base e size v n xs) (hne : ∀ k, v.ownBlock = some k → ¬ F k) : w'.ownsRow base e size v n xs := by
  refine ⟨h.1, ?_⟩
  rcases h.2 with hn | ⟨g, cap, cur, rfl, hb, hgg, rest⟩
  · exact .inl hn
  · refine .inr ⟨g, cap, cur, rfl, hb, ?_, rest⟩
    rw [hg.block g (Array.getElem?_eq_some_iff.1 hgg).1 (hne g rfl)]
    exact hgg
/-- The kind of a cell of a machine. -/
def kindAt (o : Nat) : IntKind := if o = 39 then .i64 else if o = 40 then .i64 else .u32
/-- A machine: its numbers by their places, its data, its log. -/
structure MSt where
  c : Nat → Int
  data : Nat → Int
  log : List (Int × Int)
def updN (f : Nat → Int) (k : Nat) (v : Int) : Nat → Int := fun o => if o = k then v else f o
/-- What of a machine never changes: its blocks, its code, its inputs. -/
structure Lay where
  b : Nat
  cb : Nat
  co : Nat
  cc : Nat
  db : Nat
  dof : Nat
  dn : Nat
  dc : Nat
  ia : Option Addr
  ic : Nat
  code : List (List Int)
  ins : List Int
def isNum (o : Nat) : Prop := o < 35 ∨ (39 ≤ o ∧ o < 42)
def recCells (l : List (Int × Int)) : List Value := (l.map fun r => [Value.int .u32 r.1, Value.int .u32 r.2]).flatten
/-- A machine lies in a world. -/
structure At (base : Nat) (w : World) (L : Lay) (lv : Value) (s : MSt) : Prop where
  num : ∀ o, isNum o → w.cell? ⟨L.b, o, none⟩ = some (.int (kindAt o) (s.c o))
  code : w.cell? ⟨L.b, 35, none⟩ = some (.slice (some ⟨L.cb, L.co, none⟩) L.code.length L.cc)
  dat : w.cell? ⟨L.b, 36, none⟩ = some (.slice (some ⟨L.db, L.dof, none⟩) L.dn L.dc)
  inp : w.cell? ⟨L.b, 37, none⟩ = some (.slice L.ia L.ins.length L.ic)
  logv : w.cell? ⟨L.b, 38, none⟩ = some lv
  own : w.ownsRow base 63 2 lv s.log.length (recCells s.log)
  free : ∀ o, o < 42 → w.frozen? ⟨L.b, o, none⟩ = false
  byte : ∀ k, k < L.dn → w.cell? ⟨L.db, L.dof + k, none⟩ = some (.int .u8 (s.data k))
  dfree : ∀ k, k < L.dn → w.frozen? ⟨L.db, L.dof + k, none⟩ = false
  insts : ∀ k, k < L.code.length → ∀ j, j < 5 → w.cell? ⟨L.cb, L.co + k * 5 + j, none⟩ = some (.int .i64 ((L.code.getD k []).getD j 0))
  inputs : ∀ k, k < L.ins.length → ∃ b o, L.ia = some ⟨b, o, none⟩ ∧ w.cell? ⟨b, o + k, none⟩ = some (.int .u32 (L.ins.getD k 0))
  bw : ∀ o, isNum o → 0 ≤ s.c o
  bu : ∀ o, isNum o → kindAt o = .u32 → s.c o ≤ 4294967295
  bd : ∀ k, k < L.dn → 0 ≤ s.data k ∧ s.data k ≤ 255
  bb : base ≤ w.heap.size
  ilt : ∀ a, L.ia = some a → a.block < w.heap.size
/-- The instructions of the code are such as Decode gives. -/
def CodeOk (L : Lay) : Prop := 0 < L.code.length ∧ ∀ i ∈ L.code, i.length = 5 ∧ 0 ≤ i.getD 0 0 ∧ i.getD 0 0 ≤ 45 ∧ (0 ≤ i.getD 1 0 ∧ i.getD 1 0 < 32) ∧ (0 ≤ i.getD 2 0 ∧ i.getD 2 0 < 32) ∧ (0 ≤ i.getD 3 0 ∧ i.getD 3 0 < 32)
/-- What lies where, for good. -/
structure Wf (base : Nat) (L : Lay) (lv : Value) : Prop where
  db : L.db ≠ L.b
  cb : L.cb ≠ L.b
  cd : L.cb ≠ L.db
  ib : ∀ a, L.ia = some a → a.block ≠ L.b ∧ a.block ≠ L.db
  dn : 4 ≤ L.dn ∧ L.dn ≤ 65536 ∧ L.dn % 4 = 0
  cn : 1 ≤ L.code.length ∧ L.code.length ≤ 32768
  inn : L.ins.length ≤ 100000
  lb : ∀ g, lv.ownBlock = some g → g ≠ L.b ∧ g ≠ L.db ∧ g ≠ L.cb ∧ (∀ a, L.ia = some a → g ≠ a.block)
  insb : ∀ k, k < L.ins.length → 0 ≤ L.ins.getD k 0 ∧ L.ins.getD k 0 ≤ 4294967295
  ok : CodeOk L
/-- The blocks that a machine writes. -/
def Foot (L : Lay) (lv : Value) (k : Nat) : Prop := k = L.b ∨ k = L.db ∨ lv.ownBlock = some k
theorem notFoot_cb {base : Nat} {L : Lay} {lv : Value} (h : Wf base L lv) : ¬ Foot L lv L.cb := by
  rintro (e | e | e)
  · exact h.cb e
  · exact h.cd e
  · exact (h.lb _ e).2.2.1 rfl
theorem notFoot_ia {base : Nat} {L : Lay} {lv : Value} (h : Wf base L lv) {a : Addr} (ha : L.ia = some a) : ¬ Foot L lv a.block := by
  rintro (e | e | e)
  · exact (h.ib a ha).1 e
  · exact (h.ib a ha).2 e
  · exact (h.lb _ e).2.2.2 a ha rfl
/-- Elsewhere something was written. -/
theorem At.kept {base : Nat} {w w' : World} {L : Lay} {lv : Value} {s : MSt} {F : Nat → Prop} (h : At base w L lv s) (hf : Fr F w w')
    (nb : ¬ F L.b) (nd : ¬ F L.db) (nl : ∀ k, lv.ownBlock = some k → ¬ F k) (nc : ¬ F L.cb) (ni : ∀ a, L.ia = some a → ¬ F a.block) : At base w' L lv s where
  num o ho := hf.cell (h.num o ho) nb
  code := hf.cell h.code nb
  dat := hf.cell h.dat nb
  inp := hf.cell h.inp nb
  logv := hf.cell h.logv nb
  own := hf.owns h.own nl
  free o ho := by
    have hc : ∃ v, w.cell? ⟨L.b, o, none⟩ = some v := by
      by_cases h1 : isNum o
      · exact ⟨_, h.num o h1⟩
      · have : o = 35 ∨ o = 36 ∨ o = 37 ∨ o = 38 := by unfold isNum at h1; omega
        rcases this with rfl | rfl | rfl | rfl
        · exact ⟨_, h.code⟩
        · exact ⟨_, h.dat⟩
        · exact ⟨_, h.inp⟩
        · exact ⟨_, h.logv⟩
    obtain ⟨v, hv⟩ := hc
    exact (hf.frozen hv nb).trans (h.free o ho)
  byte k hk := hf.cell (h.byte k hk) nd
  dfree k hk := (hf.frozen (h.byte k hk) nd).trans (h.dfree k hk)
  insts k hk j hj := hf.cell (h.insts k hk j hj) nc
  inputs k hk := by
    obtain ⟨b, o, e, hc⟩ := h.inputs k hk
    exact ⟨b, o, e, hf.cell hc (ni ⟨b, o, none⟩ e)⟩
  bw := h.bw
  bu := h.bu
  bd := h.bd
  bb := Nat.le_trans h.bb hf.size
  ilt a ha := Nat.lt_of_lt_of_le (h.ilt a ha) hf.size
theorem At.grown0 {base : Nat} {w w' : World} {L : Lay} {lv : Value} {s : MSt} (h : At base w L lv s) (hf : Fr (fun _ => False) w w') : At base w' L lv s :=
  h.kept hf id id (fun _ _ => id) id (fun _ _ => id)
theorem At.setNum {base : Nat} {w : World} {L : Lay} {lv : Value} {s : MSt} (h : At base w L lv s) (hw : Wf base L lv) (o : Nat) (ho : isNum o) (v : Int) (v0 : 0 ≤ v) (v1 : kindAt o = .u32 → v ≤ 4294967295) :
    At base (w.setCell ⟨L.b, o, none⟩ (.int (kindAt o) v)) L lv { s with c := updN s.c o v } := by
  have hx : ∀ o', o' ≠ o → (w.setCell ⟨L.b, o, none⟩ (.int (kindAt o) v)).cell? ⟨L.b, o', none⟩ = w.cell? ⟨L.b, o', none⟩ := fun o' hne =>
    World.cell?_setCell_other _ _ _ _ (fun e => hne (by injection e with e1 e2; first | exact e2.symm | exact e1.symm))
  have hy : ∀ (b o' : Nat), b ≠ L.b → (w.setCell ⟨L.b, o, none⟩ (.int (kindAt o) v)).cell? ⟨b, o', none⟩ = w.cell? ⟨b, o', none⟩ := fun b o' hne =>
    World.cell?_setCell_other _ _ _ _ (fun e => hne (by injection e with e1 e2; first | exact e2.symm | exact e1.symm))
  have hn35 : ∀ k, isNum k → k ≠ 35 ∧ k ≠ 36 ∧ k ≠ 37 ∧ k ≠ 38 := fun k hk => by unfold isNum at hk; omega
  obtain ⟨n1, n2, n3, n4⟩ := hn35 o ho
  refine ⟨fun o' ho' => ?_, ?_, ?_, ?_, ?_, ?_, fun o' ho' => (World.frozen?_setCell _ _ _ _).trans (h.free o' ho'), fun k hk => ?_, fun k hk => (World.frozen?_setCell _ _ _ _).trans (h.dfree k hk), fun k hk j hj => ?_, fun k hk => ?_, fun o' ho' => ?_, fun o' ho' hk => ?_, h.bd, by simpa [World.setCell] using h.bb, by simpa [World.setCell] using h.ilt⟩
  · by_cases e : o' = o
    · subst e
      rw [World.cell?_setCell_same _ _ _ (h.num o' ho)]
      simp [updN]
    · rw [hx o' e, h.num o' ho']
      simp [updN, e]
  · rw [hx 35 (Ne.symm n1)]; exact h.code
  · rw [hx 36 (Ne.symm n2)]; exact h.dat
  · rw [hx 37 (Ne.symm n3)]; exact h.inp
  · rw [hx 38 (Ne.symm n4)]; exact h.logv
  · exact (Fr.setCell (F := fun k => k = L.b) w ⟨L.b, o, none⟩ _ rfl).owns h.own (fun k hk e => (hw.lb k hk).1 e)
  · rw [hy _ _ hw.db]; exact h.byte k hk
  · rw [hy _ _ hw.cb]; exact h.insts k hk j hj
  · obtain ⟨b, o', e, hc⟩ := h.inputs k hk
    exact ⟨b, o', e, by rw [hy _ _ (hw.ib ⟨b, o', none⟩ e).1]; exact hc⟩
  · show 0 ≤ updN s.c o v o'
    unfold updN; split
    · exact v0
    · exact h.bw o' ho'
  · show updN s.c o v o' ≤ 4294967295
    unfold updN; split
    · rename_i e; subst e; exact v1 hk
    · exact h.bu o' ho' hk
theorem At.setByte {base : Nat} {w : World} {L : Lay} {lv : Value} {s : MSt} (h : At base w L lv s) (hw : Wf base L lv) (k : Nat) (hk : k < L.dn) (v : Int) (v0 : 0 ≤ v ∧ v ≤ 255) :
    At base (w.setCell ⟨L.db, L.dof + k, none⟩ (.int .u8 v)) L lv { s with data := updN s.data k v } := by
  have hy : ∀ (b o' : Nat), b ≠ L.db → (w.setCell ⟨L.db, L.dof + k, none⟩ (.int .u8 v)).cell? ⟨b, o', none⟩ = w.cell? ⟨b, o', none⟩ := fun b o' hne =>
    World.cell?_setCell_other _ _ _ _ (fun e => hne (by injection e with e1 e2; first | exact e2.symm | exact e1.symm))
  refine ⟨fun o' ho' => ?_, ?_, ?_, ?_, ?_, ?_, fun o' ho' => (World.frozen?_setCell _ _ _ _).trans (h.free o' ho'), fun j hj => ?_, fun j hj => (World.frozen?_setCell _ _ _ _).trans (h.dfree j hj), fun j hj i hi => ?_, fun j hj => ?_, h.bw, h.bu, fun j hj => ?_, by simpa [World.setCell] using h.bb, by simpa [World.setCell] using h.ilt⟩
  · rw [hy _ _ (Ne.symm hw.db)]; exact h.num o' ho'
  · rw [hy _ _ (Ne.symm hw.db)]; exact h.code
  · rw [hy _ _ (Ne.symm hw.db)]; exact h.dat
  · rw [hy _ _ (Ne.symm hw.db)]; exact h.inp
  · rw [hy _ _ (Ne.symm hw.db)]; exact h.logv
  · exact (Fr.setCell (F := fun k => k = L.db) w ⟨L.db, L.dof + k, none⟩ _ rfl).owns h.own (fun k hk e => (hw.lb k hk).2.1 e)
  · show _ = some (Value.int .u8 (updN s.data k v j))
    by_cases e : j = k
    · subst e
      rw [World.cell?_setCell_same _ _ _ (h.byte j hj)]
      simp [updN]
    · rw [World.cell?_setCell_other _ _ _ _ (fun q => e (by injection q with q1 q2; omega)), h.byte j hj]
      simp [updN, e]
  · rw [hy _ _ hw.cd]; exact h.insts j hj i hi
  · obtain ⟨b, o', e, hc⟩ := h.inputs j hj
    exact ⟨b, o', e, by rw [hy _ _ (hw.ib ⟨b, o', none⟩ e).2]; exact hc⟩
  · show 0 ≤ updN s.data k v j ∧ updN s.data k v j ≤ 255
    unfold updN; split
    · exact v0
    · exact h.bd j hj

theorem byRefl (w : World) : w.grownBy w none := ⟨rfl, rfl, rfl, Nat.le_refl _, fun _ _ _ => rfl⟩
theorem byAlloc {w w1 : World} (h : w.grownBy w1 none) (o : Obj) : w.grownBy (w1.alloc o) none := h.trans (World.grownBy_alloc _ _ _)
theorem byDrewN {w w1 : World} (h : w.grownBy w1 none) (n : Nat) : w.grownBy (w1.drewN n) none := ⟨h.os, h.tape, h.output, h.size, h.block⟩
/-- Does the condition of a branch hold? -/
def holdsF (op a b : Int) : Bool :=
  if op = 5 then a == b else if op = 6 then a != b else if op = 7 then lessF a b != 0 else if op = 8 then lessF a b == 0 else if op = 9 then lessUF a b != 0 else lessUF a b == 0
theorem dv84 (op a b : Int) (ho : 5 ≤ op ∧ op ≤ 10) (a0 : 0 ≤ a) (a1 : a ≤ 4294967295) (b0 : 0 ≤ b) (b1 : b ≤ 4294967295) (w : World) :
    Calls Tryz.prog 56 #[.int .i64 op, .int .u32 a, .int .u32 b] w fun e w' => e = .returned (.bool (holdsF op a b)) ∧ w = w' := by
  have hc : op = 5 ∨ op = 6 ∨ op = 7 ∨ op = 8 ∨ op = 9 ∨ op = 10 := by omega
  rcases hc with rfl | rfl | rfl | rfl | rfl | rfl
  all_goals
    clear ho
    go_enter Tryz.func56, Tryz.ntmps56
    go_wp2_with (first
      | (go_at_call 87; (with_reducible refine (c87 a b a0 a1 b0 b1 _).mono ?_); rintro e w' ⟨rfl, rfl⟩)
      | (go_at_call 88; (with_reducible refine (c88 a b a0 a1 b0 b1 _).mono ?_); rintro e w' ⟨rfl, rfl⟩))
    go_ret
    exact ⟨rfl, rfl⟩
def multF (op a b : Int) : Int :=
  if op = 38 then mulF a b else if op = 39 then highF a b else if op = 40 then highSUF a b else if op = 41 then highUF a b else if op = 42 then divF a b else if op = 43 then divUF a b else if op = 44 then remF a b else remUF a b
theorem dv98 (op a b : Int) (ho : 38 ≤ op ∧ op ≤ 45) (a0 : 0 ≤ a) (a1 : a ≤ 4294967295) (b0 : 0 ≤ b) (b1 : b ≤ 4294967295) (w : World) :
    Calls Tryz.prog 97 #[.int .i64 op, .int .u32 a, .int .u32 b] w fun e w' => e = .returned (.int .u32 (multF op a b)) ∧ w.grownBy w' none := by
  have hc : op = 38 ∨ op = 39 ∨ op = 40 ∨ op = 41 ∨ op = 42 ∨ op = 43 ∨ op = 44 ∨ op = 45 := by omega
  have HB := Lib.hid (byRefl w)
  rcases hc with rfl | rfl | rfl | rfl | rfl | rfl | rfl | rfl
  all_goals
    clear ho
    go_enter Tryz.func97, Tryz.ntmps97
    go_wp2_with (first
      | (go_at_call 111; (with_reducible refine (c111 a b a0 a1 b0 b1 _).mono ?_); rintro e w' ⟨rfl, rfl⟩)
      | (go_at_call 112; (with_reducible refine (c112 a b a0 a1 b0 b1 _).mono ?_); rintro e w' ⟨rfl, rfl⟩)
      | (go_at_call 113; (with_reducible refine (c113 a b a0 a1 b0 b1 _).mono ?_); rintro e w' ⟨rfl, rfl⟩)
      | (go_at_call 114; (with_reducible refine (c114 a b a0 a1 b0 b1 _).mono ?_); rintro e w' ⟨rfl, rfl⟩)
      | (go_at_call 115; (with_reducible refine (c115 a b a0 a1 b0 b1 _).mono ?_); rintro e w' ⟨rfl, rfl⟩)
      | (go_at_call 116; (with_reducible refine (c116 a b a0 a1 b0 b1 _).mono ?_); rintro e w' ⟨rfl, rfl⟩)
      | (go_at_call 117; (with_reducible refine (c117 a b a0 a1 b0 b1 _).mono ?_); rintro e w' ⟨rfl, rfl⟩)
      | (go_at_call 118; (with_reducible refine (c118 a b a0 a1 b0 b1 _).mono ?_); rintro e w' ⟨rfl, rfl⟩))
    go_ret
    exact ⟨rfl, (by first | exact HB.out | exact byAlloc HB.out _)⟩
end Go.Proofs.YthhahfggbjegmaaGreat
