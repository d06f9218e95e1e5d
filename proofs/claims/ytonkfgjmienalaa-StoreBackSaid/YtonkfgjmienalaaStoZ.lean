/-
  Memories (layer 11): the walk of the law on what is put and told: rows, the contracts at any kind of value, the two copies.
-/
import Derived.Test.YtonkfgjmienalaaStoY
import Derived.Deep.CutRange
namespace Go.Proofs.Ytonkfgjmienalaa
open Go.RowKit Go.Maps
set_option linter.unusedVariables false
set_option linter.unusedSimpArgs false
def Row (w : World) (b : Nat) (A : Array Value) : Prop := ∀ (j : Nat) (y : Value), A[j]? = some y → w.cell? ⟨b, j, none⟩ = some y
theorem Row.fr {F : Nat → Prop} {w w' : World} {b : Nat} {A : Array Value} (h : Row w b A) (hf : Fr F w w') (hn : ¬ F b) : Row w' b A := fun j y hj => hf.cell (h j y hj) hn
theorem Row.new (w : World) (A : Array Value) (t : TypeId) : Row (w.alloc (.cells A t)) w.heap.size A := fun j y h => fcell w A t j y h
/-- A row of cells that may be written over. -/
def RW (w : World) (b : Nat) (A : Array Value) : Prop := Row w b A ∧ ∀ j, j < A.size → w.frozen? ⟨b, j, none⟩ = false
theorem RW.fr {F : Nat → Prop} {w w' : World} {b : Nat} {A : Array Value} (h : RW w b A) (hf : Fr F w w') (hn : ¬ F b) : RW w' b A :=
  ⟨h.1.fr hf hn, fun j hj => (hf.frozen (h.1 j _ (Array.getElem?_eq_getElem hj)) hn).trans (h.2 j hj)⟩
theorem RW.new (w : World) (A : Array Value) (t : TypeId) : RW (w.alloc (.cells A t)) w.heap.size A := ⟨fun j y h => fcell w A t j y h, fun j _ => World.frozen?_alloc_new _ _ _ _⟩
theorem RW.lt {w : World} {b : Nat} {A : Array Value} (h : RW w b A) (h0 : 0 < A.size) : b < w.heap.size := World.block_lt_of_cell? w _ (h.1 0 _ (Array.getElem?_eq_getElem h0))
theorem frozen_set (w : World) (c i : Nat) (b : Addr) (v : Value) : (w.setCell ⟨c, i, none⟩ v).frozen? b = w.frozen? b := World.frozen?_setCells c [v] i w b
theorem RW.set {w : World} {b i : Nat} {A : Array Value} {v : Value} (h : RW w b A) (hi : i < A.size) : RW (w.setCell ⟨b, i, none⟩ v) b (A.setIfInBounds i v) := by
  refine ⟨fun j y hj => ?_, fun j hj => by rw [frozen_set]; exact h.2 j (by simpa using hj)⟩
  by_cases e : j = i
  · subst e
    rw [Array.getElem?_setIfInBounds_self_of_lt hi] at hj
    cases hj
    exact World.cell?_setCell_same _ _ _ (h.1 j _ (Array.getElem?_eq_getElem hi))
  · rw [Array.getElem?_setIfInBounds_ne (Ne.symm e)] at hj
    exact set_keep (h.1 j y hj) e
theorem RW.set' {w : World} {b c i : Nat} {A : Array Value} {v : Value} (h : RW w b A) (hne : b ≠ c) : RW (w.setCell ⟨c, i, none⟩ v) b A :=
  h.fr (F := fun k => k = c) (Fr.setCell w ⟨c, i, none⟩ v rfl) hne
theorem Fr.up {n : Nat} {F : Nat → Prop} {w a b : World} (h : Fr (fun k => n ≤ k) w a) (k : Fr F a b) (hf : ∀ j, F j → n ≤ j) : Fr (fun k => n ≤ k) w b := h.trans (k.mono (fun j _ e => hf j e))
theorem Fr.fin {n : Nat} {w a : World} (h : Fr (fun k => n ≤ k) w a) (hn : w.heap.size = n) : Fr (fun _ => False) w a := h.mono (fun j hj e => by omega)
/-- A value's six cells. -/
def vlC (u : Int) (p : PV) (is : Bool) : Array Value := #[.int .u32 u, .int .i64 p.ob, .int .i64 p.lo, .int .i64 p.hi, .int .i64 p.off, .bool is]
def ptC (n off : Int) : Array Value := #[.int .i64 1, .int .i64 0, .int .i64 n, .int .i64 off]
def finF (is : Bool) (f : Int → PV) (off : Int) (p : PV) : Int → PV := if is then keepF (forgF f off) off p else forgF f off
theorem put_M {N : Nat} {w : World} {sb ob : Nat} {C : Option Ch} {bs : List BC} {mp : Value} {f : Int → PV} (h : MP N w sb ob C bs mp f) (hN : N ≤ 800) (hs : bs.length < 512) (off : Nat) (h2 : off + 4 ≤ bs.length) (u : Int) (p : PV) (is : Bool) (hu : 0 ≤ u ∧ u < 4294967296) (n : Int) (hn : n = bs.length) (o : Int) (ho : o = off) :
    Calls Try.prog 8 #[.pointer (some ⟨sb, 0, none⟩), .agg #[.int .i64 1, .int .i64 0, .int .i64 n, .int .i64 o], .int .i64 4, .agg #[.int .u32 u, .int .i64 p.ob, .int .i64 p.lo, .int .i64 p.hi, .int .i64 p.off, .bool is]] w (PutP N sb ob C mp (putB bs off (if is then 0 else u) 4) (finF is f o p) w) := by
  subst ho
  cases is with
  | false => exact put_numM h hN hs 0 n off h2 (by omega) (by omega) u p.ob p.lo p.hi p.off hu
  | true => exact put_ptrM h hN hs 0 n off h2 (by omega) (by omega) u p.ob p.lo p.hi p.off hu
theorem load_M {N : Nat} {w : World} {sb ob : Nat} {C : Option Ch} {bs : List BC} {mp : Value} {f : Int → PV} (h : MP N w sb ob C bs mp f) (hs : bs.length < 512) (off : Nat) (h2 : off + 4 ≤ bs.length) (u : Int) (p : PV) (is : Bool) (hu : 0 ≤ u ∧ u < 4294967296) (n : Int) (hn : n = bs.length) (hb : ∀ i, i < 4 → bs.getD (off + i) bc0 = ⟨byt (if is then 0 else u) i, true⟩) (o : Int) (ho : o = off) (hp : is = true → f o = p) :
    Calls Try.prog 9 #[.pointer (some ⟨sb, 0, none⟩), .agg #[.int .i64 1, .int .i64 0, .int .i64 n, .int .i64 o], .int .i64 4, .bool is] w fun r w' => r = .returned (.tuple #[.agg (vlC (if is then 0 else u) (if is then p else pv0) is), .int .i64 0]) ∧ Fr (fun _ => False) w w' := by
  subst ho
  have hset : ∀ i, i < 4 → (bs.getD (off + i) bc0).s = true := fun i hi => by rw [hb i hi]
  cases is with
  | false =>
    have := load_numM h hs 0 n off 4 (by decide) (by decide) h2 (by omega) (by omega) hset
    rw [ld_back hu hb] at this
    exact this
  | true =>
    have := load_ptrM h hs 0 n off 4 (by decide) (by decide) h2 (by omega) (by omega) hset
    rw [hp rfl] at this
    exact this
theorem move_M {N : Nat} {w : World} {sb ob : Nat} {C : Option Ch} {bs : List BC} {mp : Value} {f : Int → PV} (h : MP N w sb ob C bs mp f) (n k : Int) (hk : 0 ≤ k ∧ k ≤ n ∧ n ≤ 1000) :
    Calls Try.prog 7 #[.pointer (some ⟨sb, 0, none⟩), .agg #[.int .i64 1, .int .i64 0, .int .i64 n, .int .i64 0], .int .i64 k] w fun r w' => r = .returned (.tuple #[.agg #[.int .i64 1, .int .i64 0, .int .i64 n, .int .i64 k], .int .i64 0]) ∧ Fr (fun _ => False) w w' := by
  have := move_ok h.s 0 n 0 k (by omega) (by omega) (by omega) (by omega)
  rw [Int.zero_add] at this
  exact this
theorem FM.first {ob : Nat} {w w' : World} (h : Fr (FM ob none (.map none)) w w') : Fr (fun j => j = ob) w w' := h.mono (fun j _ e => e.elim id (fun e => e.elim (fun ⟨D, e, _⟩ => by cases e) (fun e => by cases e)))
theorem FM.then {ob L : Nat} {C : Option Ch} {mp : Value} {w w' : World} (h : Fr (FM ob C mp) w w') (hc : ∀ b, Ch.has C b → Ch.has none b ∨ L ≤ b) (hm : ∀ b, mp = .map (some b) → (Value.map none) = .map (some b) ∨ L ≤ b) : Fr (fun j => j = ob ∨ L ≤ j) w w' :=
  h.mono (fun j _ e => e.elim Or.inl (fun e => Or.inr (e.elim (fun e => (hc j e).elim (fun ⟨D, e, _⟩ => by cases e) id) (fun e => (hm j e).elim (fun e => by cases e) id))))
theorem finF_same (is : Bool) (f : Int → PV) (off : Int) (p : PV) (h : is = true) : finF is f off p off = p := by subst h; simp [finF, keepF]
theorem finF_far (is : Bool) (f : Int → PV) (off : Int) (p : PV) : finF is f (off + 4) p off = f off := by
  cases is
  · simp only [finF, forgF, Bool.false_eq_true, if_false]; rw [if_neg (by omega)]
  · simp only [finF, forgF, keepF, if_true]; rw [if_neg (by omega), if_neg (by omega)]
theorem eq_val (u a b c d : Int) (is : Bool) (w : World) : Sem.run Try.prog (binOp BinOp.eql 26 (.agg #[.int .u32 u, .int .i64 a, .int .i64 b, .int .i64 c, .int .i64 d, .bool is]) (.agg #[.int .u32 u, .int .i64 a, .int .i64 b, .int .i64 c, .int .i64 d, .bool is])) w = .ok (.bool true) w := by
  go_simp
/-- The two copies of the values. -/
def Two (w : World) (vb wb : Nat) (V U : Array Value) (wx : World) : Prop := w.heap.size ≤ vb ∧ w.heap.size ≤ wb ∧ vb ≠ wb ∧ RW wx vb V ∧ RW wx wb U ∧ Fr (fun _ => False) w wx
theorem Two.mk1 (w : World) (O : Obj) (V U : Array Value) (t : TypeId) (n : Nat) : Two w (w.heap.size + 1) (w.heap.size + 2) V U ((((w.alloc O).alloc (.cells V t)).alloc (.cells U t)).drewN n) := by
  have h1 := RW.new (w.alloc O) V t
  have h2 := RW.new ((w.alloc O).alloc (.cells V t)) U t
  simp only [World.size_alloc] at h1 h2
  exact ⟨by omega, by omega, by omega, (h1.fr (F := fun _ => False) ((fr_al (Fr.refl _ _) _).drewN n) id), h2, (fr_al (fr_al (fr_al (Fr.refl _ _) _) _) _).drewN n⟩
theorem Two.mk2 (w : World) (O : Obj) (V U : Array Value) (t : TypeId) (n : Nat) : Two w (w.heap.size + 2) (w.heap.size + 1) V U ((((w.alloc O).alloc (.cells U t)).alloc (.cells V t)).drewN n) := by
  obtain ⟨a, b, c, d, e, f⟩ := Two.mk1 w O U V t n
  exact ⟨b, a, fun x => c x.symm, e, d, f⟩
/-- The fields that do not count are made nothing. -/
def zer (is : Bool) (w : World) (b : Nat) : World := match is with
  | true => w.setCell ⟨b, 0, none⟩ (.int .u32 0)
  | false => (((w.setCell ⟨b, 1, none⟩ (.int .i64 0)).setCell ⟨b, 2, none⟩ (.int .i64 0)).setCell ⟨b, 3, none⟩ (.int .i64 0)).setCell ⟨b, 4, none⟩ (.int .i64 0)
theorem zer_fr (is : Bool) (w : World) (b : Nat) : Fr (fun j => j = b) w (zer is w b) := by
  cases is
  · exact (((Fr.setCell (F := fun j => j = b) w ⟨b, 1, none⟩ (.int .i64 0) rfl).trans (Fr.setCell _ ⟨b, 2, none⟩ (.int .i64 0) rfl)).trans (Fr.setCell _ ⟨b, 3, none⟩ (.int .i64 0) rfl)).trans (Fr.setCell _ ⟨b, 4, none⟩ (.int .i64 0) rfl)
  · exact Fr.setCell (F := fun j => j = b) w ⟨b, 0, none⟩ (.int .u32 0) rfl
theorem zer_row {is : Bool} {w : World} {b : Nat} {u : Int} {p : PV} (h : RW w b (vlC u p is)) : RW (zer is w b) b (vlC (if is then 0 else u) (if is then p else pv0) is) := by
  cases is
  · exact (((h.set (i := 1) (v := .int .i64 0) (by show 1 < 6; decide)).set (i := 2) (v := .int .i64 0) (by show 2 < 6; decide)).set (i := 3) (v := .int .i64 0) (by show 3 < 6; decide)).set (i := 4) (v := .int .i64 0) (by show 4 < 6; decide)
  · exact h.set (i := 0) (v := .int .u32 0) (by show 0 < 6; decide)
end Go.Proofs.Ytonkfgjmienalaa
