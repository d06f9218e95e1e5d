/-
  Tables of types (layer 8): an act: what lies in its boxes.
-/
import Derived.Test.YtbhhmmfopammgaaKindGa
import Derived.Outline
namespace Go.Proofs.Ytbhhmmfopammgaa
open Go.RowKit
set_option linter.unusedVariables false
set_option linter.unusedSimpArgs false
structure ActV where
  kind : Int
  n : Int
  long : Int
  name : ByteArray
  fa : Option Addr
  fn : Nat
  fc : Nat
def ActV.vals (a : ActV) : List Value := [.int .i64 a.kind, .int .i64 a.n, .int .i64 a.long, .string a.name, .slice a.fa a.fn a.fc]
/-- The boxes of an act, in memory that came from w. -/
structure DoneW (F G : Face) (w W : World) (x : ActV) : Prop where
  p : G.P W
  sz : w.heap.size + 2 ≤ W.heap.size
  z0 : W.cell? ⟨w.heap.size, 0, none⟩ = some (.int .i64 x.kind)
  z1 : W.cell? ⟨w.heap.size, 1, none⟩ = some (.int .i64 x.n)
  z2 : W.cell? ⟨w.heap.size, 2, none⟩ = some (.int .i64 x.long)
  z3 : W.cell? ⟨w.heap.size, 3, none⟩ = some (.string x.name)
  z4 : W.cell? ⟨w.heap.size, 4, none⟩ = some (.slice x.fa x.fn x.fc)
  r : ∀ j, j < 3 → (∃ y, W.cell? ⟨w.heap.size + 1, j, none⟩ = some y) ∧ W.frozen? ⟨w.heap.size + 1, j, none⟩ = false
  o0 : G.off W w.heap.size
  o1 : G.off W (w.heap.size + 1)
  lo : G.lo ≤ w.heap.size
  tr : Trn F G w W
theorem DoneW.turn {F G H : Face} {w W W' : World} {x : ActV} (h : DoneW F G w W x) (ht : Trn G H W W') (hp : H.P W') (hl : H.lo = G.lo) : DoneW F H w W' x :=
  ⟨hp, Nat.le_trans h.sz ht.1, ht.cell h.z0 h.o0, ht.cell h.z1 h.o0, ht.cell h.z2 h.o0, ht.cell h.z3 h.o0, ht.cell h.z4 h.o0,
    fun j hj => ⟨(h.r j hj).1.elim fun y hy => ⟨y, ht.cell hy h.o1⟩, (h.r j hj).1.elim fun y hy => (ht.frozen hy h.o1).trans (h.r j hj).2⟩,
    (ht.2 _ (by have := h.sz; omega) h.o0).2, (ht.2 _ (by have := h.sz; omega) h.o1).2, by rw [hl]; exact h.lo, h.tr.trans ht⟩
theorem DoneW.quiet {F G : Face} {w W W' : World} {x : ActV} (h : DoneW F G w W x) (hf : Fr (fun _ => False) W W') : DoneW F G w W' x :=
  h.turn (Trn.quiet h.p hf) (G.quiet h.p hf) rfl
theorem DoneW.start {F : Face} {w : World} (h : F.P w) (x : ActV) : DoneW F F w ((w.alloc (.cells #[.int .i64 x.kind, .int .i64 x.n, .int .i64 x.long, .string x.name, .slice x.fa x.fn x.fc] 35)).alloc (.cells #[.int .i64 0, .slice none 0 0, .int .i64 0] 31)) x := by
  obtain ⟨w1, h1⟩ : ∃ w1, w1 = w.alloc (.cells #[.int .i64 x.kind, .int .i64 x.n, .int .i64 x.long, .string x.name, .slice x.fa x.fn x.fc] 35) := ⟨_, rfl⟩
  have f1 : Fr (fun _ => False) w w1 := by rw [h1]; exact fr_al (Fr.refl _ _) _
  have s1 : w1.heap.size = w.heap.size + 1 := by rw [h1]; simp
  have f2 := fr_al (Fr.refl (fun _ => False) w1) (.cells #[.int .i64 0, .slice none 0 0, .int .i64 0] 31)
  have k : ∀ j y, (#[Value.int .i64 x.kind, .int .i64 x.n, .int .i64 x.long, .string x.name, .slice x.fa x.fn x.fc] : Array Value)[j]? = some y → (w1.alloc (.cells #[.int .i64 0, .slice none 0 0, .int .i64 0] 31)).cell? ⟨w.heap.size, j, none⟩ = some y := fun j y hy => f2.cell (by rw [h1]; exact fcell w _ _ j _ hy) id
  rw [← h1]
  have p1 := F.quiet h f1
  refine ⟨F.quiet p1 f2, by simp; omega, k 0 _ rfl, k 1 _ rfl, k 2 _ rfl, k 3 _ rfl, k 4 _ rfl, fun j hj => ?_, F.offq p1 f2 (F.offq h f1 (F.new w _ h (Nat.le_refl _))), F.offq p1 f2 (F.new w1 _ p1 (by omega)), F.le w h, (Trn.quiet h f1).trans (Trn.quiet p1 f2)⟩
  rw [← s1]
  exact ⟨⟨_, fcell w1 _ _ j _ (Array.getElem?_eq_getElem (by simpa using hj))⟩, World.frozen?_alloc_new _ _ _ _⟩
/-- What an act leaves. -/
def DoneP (F G : Face) (w : World) (A B N E : Int) (rs : List RT) (r : Ending) (w' : World) : Prop :=
  ∃ a n c, r = .returned (.tuple #[.int .i64 A, .int .i64 B, .agg #[.int .i64 N, .slice a n c, .int .i64 E]]) ∧ G.P w' ∧ Trn F G w w' ∧ RAt w' a n rs ∧ G.offA w' a rs.length
theorem done_end {F G : Face} {w w2 w3 : World} {x : ActV} {a0 : Option Addr} {n0 : Nat} {rs0 : List RT} {A B N E : Int} {rs : List RT} {a : Option Addr} {n c : Nat} (h2 : DoneW F G w w2 x) (h0 : RAt w a0 n0 rs0) (hoa : F.offA w a0 rs0.length) (hr : RAt w3 a n rs) (hf : Fr (fun _ => False) w2 w3)
    (hd : (a = a0 ∧ rs = rs0) ∨ ∃ g, a = some ⟨g, 0, none⟩ ∧ w2.heap.size ≤ g ∧ g < w3.heap.size) :
    DoneP F G w A B N E rs (.returned (.tuple #[.int .i64 A, .int .i64 B, .agg #[.int .i64 N, .slice a n c, .int .i64 E]])) (((w3.setCell ⟨w.heap.size + 1, 0, none⟩ (.int .i64 N)).setCell ⟨w.heap.size + 1, 1, none⟩ (.slice a n c)).setCell ⟨w.heap.size + 1, 2, none⟩ (.int .i64 E)) := by
  have h3 := h2.quiet hf
  obtain ⟨w4, h4⟩ : ∃ w4, w4 = ((w3.setCell ⟨w.heap.size + 1, 0, none⟩ (.int .i64 N)).setCell ⟨w.heap.size + 1, 1, none⟩ (.slice a n c)).setCell ⟨w.heap.size + 1, 2, none⟩ (.int .i64 E) := ⟨_, rfl⟩
  have hq : (fun j => j = w.heap.size + 1) (w.heap.size + 1) := rfl
  have hw : Fr (fun j => j = w.heap.size + 1) w3 w4 := by rw [h4]; exact fr_setF (fr_setF (fr_setF (Fr.refl (fun j => j = w.heap.size + 1) w3) hq _ _) hq _ _) hq _ _
  rw [← h4]
  have hk := G.keep w3 w4 h3.p (hw.mono (fun j _ e => by rw [e]; exact ⟨h3.o1, by have := h3.lo; omega⟩))
  have ht : Trn F G w w4 := Trn.write h3.p (hw.mono (fun j _ e => by rw [e]; exact ⟨h3.o1, by have := h3.lo; omega, by omega⟩)) h3.tr
  refine ⟨a, n, c, rfl, hk.1, ht, hr.kept hw (fun g o e hne hh => ?_), fun g o e hne => ?_⟩
  · rcases hd with ⟨e1, e2⟩ | ⟨g', e1, hg, _⟩
    · subst e1 e2
      have := (hoa g o e hne).2
      omega
    · rw [e] at e1
      injection e1 with e1
      injection e1 with e1
      have := h2.sz
      omega
  · rcases hd with ⟨e1, e2⟩ | ⟨g', e1, hg, hg2⟩
    · subst e1
      exact ht.offA hoa g o e (by subst e2; exact hne)
    · rw [e] at e1
      injection e1 with e1
      injection e1 with e1
      subst e1
      exact ⟨hk.2 _ (G.offq h2.p hf (G.new w2 g h2.p hg)), Nat.lt_of_lt_of_le hg2 hw.size⟩
end Go.Proofs.Ytbhhmmfopammgaa
