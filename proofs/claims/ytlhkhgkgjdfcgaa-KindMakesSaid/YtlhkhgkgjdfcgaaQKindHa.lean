/-
  Tables of types (layer 8): an act: what lies in its boxes. Tables of types (layer 8): an act that makes a pointer, an array, or opens a struct.
-/
import Derived.Test.YtlhkhgkgjdfcgaaQKindGa
import Derived.Outline
namespace Go.Proofs.Ytlhkhgkgjdfcgaa
open Go.RowKit
set_option linter.unusedVariables false
set_option linter.unusedSimpArgs false
structure ActV where
  kind : Int
  n : Int
  long : Int
  name : ByteArray
  fa : Option Addr
  fn : Nat
  fc : Nat
def ActV.vals (a : ActV) : List Value := [.int .i64 a.kind, .int .i64 a.n, .int .i64 a.long, .string a.name, .slice a.fa a.fn a.fc]
/-- The boxes of an act, in memory that came from w. -/
structure DoneW (F G : Face) (w W : World) (x : ActV) : Prop where
  p : G.P W
  sz : w.heap.size + 2 ≤ W.heap.size
  z0 : W.cell? ⟨w.heap.size, 0, none⟩ = some (.int .i64 x.kind)
  z1 : W.cell? ⟨w.heap.size, 1, none⟩ = some (.int .i64 x.n)
  z2 : W.cell? ⟨w.heap.size, 2, none⟩ = some (.int .i64 x.long)
  z3 : W.cell? ⟨w.heap.size, 3, none⟩ = some (.string x.name)
  z4 : W.cell? ⟨w.heap.size, 4, none⟩ = some (.slice x.fa x.fn x.fc)
  r : ∀ j, j < 3 → (∃ y, W.cell? ⟨w.heap.size + 1, j, none⟩ = some y) ∧ W.frozen? ⟨w.heap.size + 1, j, none⟩ = false
  o0 : G.off W w.heap.size
  o1 : G.off W (w.heap.size + 1)
  lo : G.lo ≤ w.heap.size
  tr : Trn F G w W
theorem DoneW.turn {F G H : Face} {w W W' : World} {x : ActV} (h : DoneW F G w W x) (ht : Trn G H W W') (hp : H.P W') (hl : H.lo = G.lo) : DoneW F H w W' x :=
  ⟨hp, Nat.le_trans h.sz ht.1, ht.cell h.z0 h.o0, ht.cell h.z1 h.o0, ht.cell h.z2 h.o0, ht.cell h.z3 h.o0, ht.cell h.z4 h.o0,
    fun j hj => ⟨(h.r j hj).1.elim fun y hy => ⟨y, ht.cell hy h.o1⟩, (h.r j hj).1.elim fun y hy => (ht.frozen hy h.o1).trans (h.r j hj).2⟩,
    (ht.2 _ (by have := h.sz; omega) h.o0).2, (ht.2 _ (by have := h.sz; omega) h.o1).2, by rw [hl]; exact h.lo, h.tr.trans ht⟩
theorem DoneW.quiet {F G : Face} {w W W' : World} {x : ActV} (h : DoneW F G w W x) (hf : Fr (fun _ => False) W W') : DoneW F G w W' x :=
  h.turn (Trn.quiet h.p hf) (G.quiet h.p hf) rfl
theorem DoneW.start {F : Face} {w : World} (h : F.P w) (x : ActV) : DoneW F F w ((w.alloc (.cells #[.int .i64 x.kind, .int .i64 x.n, .int .i64 x.long, .string x.name, .slice x.fa x.fn x.fc] 35)).alloc (.cells #[.int .i64 0, .slice none 0 0, .int .i64 0] 31)) x := by
  obtain ⟨w1, h1⟩ : ∃ w1, w1 = w.alloc (.cells #[.int .i64 x.kind, .int .i64 x.n, .int .i64 x.long, .string x.name, .slice x.fa x.fn x.fc] 35) := ⟨_, rfl⟩
  have f1 : Fr (fun _ => False) w w1 := by rw [h1]; exact fr_al (Fr.refl _ _) _
  have s1 : w1.heap.size = w.heap.size + 1 := by rw [h1]; simp
  have f2 := fr_al (Fr.refl (fun _ => False) w1) (.cells #[.int .i64 0, .slice none 0 0, .int .i64 0] 31)
  have k : ∀ j y, (#[Value.int .i64 x.kind, .int .i64 x.n, .int .i64 x.long, .string x.name, .slice x.fa x.fn x.fc] : Array Value)[j]? = some y → (w1.alloc (.cells #[.int .i64 0, .slice none 0 0, .int .i64 0] 31)).cell? ⟨w.heap.size, j, none⟩ = some y := fun j y hy => f2.cell (by rw [h1]; exact fcell w _ _ j _ hy) id
  rw [← h1]
  have p1 := F.quiet h f1
  refine ⟨F.quiet p1 f2, by simp; omega, k 0 _ rfl, k 1 _ rfl, k 2 _ rfl, k 3 _ rfl, k 4 _ rfl, fun j hj => ?_, F.offq p1 f2 (F.offq h f1 (F.new w _ h (Nat.le_refl _))), F.offq p1 f2 (F.new w1 _ p1 (by omega)), F.le w h, (Trn.quiet h f1).trans (Trn.quiet p1 f2)⟩
  rw [← s1]
  exact ⟨⟨_, fcell w1 _ _ j _ (Array.getElem?_eq_getElem (by simpa using hj))⟩, World.frozen?_alloc_new _ _ _ _⟩
/-- What an act leaves. -/
def DoneP (F G : Face) (w : World) (A B N E : Int) (rs : List RT) (r : Ending) (w' : World) : Prop :=
  ∃ a n c, r = .returned (.tuple #[.int .i64 A, .int .i64 B, .agg #[.int .i64 N, .slice a n c, .int .i64 E]]) ∧ G.P w' ∧ Trn F G w w' ∧ RAt w' a n rs ∧ G.offA w' a rs.length
theorem done_end {F G : Face} {w w2 w3 : World} {x : ActV} {a0 : Option Addr} {n0 : Nat} {rs0 : List RT} {A B N E : Int} {rs : List RT} {a : Option Addr} {n c : Nat} (h2 : DoneW F G w w2 x) (h0 : RAt w a0 n0 rs0) (hoa : F.offA w a0 rs0.length) (hr : RAt w3 a n rs) (hf : Fr (fun _ => False) w2 w3)
    (hd : (a = a0 ∧ rs = rs0) ∨ ∃ g, a = some ⟨g, 0, none⟩ ∧ w2.heap.size ≤ g ∧ g < w3.heap.size) :
    DoneP F G w A B N E rs (.returned (.tuple #[.int .i64 A, .int .i64 B, .agg #[.int .i64 N, .slice a n c, .int .i64 E]])) (((w3.setCell ⟨w.heap.size + 1, 0, none⟩ (.int .i64 N)).setCell ⟨w.heap.size + 1, 1, none⟩ (.slice a n c)).setCell ⟨w.heap.size + 1, 2, none⟩ (.int .i64 E)) := by
  have h3 := h2.quiet hf
  obtain ⟨w4, h4⟩ : ∃ w4, w4 = ((w3.setCell ⟨w.heap.size + 1, 0, none⟩ (.int .i64 N)).setCell ⟨w.heap.size + 1, 1, none⟩ (.slice a n c)).setCell ⟨w.heap.size + 1, 2, none⟩ (.int .i64 E) := ⟨_, rfl⟩
  have hq : (fun j => j = w.heap.size + 1) (w.heap.size + 1) := rfl
  have hw : Fr (fun j => j = w.heap.size + 1) w3 w4 := by rw [h4]; exact fr_setF (fr_setF (fr_setF (Fr.refl (fun j => j = w.heap.size + 1) w3) hq _ _) hq _ _) hq _ _
  rw [← h4]
  have hk := G.keep w3 w4 h3.p (hw.mono (fun j _ e => by rw [e]; exact ⟨h3.o1, by have := h3.lo; omega⟩))
  have ht : Trn F G w w4 := Trn.write h3.p (hw.mono (fun j _ e => by rw [e]; exact ⟨h3.o1, by have := h3.lo; omega, by omega⟩)) h3.tr
  refine ⟨a, n, c, rfl, hk.1, ht, hr.kept hw (fun g o e hne hh => ?_), fun g o e hne => ?_⟩
  · rcases hd with ⟨e1, e2⟩ | ⟨g', e1, hg, _⟩
    · subst e1 e2
      have := (hoa g o e hne).2
      omega
    · rw [e] at e1
      injection e1 with e1
      injection e1 with e1
      have := h2.sz
      omega
  · rcases hd with ⟨e1, e2⟩ | ⟨g', e1, hg, hg2⟩
    · subst e1
      exact ht.offA hoa g o e (by subst e2; exact hne)
    · rw [e] at e1
      injection e1 with e1
      injection e1 with e1
      subst e1
      exact ⟨hk.2 _ (G.offq h2.p hf (G.new w2 g h2.p hg)), Nat.lt_of_lt_of_le hg2 hw.size⟩
set_option maxRecDepth 100000 in
set_option maxHeartbeats 1000000 in
theorem done_ptr {F G : Face} {w : World} (hp : F.P w) (hl : G.lo = F.lo) (p : Value) (m long : Int) (nm : ByteArray) (fa : Option Addr) (fn fc : Nat) {A B N E : Int} {a : Option Addr} {n c : Nat} {rs rs' : List RT} (h0 : RAt w a n rs) (hoa : F.offA w a rs.length)
    (H1 : Hid (∀ W, F.P W → Calls Try.prog 25 #[p, .int .i64 m] W fun r w' => r = .returned (.tuple #[.int .i64 A, .int .i64 B]) ∧ G.P w' ∧ Trn F G W w'))
    (H2 : Hid (∀ W, RAt W a n rs → Calls Try.prog 29 #[.slice a n c, .int .i64 m] W (MadeP W a rs N E rs'))) :
    Calls Try.prog 12 #[.agg #[.int .i64 0, .int .i64 m, .int .i64 long, .string nm, .slice fa fn fc], p, .slice a n c] w (DoneP F G w A B N E rs') := by
  have HS := Lib.hid (DoneW.start hp ⟨0, m, long, nm, fa, fn, fc⟩)
  have HT : Hid (∀ W W', DoneW F F w W ⟨0, m, long, nm, fa, fn, fc⟩ → G.P W' → Trn F G W W' → DoneW F G w W' ⟨0, m, long, nm, fa, fn, fc⟩) := Lib.hid (fun W W' h q t => h.turn t q hl)
  have HR : Hid (∀ W, DoneW F G w W ⟨0, m, long, nm, fa, fn, fc⟩ → RAt W a n rs) := Lib.hid (fun W h => h.tr.rat h0 hoa)
  have HE := Lib.hid (fun (w2 w3 : World) (a' : Option Addr) (n' c' : Nat) (h2 : DoneW F G w w2 ⟨0, m, long, nm, fa, fn, fc⟩) (hr : RAt w3 a' n' rs') (hf : Fr (fun _ => False) w2 w3) (hd : (a' = a ∧ rs' = rs) ∨ ∃ g, a' = some ⟨g, 0, none⟩ ∧ w2.heap.size ≤ g ∧ g < w3.heap.size) => done_end (A := A) (B := B) (N := N) (E := E) (c := c') h2 h0 hoa hr hf hd)
  clear hp hl h0 hoa
  go_enter Try.func12, Try.ntmps12
  go_wp2_with (first
    | (go_at_call 25; (with_reducible refine (H1.out _ HS.out.p).mono ?_); rintro r w2 ⟨rfl, q2, t2⟩; have hd2 := HT.out _ _ HS.out q2 t2; have HD2 := Lib.hid hd2; have z1 := hd2.z1; have z2 := hd2.z2; have z3 := hd2.z3; clear hd2 q2 t2)
    | (go_at_call 29; (with_reducible refine (H2.out _ (HR.out _ HD2.out)).mono ?_); rintro r w3 ⟨a3, n3, c3, rfl, hr3, hf3, hd3⟩; have hq := HD2.out.quiet hf3; have HE3 := Lib.hid (HE.out _ _ a3 n3 c3 HD2.out hr3 hf3 hd3); obtain ⟨⟨b0, k0⟩, f0⟩ := hq.r 0 (by decide); obtain ⟨⟨b1, k1⟩, f1⟩ := hq.r 1 (by decide); obtain ⟨⟨b2, k2⟩, f2⟩ := hq.r 2 (by decide); clear hq hr3 hf3 hd3))
  exact bodyPost_ret (v := .tuple #[.int .i64 A, .int .i64 B, .agg #[.int .i64 N, .slice a3 n3 c3, .int .i64 E]]) (by simp [results, Try.results12, go_sem, set3' k0 k1 k2]) rfl HE3.out
set_option maxRecDepth 100000 in
set_option maxHeartbeats 1000000 in
theorem done_array {F G : Face} {w : World} (hp : F.P w) (hl : G.lo = F.lo) (p : Value) (m long : Int) (nm : ByteArray) (fa : Option Addr) (fn fc : Nat) {A B N E : Int} {a : Option Addr} {n c : Nat} {rs rs' : List RT} (h0 : RAt w a n rs) (hoa : F.offA w a rs.length)
    (H1 : Hid (∀ W, F.P W → Calls Try.prog 26 #[p, .int .i64 m, .int .i64 long] W fun r w' => r = .returned (.tuple #[.int .i64 A, .int .i64 B]) ∧ G.P w' ∧ Trn F G W w'))
    (H2 : Hid (∀ W, RAt W a n rs → Calls Try.prog 30 #[.slice a n c, .int .i64 m, .int .i64 long] W (MadeP W a rs N E rs'))) :
    Calls Try.prog 12 #[.agg #[.int .i64 1, .int .i64 m, .int .i64 long, .string nm, .slice fa fn fc], p, .slice a n c] w (DoneP F G w A B N E rs') := by
  have HS := Lib.hid (DoneW.start hp ⟨1, m, long, nm, fa, fn, fc⟩)
  have HT : Hid (∀ W W', DoneW F F w W ⟨1, m, long, nm, fa, fn, fc⟩ → G.P W' → Trn F G W W' → DoneW F G w W' ⟨1, m, long, nm, fa, fn, fc⟩) := Lib.hid (fun W W' h q t => h.turn t q hl)
  have HR : Hid (∀ W, DoneW F G w W ⟨1, m, long, nm, fa, fn, fc⟩ → RAt W a n rs) := Lib.hid (fun W h => h.tr.rat h0 hoa)
  have HE := Lib.hid (fun (w2 w3 : World) (a' : Option Addr) (n' c' : Nat) (h2 : DoneW F G w w2 ⟨1, m, long, nm, fa, fn, fc⟩) (hr : RAt w3 a' n' rs') (hf : Fr (fun _ => False) w2 w3) (hd : (a' = a ∧ rs' = rs) ∨ ∃ g, a' = some ⟨g, 0, none⟩ ∧ w2.heap.size ≤ g ∧ g < w3.heap.size) => done_end (A := A) (B := B) (N := N) (E := E) (c := c') h2 h0 hoa hr hf hd)
  clear hp hl h0 hoa
  go_enter Try.func12, Try.ntmps12
  go_wp2_with (first
    | (go_at_call 26; (with_reducible refine (H1.out _ HS.out.p).mono ?_); rintro r w2 ⟨rfl, q2, t2⟩; have hd2 := HT.out _ _ HS.out q2 t2; have HD2 := Lib.hid hd2; have z1 := hd2.z1; have z2 := hd2.z2; have z3 := hd2.z3; clear hd2 q2 t2)
    | (go_at_call 30; (with_reducible refine (H2.out _ (HR.out _ HD2.out)).mono ?_); rintro r w3 ⟨a3, n3, c3, rfl, hr3, hf3, hd3⟩; have hq := HD2.out.quiet hf3; have HE3 := Lib.hid (HE.out _ _ a3 n3 c3 HD2.out hr3 hf3 hd3); obtain ⟨⟨b0, k0⟩, f0⟩ := hq.r 0 (by decide); obtain ⟨⟨b1, k1⟩, f1⟩ := hq.r 1 (by decide); obtain ⟨⟨b2, k2⟩, f2⟩ := hq.r 2 (by decide); clear hq hr3 hf3 hd3))
  exact bodyPost_ret (v := .tuple #[.int .i64 A, .int .i64 B, .agg #[.int .i64 N, .slice a3 n3 c3, .int .i64 E]]) (by simp [results, Try.results12, go_sem, set3' k0 k1 k2]) rfl HE3.out
set_option maxRecDepth 100000 in
set_option maxHeartbeats 1000000 in
theorem done_open {F G : Face} {w : World} (hp : F.P w) (hl : G.lo = F.lo) (p : Value) (m long : Int) (nm : ByteArray) (fa : Option Addr) (fn fc : Nat) {A B N E : Int} {a : Option Addr} {n c : Nat} {rs rs' : List RT} (h0 : RAt w a n rs) (hoa : F.offA w a rs.length)
    (H1 : Hid (∀ W, F.P W → Calls Try.prog 27 #[p, .string nm] W fun r w' => r = .returned (.tuple #[.int .i64 A, .int .i64 B]) ∧ G.P w' ∧ Trn F G W w'))
    (H2 : Hid (∀ W, RAt W a n rs → Calls Try.prog 31 #[.slice a n c, .string nm] W (MadeP W a rs N E rs'))) :
    Calls Try.prog 12 #[.agg #[.int .i64 2, .int .i64 m, .int .i64 long, .string nm, .slice fa fn fc], p, .slice a n c] w (DoneP F G w A B N E rs') := by
  have HS := Lib.hid (DoneW.start hp ⟨2, m, long, nm, fa, fn, fc⟩)
  have HT : Hid (∀ W W', DoneW F F w W ⟨2, m, long, nm, fa, fn, fc⟩ → G.P W' → Trn F G W W' → DoneW F G w W' ⟨2, m, long, nm, fa, fn, fc⟩) := Lib.hid (fun W W' h q t => h.turn t q hl)
  have HR : Hid (∀ W, DoneW F G w W ⟨2, m, long, nm, fa, fn, fc⟩ → RAt W a n rs) := Lib.hid (fun W h => h.tr.rat h0 hoa)
  have HE := Lib.hid (fun (w2 w3 : World) (a' : Option Addr) (n' c' : Nat) (h2 : DoneW F G w w2 ⟨2, m, long, nm, fa, fn, fc⟩) (hr : RAt w3 a' n' rs') (hf : Fr (fun _ => False) w2 w3) (hd : (a' = a ∧ rs' = rs) ∨ ∃ g, a' = some ⟨g, 0, none⟩ ∧ w2.heap.size ≤ g ∧ g < w3.heap.size) => done_end (A := A) (B := B) (N := N) (E := E) (c := c') h2 h0 hoa hr hf hd)
  clear hp hl h0 hoa
  go_enter Try.func12, Try.ntmps12
  go_wp2_with (first
    | (go_at_call 27; (with_reducible refine (H1.out _ HS.out.p).mono ?_); rintro r w2 ⟨rfl, q2, t2⟩; have hd2 := HT.out _ _ HS.out q2 t2; have HD2 := Lib.hid hd2; have z1 := hd2.z1; have z2 := hd2.z2; have z3 := hd2.z3; clear hd2 q2 t2)
    | (go_at_call 31; (with_reducible refine (H2.out _ (HR.out _ HD2.out)).mono ?_); rintro r w3 ⟨a3, n3, c3, rfl, hr3, hf3, hd3⟩; have hq := HD2.out.quiet hf3; have HE3 := Lib.hid (HE.out _ _ a3 n3 c3 HD2.out hr3 hf3 hd3); obtain ⟨⟨b0, k0⟩, f0⟩ := hq.r 0 (by decide); obtain ⟨⟨b1, k1⟩, f1⟩ := hq.r 1 (by decide); obtain ⟨⟨b2, k2⟩, f2⟩ := hq.r 2 (by decide); clear hq hr3 hf3 hd3))
  exact bodyPost_ret (v := .tuple #[.int .i64 A, .int .i64 B, .agg #[.int .i64 N, .slice a3 n3 c3, .int .i64 E]]) (by simp [results, Try.results12, go_sem, set3' k0 k1 k2]) rfl HE3.out
end Go.Proofs.Ytlhkhgkgjdfcgaa
