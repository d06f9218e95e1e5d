/-
  Tokens (layer 7): a scanner's next token.
-/
import Derived.Test.YtoffbjfgledjfaaDoorLexJ
namespace Go.Proofs.YtoffbjfgledjfaaDoor
open Go.RowKit
set_option linter.unusedVariables false
set_option linter.unusedSimpArgs false
def zTok : Array Value := #[.int .i64 0, .string ⟨#[]⟩, .int .u32 0, .int .i64 0, .int .i64 0]
theorem SSt.cells {r p q : Nat} {s : ByteArray} {l c : Int} {w : World} (h : SSt r p q s l c w) :
    (w.cell? ⟨r, 0, none⟩ = some (.string s) ∧ w.cell? ⟨p, 0, none⟩ = some (.int .i64 l) ∧ w.cell? ⟨p, 1, none⟩ = some (.int .i64 c)) ∧ w.cell? ⟨q, 0, none⟩ = some (.func (.func 13) #[] #[.pointer (some ⟨p, 0, none⟩), .pointer (some ⟨r, 0, none⟩)]) :=
  ⟨⟨row_cell0 h.rest 0 _ rfl, row_cell0 h.pos 0 _ rfl, row_cell0 h.pos 1 _ rfl⟩, row_cell0 h.adv 0 _ rfl⟩
theorem SSt.lt {r p q : Nat} {s : ByteArray} {l c : Int} {w : World} (h : SSt r p q s l c w) : r < w.heap.size ∧ p < w.heap.size ∧ q < w.heap.size :=
  ⟨(Array.getElem?_eq_some_iff.1 h.rest).1, (Array.getElem?_eq_some_iff.1 h.pos).1, (Array.getElem?_eq_some_iff.1 h.adv).1⟩
/-- Blocks that a frame spares keep their five cells. -/
theorem blk5F {F : Nat → Prop} {w W : World} (h : Fr F w W) {b : Nat} (hb : ¬ F b) (hk : ∀ j, j < 5 → (∃ y, w.cell? ⟨b, j, none⟩ = some y) ∧ w.frozen? ⟨b, j, none⟩ = false) : ∀ j, j < 5 → (∃ y, W.cell? ⟨b, j, none⟩ = some y) ∧ W.frozen? ⟨b, j, none⟩ = false := fun j hj => by
  obtain ⟨⟨y, hy⟩, hf⟩ := hk j hj
  exact ⟨⟨y, h.cell hy hb⟩, (h.frozen hy hb).trans hf⟩
theorem SSt.frF {F : Nat → Prop} {r p q : Nat} {s : ByteArray} {l c : Int} {w w' : World} (h : SSt r p q s l c w) (hf : Fr F w w') (nr : ¬ F r) (np : ¬ F p) (nq : ¬ F q) : SSt r p q s l c w' :=
  ⟨(hf.block r h.lt.1 nr).trans h.rest, (hf.block p h.lt.2.1 np).trans h.pos, (hf.block q h.lt.2.2 nq).trans h.adv, h.rp, h.rq, h.pq⟩
theorem fr_own5 (w : World) (b : Nat) (v0 v1 v2 v3 v4 : Value) : Fr (fun k => k = b) w (((((w.setCell ⟨b, 0, none⟩ v0).setCell ⟨b, 1, none⟩ v1).setCell ⟨b, 2, none⟩ v2).setCell ⟨b, 3, none⟩ v3).setCell ⟨b, 4, none⟩ v4) :=
  ((((Fr.setCell (F := fun k => k = b) w ⟨b, 0, none⟩ v0 rfl).trans (Fr.setCell _ ⟨b, 1, none⟩ v1 rfl)).trans (Fr.setCell _ ⟨b, 2, none⟩ v2 rfl)).trans (Fr.setCell _ ⟨b, 3, none⟩ v3 rfl)).trans (Fr.setCell _ ⟨b, 4, none⟩ v4 rfl)
theorem fr_next {F : Nat → Prop} {w w2 w4 : World} (h : Fr (fun _ => False) w w2) (h' : Fr F w2 w4) {b : Nat} (hb : w.heap.size ≤ b) (v0 v1 v2 v3 v4 : Value) : Fr F w (((((w4.setCell ⟨b, 0, none⟩ v0).setCell ⟨b, 1, none⟩ v1).setCell ⟨b, 2, none⟩ v2).setCell ⟨b, 3, none⟩ v3).setCell ⟨b, 4, none⟩ v4) :=
  ((h.mono (fun _ _ e => e.elim)).trans h').trans' (fr_own5 w4 b v0 v1 v2 v3 v4) (fun j hj e => by omega)
/-- How much is left of a scanner's text. -/
def restSize (w : World) (r : Nat) : Nat := match w.cell? ⟨r, 0, none⟩ with | some (.string s) => s.size | _ => 0
theorem rest_size {r p q : Nat} {s : ByteArray} {l c : Int} {w : World} (h : SSt r p q s l c w) : restSize w r = s.size := by
  unfold restSize; rw [h.cells.1.1]
set_option maxRecDepth 100000 in
set_option maxHeartbeats 4000000 in
theorem next_tok (r p q : Nat) (s : ByteArray) (l c : Int) (w : World) (h : SSt r p q s l c w) (hs : s.size ≤ 1000000) (c0 : 0 ≤ c) (c1 : c ≤ 1000000000) (hne : (s.toList == ([] : List UInt8)) = false)
    (HB : ∀ w, Calls Tryd.prog 16 #[.string s] w fun e w' => e = .returned (.tuple #[.int .i64 0, .int .i64 0]) ∧ w = w')
    (k : Int) (t : List UInt8) (n : Int) (HT : ∀ w, Calls Tryd.prog 17 #[.string s] w (TokP k t n 0 w)) (hn : t.length ≤ s.size)
    (hlf : ∀ j (hj : j < (s.extract 0 t.length).size), ((((s.extract 0 t.length)[j]'hj).toNat : Int) == 10) = false) :
    Calls Tryd.prog 15 #[.pointer (some ⟨r, 0, none⟩), .pointer (some ⟨p, 0, none⟩), .pointer (some ⟨q, 0, none⟩)] w fun e w' =>
      e = .returned (.tuple #[.agg #[.int .i64 k, .string ⟨t.toArray⟩, .int .u32 n, .int .i64 l, .int .i64 c], .int .i64 0]) ∧ SSt r p q (s.extract t.length s.size) l (c + t.length) w' ∧ Fr (fun k => k = r ∨ k = p) w w' := by
  have HBB := Lib.hid HB
  have HTT : Hid (∀ w, Calls Tryd.prog 17 #[.string s] w fun e w' => e = .returned (.tuple #[.agg #[.int .i64 k, .string ⟨t.toArray⟩, .int .u32 n, .int .i64 0, .int .i64 0], .int .i64 0]) ∧ Fr (fun _ => False) w w') := Lib.hid HT
  have HADV := Lib.hid (fun w h => adv_any r p q t.length s l c w h hs hn c0 c1 hlf)
  have HH := Lib.hid h
  obtain ⟨L, hL⟩ : ∃ L, t.length = L := ⟨_, rfl⟩
  rw [hL] at HADV ⊢
  have hz : (ByteArray.mk t.toArray).size = L := hL
  obtain ⟨T, hT⟩ : ∃ T : ByteArray, ⟨t.toArray⟩ = T := ⟨_, rfl⟩
  rw [hT] at HTT hz ⊢
  obtain ⟨⟨kr, kp0, kp1⟩, kq⟩ := h.cells
  have lt := h.lt
  clear HB HT hlf hL hT hs hn c0 c1 h
  go_enter Tryd.func15, Tryd.ntmps15
  go_wp2
  go_loopw [5] (fun _ wr => wr = w.alloc (.cells #[.int .i64 0, .string ⟨#[]⟩, .int .u32 0, .int .i64 0, .int .i64 0] 32)) (fun _ _ => 0)
  case atStart => rfl
  case round =>
    subst hrel
    go_wp2_with first
      | (go_at_call 16; (with_reducible refine (HBB.out _).mono ?_); rintro e w' ⟨rfl, rfl⟩)
      | (go_at_call 17; (with_reducible refine (HTT.out _).mono ?_); rintro e w2 ⟨rfl, hf⟩; have HF := Lib.hid hf; have S2 := Lib.hid (HH.out.fr ((fr_al (Fr.refl _ w) _).trans hf)); have HB0 := Lib.hid (blk5 hf); have HZ : Hid (w.heap.size < w2.heap.size) := Lib.hid (by have := hf.size; simp at this; omega); have a1 : ∀ cs, (w2.alloc (.cells cs 32)).cell? ⟨p, 0, none⟩ = some (.int .i64 l) := fun cs => (S2.out.fr (fr_al (Fr.refl _ _) _)).cells.1.2.1; have a2 : ∀ cs, (w2.alloc (.cells cs 32)).cell? ⟨p, 1, none⟩ = some (.int .i64 c) := fun cs => (S2.out.fr (fr_al (Fr.refl _ _) _)).cells.1.2.2; have a3 : ∀ cs, (w2.alloc (.cells cs 32)).cell? ⟨q, 0, none⟩ = some (.func (.func 13) #[] #[.pointer (some ⟨p, 0, none⟩), .pointer (some ⟨r, 0, none⟩)]) := fun cs => (S2.out.fr (fr_al (Fr.refl _ _) _)).cells.2; clear hf)
      | (go_at_call 13; (with_reducible refine Calls.mono (HADV.out _ (S2.out.fr (fr_al (Fr.refl _ _) _))) ?_); rintro e w4 ⟨rfl, h4, hf4⟩; have S4 := Lib.hid h4; have F4 := Lib.hid hf4; have d0 : ¬ (w2.heap.size = r ∨ w2.heap.size = p) := (by have := HZ.out; omega); have d1 : ¬ (w.heap.size = r ∨ w.heap.size = p) := (by omega); have m0 := hf4.cell (fcell w2 #[.int .i64 k, .string T, .int .u32 n, .int .i64 l, .int .i64 c] 32 0 _ rfl) d0; have m1 := hf4.cell (fcell w2 #[.int .i64 k, .string T, .int .u32 n, .int .i64 l, .int .i64 c] 32 1 _ rfl) d0; have m2 := hf4.cell (fcell w2 #[.int .i64 k, .string T, .int .u32 n, .int .i64 l, .int .i64 c] 32 2 _ rfl) d0; have m3 := hf4.cell (fcell w2 #[.int .i64 k, .string T, .int .u32 n, .int .i64 l, .int .i64 c] 32 3 _ rfl) d0; have m4 := hf4.cell (fcell w2 #[.int .i64 k, .string T, .int .u32 n, .int .i64 l, .int .i64 c] 32 4 _ rfl) d0; have hb := blk5F hf4 d1 (blk5F (fr_al (Fr.refl (fun _ => False) w2) (.cells #[.int .i64 k, .string T, .int .u32 n, .int .i64 l, .int .i64 c] 32)) id HB0.out); obtain ⟨⟨b0, k0⟩, f0⟩ := hb 0 (by decide); obtain ⟨⟨b1, k1⟩, f1⟩ := hb 1 (by decide); obtain ⟨⟨b2, k2⟩, f2⟩ := hb 2 (by decide); obtain ⟨⟨b3, k3⟩, f3⟩ := hb 3 (by decide); obtain ⟨⟨b4, k4⟩, f4⟩ := hb 4 (by decide); clear h4 hf4 hb)
    exact bodyPost_ret (v := .tuple #[.agg #[.int .i64 k, .string T, .int .u32 n, .int .i64 l, .int .i64 c], .int .i64 0]) (by simp [results, Tryd.results15, go_sem, set5' k0 k1 k2 k3 k4]) rfl ⟨rfl, S4.out.frF (F := fun k => k = w.heap.size) (fr_own5 w4 w.heap.size _ _ _ _ _) (by omega) (by omega) (by omega), fr_next (((fr_al (Fr.refl _ w) _).trans HF.out).trans (fr_al (Fr.refl _ w2) _)) F4.out (Nat.le_refl _) _ _ _ _ _⟩
set_option maxRecDepth 100000 in
set_option maxHeartbeats 4000000 in
theorem next_err (r p q : Nat) (s : ByteArray) (l c : Int) (w : World) (h : SSt r p q s l c w) (hne : (s.toList == ([] : List UInt8)) = false)
    (HB : ∀ w, Calls Tryd.prog 16 #[.string s] w fun e w' => e = .returned (.tuple #[.int .i64 0, .int .i64 0]) ∧ w = w')
    (k : Int) (t : List UInt8) (n er : Int) (hr : (er != 0) = true) (HT : ∀ w, Calls Tryd.prog 17 #[.string s] w (TokP k t n er w)) :
    Calls Tryd.prog 15 #[.pointer (some ⟨r, 0, none⟩), .pointer (some ⟨p, 0, none⟩), .pointer (some ⟨q, 0, none⟩)] w fun e w' =>
      e = .returned (.tuple #[.agg #[.int .i64 0, .string ⟨#[]⟩, .int .u32 0, .int .i64 l, .int .i64 c], .int .i64 er]) ∧ SSt r p q s l c w' ∧ Fr (fun k => k = r ∨ k = p) w w' := by
  have HBB := Lib.hid HB
  have HTT : Hid (∀ w, Calls Tryd.prog 17 #[.string s] w fun e w' => e = .returned (.tuple #[.agg #[.int .i64 k, .string ⟨t.toArray⟩, .int .u32 n, .int .i64 0, .int .i64 0], .int .i64 er]) ∧ Fr (fun _ => False) w w') := Lib.hid HT
  have HH := Lib.hid h
  obtain ⟨T, hT⟩ : ∃ T : ByteArray, ⟨t.toArray⟩ = T := ⟨_, rfl⟩
  rw [hT] at HTT
  obtain ⟨⟨kr, kp0, kp1⟩, kq⟩ := h.cells
  have lt := h.lt
  clear HB HT hT h
  go_enter Tryd.func15, Tryd.ntmps15
  go_wp2
  go_loopw [5] (fun _ wr => wr = w.alloc (.cells #[.int .i64 0, .string ⟨#[]⟩, .int .u32 0, .int .i64 0, .int .i64 0] 32)) (fun _ _ => 0)
  case atStart => rfl
  case round =>
    subst hrel
    go_wp2_with first
      | (go_at_call 16; (with_reducible refine (HBB.out _).mono ?_); rintro e w' ⟨rfl, rfl⟩)
      | (go_at_call 17; (with_reducible refine (HTT.out _).mono ?_); rintro e w2 ⟨rfl, hf⟩; have HF := Lib.hid hf; have S2 := Lib.hid (HH.out.fr ((fr_al (Fr.refl _ w) _).trans hf)); have a1 : ∀ cs, (w2.alloc (.cells cs 32)).cell? ⟨p, 0, none⟩ = some (.int .i64 l) := fun cs => (S2.out.fr (fr_al (Fr.refl _ _) _)).cells.1.2.1; have a2 : ∀ cs, (w2.alloc (.cells cs 32)).cell? ⟨p, 1, none⟩ = some (.int .i64 c) := fun cs => (S2.out.fr (fr_al (Fr.refl _ _) _)).cells.1.2.2; have hb : ∀ cs, ∀ j, j < 5 → (∃ y, (w2.alloc (.cells cs 32)).cell? ⟨w.heap.size, j, none⟩ = some y) ∧ (w2.alloc (.cells cs 32)).frozen? ⟨w.heap.size, j, none⟩ = false := fun cs => blk5F (fr_al (Fr.refl (fun _ => False) w2) (.cells cs 32)) id (blk5 hf); obtain ⟨⟨b0, k0⟩, f0⟩ := hb #[.int .i64 k, .string T, .int .u32 n, .int .i64 0, .int .i64 0] 0 (by decide); obtain ⟨⟨b1, k1⟩, f1⟩ := hb #[.int .i64 k, .string T, .int .u32 n, .int .i64 0, .int .i64 0] 1 (by decide); obtain ⟨⟨b2, k2⟩, f2⟩ := hb #[.int .i64 k, .string T, .int .u32 n, .int .i64 0, .int .i64 0] 2 (by decide); obtain ⟨⟨b3, k3⟩, f3⟩ := hb #[.int .i64 k, .string T, .int .u32 n, .int .i64 0, .int .i64 0] 3 (by decide); obtain ⟨⟨b4, k4⟩, f4⟩ := hb #[.int .i64 k, .string T, .int .u32 n, .int .i64 0, .int .i64 0] 4 (by decide); clear hf hb)
    exact bodyPost_ret (v := .tuple #[.agg #[.int .i64 0, .string ⟨#[]⟩, .int .u32 0, .int .i64 l, .int .i64 c], .int .i64 er]) (by simp [results, Tryd.results15, go_sem, set5' k0 k1 k2 k3 k4]) rfl ⟨rfl, (S2.out.fr (fr_al (Fr.refl _ _) _)).frF (F := fun k => k = w.heap.size) (fr_own5 _ w.heap.size _ _ _ _ _) (by omega) (by omega) (by omega), fr_next ((fr_al (Fr.refl _ w) _).trans HF.out) (fr_al (Fr.refl _ w2) _) (Nat.le_refl _) _ _ _ _ _⟩
set_option maxRecDepth 100000 in
set_option maxHeartbeats 4000000 in
/-- Nothing but m blanks is left. -/
theorem next_end (m : Nat) (R : Nat → ByteArray) (N : Nat → Nat) (C : Nat → Int) (r p q : Nat) (l : Int) (w : World) (h : SSt r p q (R 0) l (C 0) w)
    (hs : ∀ i, i ≤ m → (R i).size ≤ 1000000 ∧ 0 ≤ C i ∧ C i ≤ 1000000000)
    (hR : ∀ i, i < m → 0 < N i ∧ N i ≤ (R i).size ∧ R (i + 1) = (R i).extract (N i) (R i).size ∧ C (i + 1) = C i + N i ∧ ∀ j (hj : j < ((R i).extract 0 (N i)).size), (((((R i).extract 0 (N i))[j]'hj).toNat : Int) == 10) = false)
    (HB : ∀ i, i < m → ∀ w, Calls Tryd.prog 16 #[.string (R i)] w fun e w' => e = .returned (.tuple #[.int .i64 (N i), .int .i64 0]) ∧ w = w')
    (HE : ∀ w, Calls Tryd.prog 16 #[.string ⟨#[]⟩] w fun e w' => e = .returned (.tuple #[.int .i64 0, .int .i64 0]) ∧ w = w') (hm : R m = ⟨#[]⟩) :
    Calls Tryd.prog 15 #[.pointer (some ⟨r, 0, none⟩), .pointer (some ⟨p, 0, none⟩), .pointer (some ⟨q, 0, none⟩)] w fun e w' =>
      e = .returned (.tuple #[.agg #[.int .i64 0, .string ⟨#[]⟩, .int .u32 0, .int .i64 l, .int .i64 (C m)], .int .i64 0]) ∧ SSt r p q ⟨#[]⟩ l (C m) w' ∧ Fr (fun k => k = r ∨ k = p) w w' := by
  have HR := Lib.hid hR
  have HS := Lib.hid hs
  have HBB := Lib.hid HB
  have HEE := Lib.hid HE
  have HM := Lib.hid hm
  have HH := Lib.hid h
  have lt := h.lt
  obtain ⟨⟨kr, kp0, kp1⟩, kq⟩ := h.cells
  clear HB HE hm hR hs h
  go_enter Tryd.func15, Tryd.ntmps15
  go_wp2
  go_loopw [5] (fun _ wr => ∃ i, i ≤ m ∧ Hid (SSt r p q (R i) l (C i) wr ∧ Fr (fun k => k = r ∨ k = p) (w.alloc (.cells #[.int .i64 0, .string ⟨#[]⟩, .int .u32 0, .int .i64 0, .int .i64 0] 32)) wr)) (fun _ wr => restSize wr r)
  case atStart => exact ⟨0, Nat.zero_le _, Lib.hid ⟨HH.out.fr (fr_al (Fr.refl _ _) _), Fr.refl _ _⟩⟩
  case round =>
    obtain ⟨i, hi, HW⟩ := hrel
    obtain ⟨⟨qr, qp0, qp1⟩, qq⟩ := HW.out.1.cells
    by_cases hlt : i < m
    · obtain ⟨n0, n1, e1, e2, e3⟩ := HR.out i hlt
      have HA := Lib.hid (adv_any r p q (N i) (R i) l (C i) wr HW.out.1 (HS.out i hi).1 n1 (HS.out i hi).2.1 (HS.out i hi).2.2 e3)
      have HBi := Lib.hid (HBB.out i hlt)
      have HE1 := Lib.hid e1
      have HE2 := Lib.hid e2
      have HSZ : Hid (restSize wr r = (R i).size) := Lib.hid (rest_size HW.out.1)
      have nz : (((N i : Nat) : Int) == 0) = false := by simp; omega
      clear e1 e2 e3
      go_wp2_with first
        | (go_at_call 16; (with_reducible refine (HBi.out _).mono ?_); rintro e w' ⟨rfl, rfl⟩)
        | (go_at_call 13; (with_reducible refine HA.out.mono ?_); rintro e w4 ⟨rfl, h4, hf4⟩; have S4 := Lib.hid h4; have F4 := Lib.hid hf4; clear h4 hf4)
      go_roundw
      case rel => exact ⟨i + 1, by omega, Lib.hid ⟨by rw [HE1.out, HE2.out]; exact S4.out, HW.out.2.trans F4.out⟩⟩
      case measure => rw [HSZ.out, rest_size S4.out, ByteArray.size_extract]; omega
    · obtain rfl : i = m := by omega
      have HW1 := HW.out.1
      rw [HM.out] at HW1 qr
      have HS1 := Lib.hid HW1
      have hb := blk5F HW.out.2 (b := w.heap.size) (by omega) (blk5 (Fr.refl _ _))
      obtain ⟨⟨b0, k0⟩, f0⟩ := hb 0 (by decide); obtain ⟨⟨b1, k1⟩, f1⟩ := hb 1 (by decide); obtain ⟨⟨b2, k2⟩, f2⟩ := hb 2 (by decide); obtain ⟨⟨b3, k3⟩, f3⟩ := hb 3 (by decide); obtain ⟨⟨b4, k4⟩, f4⟩ := hb 4 (by decide)
      clear hb HW1
      go_wp2_with (go_at_call 16; (with_reducible refine (HEE.out _).mono ?_); rintro e w' ⟨rfl, rfl⟩)
      exact bodyPost_ret (v := .tuple #[.agg #[.int .i64 0, .string ⟨#[]⟩, .int .u32 0, .int .i64 l, .int .i64 (C i)], .int .i64 0]) (by simp [results, Tryd.results15, go_sem, set5' k0 k1 k2 k3 k4]) rfl ⟨rfl, HS1.out.frF (F := fun k => k = w.heap.size) (fr_own5 _ w.heap.size _ _ _ _ _) (by omega) (by omega) (by omega), fr_next (fr_al (Fr.refl _ w) _) HW.out.2 (Nat.le_refl _) _ _ _ _ _⟩
end Go.Proofs.YtoffbjfgledjfaaDoor
