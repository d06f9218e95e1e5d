/-
  Tokens (layer 7): the tokens of a text.
-/
import Derived.Test.YtoffbjfgledjfaaDoorLexL
import Derived.LoopTactic
import Derived.Laws.AppendOwn
namespace Go.Proofs.YtoffbjfgledjfaaDoor
open Go.RowKit
set_option linter.unusedVariables false
set_option linter.unusedSimpArgs false
theorem infoTok : (Tryd.prog.info? 32).map (fun i => (i.zero, i.size, i.bytes)) = some (some (.agg #[.int .i64 0, .string ⟨#[]⟩, .int .u32 0, .int .i64 0, .int .i64 0]), 5, 48) := by kernel_rfl
theorem info_partsL {o : Option TypeInfo} {z : Option Value} {s b : Nat} (h : o.map (fun i => (i.zero, i.size, i.bytes)) = some (z, s, b)) : ∃ i, o = some i ∧ i.zero = z ∧ i.size = s ∧ i.bytes = b := by
  cases o with
  | none => simp at h
  | some i => simp at h; exact ⟨i, rfl, h.1, h.2.1, h.2.2⟩
/-- A token's five cells. -/
def tokC (K : Int) (T : ByteArray) (N : Int) (c : Int) : List Value := [.int .i64 K, .string T, .int .u32 N, .int .i64 1, .int .i64 c]
theorem tok_cell (w : World) (t : TypeId) (K : Int) (T : ByteArray) (N c : Int) : ∀ (j : Nat) (u : Value), (tokC K T N c)[j]? = some u → (w.alloc (.cells #[.int .i64 K, .string T, .int .u32 N, .int .i64 1, .int .i64 c] t)).cell? ((⟨w.heap.size, 0, none⟩ : Addr).add j) = some u := by
  intro j u h
  rw [Addr.add_lit]
  simp only [Nat.zero_add]
  exact fcell w _ t j u (by simpa [tokC] using h)
def flatT (K : Nat → Int) (T : Nat → ByteArray) (N : Nat → Int) (C : Nat → Int) : Nat → List Value
  | 0 => []
  | i + 1 => flatT K T N C i ++ tokC (K i) (T i) (N i) (C i)
/-- So far: the scanner, the tokens read, and what has stayed. -/
structure LexR (r p q : Nat) (R : ByteArray) (c : Int) (W wr : World) (v : Value) (i : Nat) (xs : List Value) : Prop where
  st : SSt r p q R 1 c wr
  row : wr.ownsRow W.heap.size 32 5 v i xs
  fr : Fr (fun k => k = r ∨ k = p) W wr
  rl : r < W.heap.size
  pl : p < W.heap.size
  ql : q < W.heap.size
theorem LexR.step {r p q : Nat} {R R' : ByteArray} {c c' : Int} {W wr w4 w5 : World} {v v' : Value} {i : Nat} {xs ys : List Value} {o1 o2 : Obj} (h : LexR r p q R c W wr v i xs) (h4 : SSt r p q R' 1 c' w4) (hf : Fr (fun k => k = r ∨ k = p) wr w4)
    (hown : w5.ownsRow W.heap.size 32 5 v' (i + 1) (xs ++ ys)) (hg : ((w4.alloc o1).alloc o2).grownBy w5 v.ownBlock) : LexR r p q R' c' W w5 v' (i + 1) (xs ++ ys) := by
  have hb : ∀ j, v.ownBlock = some j → W.heap.size ≤ j := fun j e => (World.ownsRow.lt h.row j e).1
  have f5 : Fr (fun k => v.ownBlock = some k) w4 w5 := ((fr_al (fr_al (Fr.refl (fun _ => False) w4) o1) o2).mono (fun _ _ e => e.elim)).trans (Fr.of_by hg)
  refine ⟨h4.frF f5 (fun e => ?_) (fun e => ?_) (fun e => ?_), hown, (h.fr.trans hf).trans' f5 (fun j hj e => ?_), h.rl, h.pl, h.ql⟩
  · have := hb _ e; have := h.rl; omega
  · have := hb _ e; have := h.pl; omega
  · have := hb _ e; have := h.ql; omega
  · have := hb _ e; omega
theorem LexR.keep {r p q : Nat} {R : ByteArray} {c : Int} {W wr w4 : World} {v : Value} {i : Nat} {xs : List Value} (h : LexR r p q R c W wr v i xs) (hf : Fr (fun k => k = r ∨ k = p) wr w4) : w4.ownsRow W.heap.size 32 5 v i xs :=
  hf.owns h.row (fun k e x => by
    have := (World.ownsRow.lt h.row k e).1
    have := h.rl; have := h.pl; omega)
theorem ownsRow_base {w : World} {b b' : Nat} {e : TypeId} {sz n : Nat} {v : Value} {xs : List Value} (h : w.ownsRow b e sz v n xs) (hb : b' ≤ b) : w.ownsRow b' e sz v n xs := by
  refine ⟨h.1, ?_⟩
  rcases h.2 with hn | ⟨g, cap, cur, hv, hg, rest⟩
  · exact .inl hn
  · exact .inr ⟨g, cap, cur, hv, Nat.le_trans hb hg, rest⟩
def lenV : Value → Nat
  | .slice _ n _ => n
  | _ => 0
theorem lenV_row {w : World} {b : Nat} {e : TypeId} {sz n : Nat} {v : Value} {xs : List Value} (h : w.ownsRow b e sz v n xs) : lenV v = n := by
  rcases h.2 with ⟨rfl, rfl⟩ | ⟨g, cap, cur, rfl, _⟩ <;> rfl
theorem set2L {w : World} {g : Nat} {x0 x1 : Value} (b0 : w.cell? ⟨g, 0, none⟩ = some x0) (b1 : w.cell? ⟨g, 1, none⟩ = some x1) (v0 v1 : Value) :
    ((w.setCell ⟨g, 0, none⟩ v0).setCell ⟨g, 1, none⟩ v1).cell? ⟨g, 0, none⟩ = some v0 ∧ ((w.setCell ⟨g, 0, none⟩ v0).setCell ⟨g, 1, none⟩ v1).cell? ⟨g, 1, none⟩ = some v1 :=
  ⟨set_keep (World.cell?_setCell_same _ _ _ b0) (by decide), World.cell?_setCell_same _ _ _ (set_keep b1 (by decide))⟩
theorem fr_fin (w4 : World) (b : Nat) (o : Obj) (v0 v1 : Value) : Fr (fun k => k = b) w4 (((w4.alloc o).setCell ⟨b, 0, none⟩ v0).setCell ⟨b, 1, none⟩ v1).drew :=
  ((((fr_al (Fr.refl (fun _ => False) w4) o).mono (fun _ _ e => e.elim)).trans (Fr.setCell (F := fun k => k = b) _ ⟨b, 0, none⟩ v0 rfl)).trans (Fr.setCell _ ⟨b, 1, none⟩ v1 rfl)).trans ((fr_drew _).mono (fun _ _ e => e.elim))
set_option maxRecDepth 100000 in
set_option maxHeartbeats 8000000 in
theorem lex_ok (s : ByteArray) (m : Nat) (K : Nat → Int) (T : Nat → ByteArray) (N : Nat → Int) (R : Nat → ByteArray) (C : Nat → Int) (cE : Int) (hs : s.size ≤ 65536) (hm : m ≤ 65536) (h0 : R 0 = s) (hc : C 0 = 1)
    (HN : ∀ i, i < m → ∀ r p q W, SSt r p q (R i) 1 (C i) W → Calls Tryd.prog 15 #[.pointer (some ⟨r, 0, none⟩), .pointer (some ⟨p, 0, none⟩), .pointer (some ⟨q, 0, none⟩)] W fun e w' => e = .returned (.tuple #[.agg #[.int .i64 (K i), .string (T i), .int .u32 (N i), .int .i64 1, .int .i64 (C i)], .int .i64 0]) ∧ SSt r p q (R (i + 1)) 1 (C (i + 1)) w' ∧ Fr (fun k => k = r ∨ k = p) W w')
    (hK : ∀ i, i < m → (K i == 0) = false)
    (HE : ∀ r p q W, SSt r p q (R m) 1 (C m) W → Calls Tryd.prog 15 #[.pointer (some ⟨r, 0, none⟩), .pointer (some ⟨p, 0, none⟩), .pointer (some ⟨q, 0, none⟩)] W fun e w' => e = .returned (.tuple #[.agg #[.int .i64 0, .string ⟨#[]⟩, .int .u32 0, .int .i64 1, .int .i64 cE], .int .i64 0]) ∧ Fr (fun k => k = r ∨ k = p) W w') (w : World) :
    Calls Tryd.prog 6 #[.string s] w fun e w' => ∃ v, e = .returned (.tuple #[v, .agg #[.int .i64 1, .int .i64 cE], .int .i64 0]) ∧ w'.ownsRow w.heap.size 32 5 v m (flatT K T N C m) ∧ Fr (fun _ => False) w w' := by
  obtain ⟨i0, hi, hz0, hz1, hz2⟩ := info_partsL infoTok
  have HI := Lib.hid hi
  have HZ0 := Lib.hid hz0
  have HZ1 := Lib.hid hz1
  have HZ2 := Lib.hid hz2
  have HNN := Lib.hid HN
  have HEE := Lib.hid HE
  have HKK := Lib.hid hK
  have H0 := Lib.hid h0
  have HC0 := Lib.hid hc
  have t1 : ¬ (65536 : Int) < s.size := by omega
  clear hi hz0 hz1 hz2 HN HE hK h0 hc
  go_enter Tryd.func6, Tryd.ntmps6
  go_wp2_with (go_at_call 9; (with_reducible refine (scan_new s _).mono ?_); rintro e W ⟨r, p, q, rfl, h, hf, hr, hp, hq⟩; have HS := Lib.hid (show SSt r p q (R 0) 1 (C 0) W by rw [H0.out, HC0.out]; exact h); have HF := Lib.hid hf; have HR := Lib.hid (show w.heap.size + 1 ≤ r ∧ w.heap.size + 1 ≤ p ∧ w.heap.size + 1 ≤ q by simp at hr hp hq; exact ⟨hr, hp, hq⟩); clear h hf hr hp hq)
  have HLT := Lib.hid HS.out.lt
  go_loopw [6] (fun v wr => ∃ i : Nat, i ≤ m ∧ Hid (LexR r p q (R i) (C i) W wr v i (flatT K T N C i))) (fun v _ => m - lenV v)
  case atStart => exact ⟨0, Nat.zero_le _, Lib.hid ⟨HS.out, World.ownsRow_nil _ _ _ _, Fr.refl _ _, HLT.out.1, HLT.out.2.1, HLT.out.2.2⟩⟩
  case round =>
    obtain ⟨i, hi, HW⟩ := hrel
    by_cases hlt : i < m
    · have HNi := Lib.hid (HNN.out i hlt r p q _ HW.out.st)
      have kz := HKK.out i hlt
      have hbase : W.heap.size ≤ wr.heap.size := HW.out.fr.size
      have HLV := Lib.hid (lenV_row HW.out.row)
      have HFL : Hid (flatT K T N C i ++ tokC (K i) (T i) (N i) (C i) = flatT K T N C (i + 1)) := Lib.hid rfl
      generalize flatT K T N C i = xs at *
      generalize K i = Ki at *
      generalize T i = Ti at *
      generalize N i = Ni at *
      have HKP := Lib.hid (fun (w4 : World) (h : Fr (fun k => k = r ∨ k = p) wr w4) => HW.out.keep h)
      have HZB := Lib.hid (fun (w4 : World) (h : Fr (fun k => k = r ∨ k = p) wr w4) => Nat.le_trans hbase h.size)
      have HST := Lib.hid (fun (w4 w5 : World) (R' : ByteArray) (c' : Int) (v' : Value) (ys : List Value) (o1 o2 : Obj) => @LexR.step r p q _ R' _ c' W wr w4 w5 _ v' i _ ys o1 o2 HW.out)
      generalize C i = ci at *
      have im : i ≤ 65536 := by omega
      go_wp2_with first
        | (go_at_call 15; (with_reducible refine HNi.out.mono ?_); rintro e w4 ⟨rfl, h4, hf4⟩; have S4 := Lib.hid h4; have F4 := Lib.hid hf4; have HOW := Lib.hid (HKP.out w4 hf4); have hb4 := HZB.out w4 hf4; clear h4 hf4)
        | (at_builtin; refine wpList_append_own _ rfl _ _ 23 rfl W.heap.size 32 i0 (.agg #[.int .i64 0, .string ⟨#[]⟩, .int .u32 0, .int .i64 0, .int .i64 0]) 5 48 Tryd.underlying23 HI.out HZ0.out HZ1.out HZ2.out rfl (by decide) _ i xs rfl (by exact (HOW.out.alloc _).alloc _) ⟨w4.heap.size + 1, 0, none⟩ 1 1 (tokC Ki Ti Ni ci) rfl rfl (by have := tok_cell (w4.alloc (.cells #[.int .i64 Ki, .string Ti, .int .u32 Ni, .int .i64 1, .int .i64 ci] 32)) 32 Ki Ti Ni ci; simpa using this) (by simp [Value.oneCell', tokC]) (by unfold maxLen; omega) (by omega) (by simp; omega) ?_; intro v' w5 hown hg _; have HR5 := Lib.hid (HST.out w4 w5 _ _ v' _ _ _ S4.out F4.out hown hg); clear hown hg)
      go_roundw
      case rel => exact ⟨i + 1, by omega, Lib.hid (by rw [← HFL.out]; exact HR5.out)⟩
      case measure => rw [HLV.out, lenV_row HR5.out.row]; omega
    · obtain rfl : i = m := by omega
      have HEm := Lib.hid (HEE.out r p q _ HW.out.st)
      have HP : Hid (∀ W2, Fr (fun k => k = r ∨ k = p) wr W2 → ∀ j, j < 2 → (∃ y, W2.cell? ⟨w.heap.size, j, none⟩ = some y) ∧ W2.frozen? ⟨w.heap.size, j, none⟩ = false) := Lib.hid (fun W2 h2 j hj => by
        have f2 := (((HF.out.mono (G := fun k => k = r ∨ k = p) (fun _ _ e => e.elim)).trans HW.out.fr).trans h2)
        have hc : ∃ y, (w.alloc (.cells #[.int .i64 0, .int .i64 0] 25)).cell? ⟨w.heap.size, j, none⟩ = some y := ⟨_, fcell w _ _ j _ (Array.getElem?_eq_getElem (by simpa using hj))⟩
        have hn : ¬ (w.heap.size = r ∨ w.heap.size = p) := by have := HR.out; omega
        exact ⟨hc.elim fun y hy => ⟨y, f2.cell hy hn⟩, hc.elim fun y hy => (f2.frozen hy hn).trans (World.frozen?_alloc_new _ _ _ _)⟩)
      go_wp2_with (go_at_call 15; (with_reducible refine HEm.out.mono ?_); rintro e w4 ⟨rfl, hf4⟩; have F4 := Lib.hid hf4; have HOW := Lib.hid (HW.out.keep hf4); have hP : ∀ cs t, Fr (fun k => k = r ∨ k = p) wr (w4.alloc (.cells cs t)) := (fun cs t => hf4.trans ((fr_al (Fr.refl (fun _ => False) w4) (.cells cs t)).mono (fun _ _ e => e.elim))); have hq := HP.out _ (hP #[.int .i64 0, .string ⟨#[]⟩, .int .u32 0, .int .i64 1, .int .i64 cE] 32); obtain ⟨⟨b0, k0⟩, f0⟩ := hq 0 (by decide); obtain ⟨⟨b1, k1⟩, f1⟩ := hq 1 (by decide); clear hf4 hq hP)
      go_region
      all_goals go_wp2
      all_goals refine bodyPost_ret (v := .tuple #[_, .agg #[.int .i64 1, .int .i64 cE], .int .i64 0]) (by simp [results, Tryd.results6, go_sem, set2L k0 k1]; rfl) rfl ⟨_, rfl, ?_, ?_⟩
      all_goals first
        | exact ownsRow_base ((fr_fin w4 w.heap.size _ _ _).owns HOW.out (fun j e => by have h1 := (World.ownsRow.lt HOW.out j e).1; have h2 := HF.out.size; simp at h2; omega)) (by have h2 := HF.out.size; simp at h2; omega)
        | exact ((((fr_al (Fr.refl (fun _ => False) w) _).trans HF.out).mono (G := fun k => False) (fun _ _ e => e)).trans' (HW.out.fr.trans F4.out) (fun j hj e => by have := HR.out; omega)).trans' (fr_fin w4 w.heap.size _ _ _) (fun j hj e => by omega)
end Go.Proofs.YtoffbjfgledjfaaDoor
