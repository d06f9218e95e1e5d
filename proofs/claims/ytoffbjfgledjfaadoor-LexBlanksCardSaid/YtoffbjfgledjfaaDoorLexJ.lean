/-
  Tokens (layer 7): the state of a scanner; it advances.
-/
import Derived.Test.YtoffbjfgledjfaaDoorLexI
import Derived.BigRegion
import Derived.IntWalk
namespace Go.Proofs.YtoffbjfgledjfaaDoor
open Go.RowKit
set_option linter.unusedVariables false
set_option linter.unusedSimpArgs false
def advV (r p : Nat) : Value := .func (.func 13) #[] #[.pointer (some ⟨p, 0, none⟩), .pointer (some ⟨r, 0, none⟩)]
/-- What a scanner holds: the rest of the text, where that begins, and how to go on. -/
structure SSt (r p q : Nat) (s : ByteArray) (l c : Int) (w : World) : Prop where
  rest : w.heap[r]? = some (.cells #[.string s] 9 (0, 0))
  pos : w.heap[p]? = some (.cells #[.int .i64 l, .int .i64 c] 25 (0, 0))
  adv : w.heap[q]? = some (.cells #[advV r p] 51 (0, 0))
  rp : r ≠ p
  rq : r ≠ q
  pq : p ≠ q
theorem SSt.fr {r p q : Nat} {s : ByteArray} {l c : Int} {w w' : World} (h : SSt r p q s l c w) (hf : Fr (fun _ => False) w w') : SSt r p q s l c w' :=
  ⟨(hf.block r (Array.getElem?_eq_some_iff.1 h.rest).1 id).trans h.rest, (hf.block p (Array.getElem?_eq_some_iff.1 h.pos).1 id).trans h.pos, (hf.block q (Array.getElem?_eq_some_iff.1 h.adv).1 id).trans h.adv, h.rp, h.rq, h.pq⟩
theorem fr_drew (w : World) : Fr (fun _ => False) w w.drew := ⟨rfl, rfl, Nat.le_refl _, fun _ _ _ => rfl⟩
theorem row_cell0 {w : World} {g : Nat} {cs : Array Value} {t : TypeId} (h : w.heap[g]? = some (.cells cs t (0, 0))) (j : Nat) (v : Value) (hv : cs[j]? = some v) : w.cell? ⟨g, j, none⟩ = some v := by
  rw [cell_of_row _ _ _ cs t (0, 0) h]; exact hv
theorem row_free0 {w : World} {g : Nat} {cs : Array Value} {t : TypeId} (h : w.heap[g]? = some (.cells cs t (0, 0))) (j : Nat) : w.frozen? ⟨g, j, none⟩ = false := by
  simp [World.frozen?, h]
theorem setAt {w : World} {g : Nat} {cs : Array Value} {t : TypeId} (h : w.heap[g]? = some (.cells cs t (0, 0))) (j : Nat) (v : Value) : (w.setCell ⟨g, j, none⟩ v).heap[g]? = some (.cells (cs.setIfInBounds j v) t (0, 0)) := by
  have hg := (Array.getElem?_eq_some_iff.1 h).1
  have he := (Array.getElem?_eq_some_iff.1 h).2
  simp [World.setCell, hg, Array.getElem_modify, he]
theorem SSt.moved {r p q : Nat} {s : ByteArray} {l c : Int} {w : World} (h : SSt r p q s l c w) (s' : ByteArray) (c' : Int) : SSt r p q s' l c' (((w.setCell ⟨p, 0, none⟩ (.int .i64 l)).setCell ⟨p, 1, none⟩ (.int .i64 c')).setCell ⟨r, 0, none⟩ (.string s')) := by
  refine ⟨?_, ?_, ?_, h.rp, h.rq, h.pq⟩
  · have h1 := setAt (w := (w.setCell ⟨p, 0, none⟩ (.int .i64 l)).setCell ⟨p, 1, none⟩ (.int .i64 c')) (g := r) (cs := #[.string s]) (t := 9) (by rw [Below.heap_setCell _ _ _ _ h.rp, Below.heap_setCell _ _ _ _ h.rp]; exact h.rest) 0 (.string s')
    exact h1
  · rw [Below.heap_setCell _ _ _ _ (fun e => h.rp e.symm)]
    have h1 := setAt h.pos 0 (.int .i64 l)
    exact setAt h1 1 (.int .i64 c')
  · rw [Below.heap_setCell _ _ _ _ (fun e => h.rq e.symm), Below.heap_setCell _ _ _ _ (fun e => h.pq e.symm), Below.heap_setCell _ _ _ _ (fun e => h.pq e.symm)]
    exact h.adv
theorem fr_moved {r p : Nat} {w w2 : World} (h : Fr (fun _ => False) w w2) (v0 v1 v2 : Value) : Fr (fun k => k = r ∨ k = p) w (((w2.setCell ⟨p, 0, none⟩ v0).setCell ⟨p, 1, none⟩ v1).setCell ⟨r, 0, none⟩ v2) := by
  have a : Fr (fun k => k = r ∨ k = p) w w2 := h.mono (fun _ _ e => e.elim)
  exact ((a.trans (Fr.setCell _ _ _ (.inr rfl))).trans (Fr.setCell _ _ _ (.inr rfl))).trans (Fr.setCell _ _ _ (.inl rfl))
set_option maxRecDepth 100000 in
set_option maxHeartbeats 4000000 in
theorem adv_any (r p q n : Nat) (s : ByteArray) (l c : Int) (w : World) (h : SSt r p q s l c w) (hs : s.size ≤ 1000000) (hn : n ≤ s.size) (c0 : 0 ≤ c) (c1 : c ≤ 1000000000)
    (hlf : ∀ j (hj : j < (s.extract 0 n).size), ((((s.extract 0 n)[j]'hj).toNat : Int) == 10) = false) :
    Calls Tryd.prog 13 #[.int .i64 n, .pointer (some ⟨p, 0, none⟩), .pointer (some ⟨r, 0, none⟩)] w fun e w' => e = .returned (.tuple #[]) ∧ SSt r p q (s.extract n s.size) l (c + n) w' ∧ Fr (fun k => k = r ∨ k = p) w w' := by
  have hxz : (s.extract 0 n).size = n := by rw [ByteArray.size_extract]; omega
  have HA : Hid (∀ w, Calls Tryd.prog 14 #[.agg #[.int .i64 l, .int .i64 c], .string (s.extract 0 n)] w fun e w' => e = .returned (.agg #[.int .i64 l, .int .i64 (c + n)]) ∧ Fr (fun _ => False) w w') := Lib.hid (fun w => by
    have := after_plain l c (s.extract 0 n) (by omega) c0 c1 hlf w
    rw [hxz] at this; exact this)
  have HH := Lib.hid h
  have kr := row_cell0 h.rest 0 _ rfl
  have fr := row_free0 h.rest 0
  have kp0 := row_cell0 h.pos 0 _ rfl
  have kp1 := row_cell0 h.pos 1 _ rfl
  have fp0 := row_free0 h.pos 0
  have fp1 := row_free0 h.pos 1
  have ne := h.rp
  have t0 : (0 : Int) ≤ n := by omega
  have t1 : (n : Int) ≤ s.size := by omega
  clear hlf hxz h hn hs c0 c1
  go_enter Tryd.func13, Tryd.ntmps13
  go_wp2
  go_region_with (go_at_call 14; (with_reducible refine (HA.out _).mono ?_); rintro e w2 ⟨rfl, hf⟩; have HF := Lib.hid hf; have HS2 := Lib.hid (HH.out.fr ((fr_drew w).trans hf)); have qp0 := row_cell0 HS2.out.pos 0 _ rfl; have qp1 := row_cell0 HS2.out.pos 1 _ rfl; have gp0 := row_free0 HS2.out.pos 0; have gp1 := row_free0 HS2.out.pos 1; have qr := row_cell0 HS2.out.rest 0 _ rfl; have gr := row_free0 HS2.out.rest 0; clear hf)
  all_goals
    have ne2 : ¬ r = p := ne
    have ne3 : ¬ p = r := fun e => ne e.symm
    go_wp2
    go_end0
    exact ⟨rfl, HS2.out.moved _ _, fr_moved ((fr_drew w).trans HF.out) _ _ _⟩
end Go.Proofs.YtoffbjfgledjfaaDoor
