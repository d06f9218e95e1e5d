/-
  The contract of First (layer 4): the records that are no replays, in their order.
-/
import Derived.Test.YtipfefkddnogjaaRec
import Derived.Maps.Range
import Derived.Maps.RangeWalk
import Derived.OwnWalk
import Derived.Outline
namespace Go.Proofs.Ytipfefkddnogjaa
open Go.RowKit Go.Maps
set_option linter.unusedVariables false
set_option linter.unusedSimpArgs false

/-- A slice of records with address a reads as l. -/
def RecAt (w : World) (a : Option Addr) (l : List Rc) : Prop :=
  ∀ k, k < l.length → ∃ b o, a = some ⟨b, o, none⟩ ∧ w.cell? ⟨b, o + k * 2, none⟩ = some (.int .u32 (l.getD k (0, 0)).1) ∧ w.cell? ⟨b, o + k * 2 + 1, none⟩ = some (.int .u32 (l.getD k (0, 0)).2)
def recCells (l : List Rc) : List Value := l.flatMap (fun r => [.int .u32 r.1, .int .u32 r.2])
theorem recCells_snoc (l : List Rc) (r : Rc) : recCells (l ++ [r]) = recCells l ++ [.int .u32 r.1, .int .u32 r.2] := by simp [recCells]
theorem recCells_at : ∀ (l : List Rc) (k : Nat), k < l.length → (recCells l)[k * 2]? = some (.int .u32 (l.getD k (0, 0)).1) ∧ (recCells l)[k * 2 + 1]? = some (.int .u32 (l.getD k (0, 0)).2)
  | [], k, h => absurd h (by simp)
  | r :: l, 0, _ => by simp [recCells]
  | r :: l, k + 1, h => by
    have ih := recCells_at l k (by simpa using h)
    have e1 : (k + 1) * 2 = k * 2 + 2 := by omega
    have e2 : (k + 1) * 2 + 1 = k * 2 + 1 + 2 := by omega
    rw [e1]
    have e3 : k * 2 + 2 + 1 = k * 2 + 1 + 2 := by omega
    rw [e3]
    have c : recCells (r :: l) = .int .u32 r.1 :: .int .u32 r.2 :: recCells l := by simp [recCells]
    rw [c]
    simpa using ih
/-- A slice that owns the records' cells reads as them. -/
theorem recAt_own {w : World} {base e : Nat} {v : Value} {l : List Rc} (h : w.ownsRow base e 2 v l.length (recCells l)) : ∃ a c, v = .slice a l.length c ∧ RecAt w a l := by
  have hc := h
  rcases h.2 with ⟨rfl, hn⟩ | ⟨g, cap, cur, rfl, _, _⟩
  · refine ⟨none, 0, by rw [hn], fun k hk => ?_⟩
    omega
  · refine ⟨some ⟨g, 0, none⟩, cap, rfl, fun k hk => ⟨g, 0, rfl, ?_⟩⟩
    have q := recCells_at l k hk
    have a0 := hc.cells (g := g) rfl (k * 2) _ q.1
    have a1 := hc.cells (g := g) rfl (k * 2 + 1) _ q.2
    rw [Addr.add_lit] at a0 a1
    simp only [Nat.zero_add] at a0 a1 ⊢
    exact ⟨a0, a1⟩
theorem recAt_by {w w' : World} {a : Option Addr} {l : List Rc} (h : RecAt w a l) (hg : w.grownBy w' none) : RecAt w' a l := fun k hk => by
  obtain ⟨b, o, e, c0, c1⟩ := h k hk
  exact ⟨b, o, e, hg.cell c0 (by simp), hg.cell c1 (by simp)⟩
theorem info66 : (Try.prog.info? 66).map (fun i => (i.zero, i.size, i.bytes)) = some (some (.agg #[.int .u32 0, .int .u32 0]), 2, 8) := by kernel_rfl
theorem by_refl (w : World) : w.grownBy w none := ⟨rfl, rfl, rfl, Nat.le_refl _, fun _ _ _ => rfl⟩
def FirstP (l : List Rc) (w : World) (e : Ending) (w' : World) : Prop := ∃ a c, e = .returned (.slice a (firsts l).length c) ∧ RecAt w' a (firsts l) ∧ w.grownBy w' none
theorem firstP_ret {l : List Rc} {w w' : World} {base t : Nat} {v : Value} (h : w'.ownsRow base t 2 v (firsts l).length (recCells (firsts l))) (hg : w.grownBy w' none) : FirstP l w (.returned v) w' := by
  obtain ⟨a, c, rfl, h2⟩ := recAt_own h
  exact ⟨a, c, rfl, h2, hg⟩
/-- What First holds after k rounds. -/
structure FirstRel (w wr : World) (l : List Rc) (k : Nat) (v : Value) : Prop where
  map : ownsR wr w.heap.size (firsts (l.take k))
  row : wr.ownsRow (w.heap.size + 1) 66 2 v (firsts (l.take k)).length (recCells (firsts (l.take k)))
  by_ : w.grownBy wr none
  size : w.heap.size + 1 ≤ wr.heap.size
theorem own_ne {w : World} {B t sz n : Nat} {v : Value} {xs : List Value} (h : w.ownsRow (B + 1) t sz v n xs) : v.ownBlock ≠ some B := fun e => by
  have := (h.lt B e).1
  omega
theorem own_ge {w W : World} {t sz n : Nat} {v : Value} {xs : List Value} (h : w.ownsRow (W.heap.size + 1) t sz v n xs) : ∀ j, v.ownBlock = some j → W.heap.size ≤ j ∨ (none : Option Nat) = some j := fun j e => by
  have := (h.lt j e).1
  exact Or.inl (by omega)
theorem news_cell (w : World) (t : TypeId) (x y : Value) : ∀ (j : Nat) (u : Value), [x, y][j]? = some u → (w.alloc (.cells #[x, y] t)).cell? ((⟨w.heap.size, 0, none⟩ : Addr).add j) = some u := by
  intro j u h
  match j, h with
  | 0, h => rw [Addr.add_lit]; exact row_cell w #[x, y] t 0 u (by simpa using h)
  | 1, h => rw [Addr.add_lit]; exact row_cell w #[x, y] t 1 u (by simpa using h)
  | n + 2, h => simp at h
/-- A replay: nothing is appended. -/
theorem rel_old {w wr w2 : World} {l acc : List Rc} {k : Nat} {v : Value} {r : Rc} {X Y : Array Value}
    (hby : w.grownBy wr none) (hsz : w.heap.size + 1 ≤ wr.heap.size) (hrow : wr.ownsRow (w.heap.size + 1) 66 2 v acc.length (recCells acc))
    (hm2 : ownsR w2 w.heap.size acc) (hg2 : (wr.alloc (.cells X 66)).grownBy w2 (some w.heap.size)) (F : firsts (l.take (k + 1)) = stepF acc r) (hn : hasN acc r.1 = true) :
    FirstRel w (w2.alloc (.cells Y 66)) l (k + 1) v := by
  have e : firsts (l.take (k + 1)) = acc := by rw [F]; unfold stepF; rw [if_pos hn]
  have s2 := hg2.size
  simp at s2
  refine ⟨by rw [e]; exact hm2.alloc _, by rw [e]; exact ((hrow.alloc _).kept hg2 (Or.inr (own_ne hrow))).alloc _, ?_, by simp; omega⟩
  exact ((hby.trans (World.grownBy_alloc _ _ _)).andThen hg2 (fun j hj => by cases hj; exact Or.inl (Nat.le_refl _))).trans (World.grownBy_alloc _ _ _)
theorem rel_new {w wr w2 w3 : World} {l acc : List Rc} {k : Nat} {v v' : Value} {r : Rc} {X Y Z : Array Value}
    (hby : w.grownBy wr none) (hsz : w.heap.size + 1 ≤ wr.heap.size) (hrow : wr.ownsRow (w.heap.size + 1) 66 2 v acc.length (recCells acc))
    (hm2 : ownsR w2 w.heap.size (acc ++ [r])) (hg2 : (wr.alloc (.cells X 66)).grownBy w2 (some w.heap.size)) (F : firsts (l.take (k + 1)) = stepF acc r) (hn : hasN acc r.1 = false)
    (h3 : w3.ownsRow (w.heap.size + 1) 66 2 v' (acc.length + 1) (recCells acc ++ [.int .u32 r.1, .int .u32 r.2])) (hg3 : ((w2.alloc (.cells Y 66)).alloc (.cells Z 66)).grownBy w3 v.ownBlock) :
    FirstRel w w3 l (k + 1) v' := by
  have e : firsts (l.take (k + 1)) = acc ++ [r] := by rw [F]; unfold stepF; rw [if_neg (by rw [hn]; simp)]
  have s2 := hg2.size
  have s3 := hg3.size
  simp at s2 s3
  refine ⟨by rw [e]; exact ((hm2.alloc _).alloc _).kept hg3 (own_ne hrow).symm, by rw [e, recCells_snoc]; simpa using h3, ?_, by omega⟩
  exact ((((hby.trans (World.grownBy_alloc _ _ _)).andThen hg2 (fun j hj => by cases hj; exact Or.inl (Nat.le_refl _))).trans (World.grownBy_alloc _ _ _)).trans (World.grownBy_alloc _ _ _)).andThen hg3 (own_ge hrow)
set_option maxRecDepth 100000 in
set_option maxHeartbeats 8000000 in
theorem c30 (a : Option Addr) (c : Nat) (l : List Rc) (hl : l.length < 1000000) (hr : Rcs l) (w : World) (hat : RecAt w a l) :
    Calls Try.prog 30 #[.slice a l.length c] w (FirstP l w) := by
  obtain ⟨i66, hi, hz0, hz1, hz2⟩ := info_parts info66
  have HI := Lib.hid hi
  have HZ0 := Lib.hid hz0
  have HZ1 := Lib.hid hz1
  have HZ2 := Lib.hid hz2
  clear hi hz0 hz1 hz2
  have HA := Lib.hid hat
  have HRc := Lib.hid hr
  clear hat hr
  have hmm := @run_makeMap Try.prog
  have H0 : Hid (FirstRel w (w.alloc (.map #[] 0)) l 0 (.slice none 0 0)) := Lib.hid ⟨World.ownsMap_made _ _ _ _, World.ownsRow_nil _ _ _ _, World.grownBy_alloc _ _ _, by simp⟩
  go_enter Try.func30, Try.ntmps30
  go_wp2
  go_loopw [3, 12] (fun v i wr => ∃ k : Nat, k ≤ l.length ∧ i = .int .i64 k ∧ Hid (FirstRel w wr l k v)) (fun _ i _ => l.length - (intOf i).toNat)
  case atStart => exact ⟨0, by omega, rfl, H0⟩
  case round =>
    obtain ⟨k, hk, rfl, HW⟩ := hrel
    clear H0
    by_cases hlt : k < l.length
    · have hW := HW.out
      obtain ⟨b, o, rfl, c0, c1⟩ := recAt_by HA.out hW.by_ k hlt
      have hro : Rc.ok (l.getD k (0, 0)) := HRc.out _ (by rw [List.getD_eq_getElem?_getD, List.getElem?_eq_getElem hlt]; exact List.getElem_mem hlt)
      have hts := take_snoc hlt
      have hlen : (firsts (l.take k)).length < 1000000 := by have := length_firsts (l.take k); have := List.length_take_le k l; omega
      have hap := apart_firsts (l.take k)
      have F1 : Hid (firsts (l.take (k + 1)) = stepF (firsts (l.take k)) (l.getD k (0, 0))) := Lib.hid (by rw [hts, firsts_snoc])
      have hmap := Lib.hid hW.map
      have hrow := Lib.hid hW.row
      have hby := Lib.hid hW.by_
      have hsz := hW.size
      clear hts hW HW
      generalize l.getD k (0, 0) = r at *
      generalize firsts (l.take k) = acc at *
      have HRO := Lib.hid hro
      have HAP := Lib.hid hap
      clear hro hap
      cases hn : hasN acc r.1
      · have HN := Lib.hid hn
        clear hn
        go_wp2_with (first
          | (go_at_call 62; (with_reducible refine (see_new _ acc r HRO.out HAP.out HN.out hlen _ (by exact hmap.out.alloc _)).mono ?_); rintro e w2 ⟨rfl, hm2, hg2⟩
             have z0 := hg2.cell (row_cell wr #[.int .u32 r.1, .int .u32 r.2] 66 0 _ rfl) (by simp; omega)
             have z1 := hg2.cell (row_cell wr #[.int .u32 r.1, .int .u32 r.2] 66 1 _ rfl) (by simp; omega)
             have q1 : wr.heap.size < w2.heap.size := Nat.lt_of_lt_of_le (by simp) hg2.size
             have q2 : wr.heap.size ≠ w2.heap.size := by omega
             have HM2 := Lib.hid hm2; have HG2 := Lib.hid hg2; clear hm2 hg2)
          | (at_builtin; refine wpList_append_own _ rfl _ _ 50 rfl (w.heap.size + 1) 66 i66 (.agg #[.int .u32 0, .int .u32 0]) 2 8 Try.underlying50 HI.out HZ0.out HZ1.out HZ2.out rfl (by decide) _ acc.length (recCells acc) rfl (by exact (((hrow.out.alloc _).kept HG2.out (Or.inr (own_ne hrow.out))).alloc _).alloc _) ⟨w2.heap.size + 1, 0, none⟩ 1 1 [.int .u32 r.1, .int .u32 r.2] rfl rfl (by have := news_cell (w2.alloc (.cells #[.int .u32 r.1, .int .u32 r.2] 66)) 66 (.int .u32 r.1) (.int .u32 r.2); simpa using this) (by simp [Value.oneCell']) (by unfold maxLen; omega) (by omega) (by simp; omega) ?_
             intro v' w3 hown3 hg3 _
             have HR3 := Lib.hid (rel_new (k := k) (l := l) hby.out hsz hrow.out HM2.out HG2.out F1.out HN.out hown3 hg3); clear hown3 hg3))
        go_roundw
        case rel => exact ⟨k + 1, by omega, by go_num, HR3⟩
        case measure => simp [intOf]; omega
      · have HN := Lib.hid hn
        clear hn
        go_wp2_with (first
          | (go_at_call 62; (with_reducible refine (see_old _ acc r HRO.out HAP.out HN.out _ (by exact hmap.out.alloc _)).mono ?_); rintro e w2 ⟨rfl, hm2, hg2⟩
             have z0 := hg2.cell (row_cell wr #[.int .u32 r.1, .int .u32 r.2] 66 0 _ rfl) (by simp; omega)
             have z1 := hg2.cell (row_cell wr #[.int .u32 r.1, .int .u32 r.2] 66 1 _ rfl) (by simp; omega)
             have q1 : wr.heap.size < w2.heap.size := Nat.lt_of_lt_of_le (by simp) hg2.size
             have q2 : wr.heap.size ≠ w2.heap.size := by omega
             have HM2 := Lib.hid hm2; have HG2 := Lib.hid hg2; clear hm2 hg2))
        go_roundw
        case rel => exact ⟨k + 1, by omega, by go_num, Lib.hid (rel_old hby.out hsz hrow.out HM2.out HG2.out F1.out HN.out)⟩
        case measure => simp [intOf]; omega
    · have hk4 : k = l.length := by omega
      subst hk4
      go_wp2
      go_ret
      have hW := HW.out
      exact firstP_ret (by have := hW.row; rwa [List.take_length] at this) hW.by_
end Go.Proofs.Ytipfefkddnogjaa
