/-
  The contracts of Replays, Orderly, Values and of the library's Equal at words (layer 4).
-/
import Derived.Test.YtipfefkddnogjaaRecF
import Derived.BigQuiet
import Derived.Deep.QuietTactic
namespace Go.Proofs.Ytipfefkddnogjaa
open Go.RowKit Go.Maps
set_option linter.unusedVariables false
set_option linter.unusedSimpArgs false

theorem by_drewN {w w1 : World} (h : w.grownBy w1 none) (n : Nat) : w.grownBy (w1.drewN n) none := ⟨h.os, h.tape, h.output, h.size, h.block⟩
theorem by_alloc {w w1 : World} (h : w.grownBy w1 none) (o : Obj) : w.grownBy (w1.alloc o) none := h.trans (World.grownBy_alloc _ _ _)
/-- A slice of words with address a reads as xs. -/
def IntAt (w : World) (a : Option Addr) (xs : List Int) : Prop :=
  ∀ k, k < xs.length → ∃ b o, a = some ⟨b, o, none⟩ ∧ w.cell? ⟨b, o + k, none⟩ = some (.int .u32 (xs.getD k 0))
theorem intAt_by {w w' : World} {a : Option Addr} {l : List Int} (h : IntAt w a l) (hg : w.grownBy w' none) : IntAt w' a l := fun k hk => by
  obtain ⟨b, o, e, c0⟩ := h k hk
  exact ⟨b, o, e, hg.cell c0 (by simp)⟩
def uCells (l : List Int) : List Value := l.map (Value.int .u32)
theorem intAt_own {w : World} {base e : Nat} {v : Value} {l : List Int} (h : w.ownsRow base e 1 v l.length (uCells l)) : ∃ a c, v = .slice a l.length c ∧ IntAt w a l := by
  have hc := h
  rcases h.2 with ⟨rfl, hn⟩ | ⟨g, cap, cur, rfl, _, _⟩
  · refine ⟨none, 0, by rw [hn], fun k hk => ?_⟩
    omega
  · refine ⟨some ⟨g, 0, none⟩, cap, rfl, fun k hk => ⟨g, 0, rfl, ?_⟩⟩
    have q : (uCells l)[k]? = some (.int .u32 (l.getD k 0)) := by
      unfold uCells; rw [List.getElem?_map, List.getElem?_eq_getElem hk, List.getD_eq_getElem?_getD, List.getElem?_eq_getElem hk]; rfl
    have a0 := hc.cells (g := g) rfl k _ q
    rw [Addr.add_lit] at a0
    simp only [Nat.zero_add] at a0 ⊢
    exact a0
set_option maxHeartbeats 2000000 in
theorem c33 (a : Option Addr) (c : Nat) (l : List Rc) (hl : l.length < 1000000) (hr : Rcs l) (w : World) (hat : RecAt w a l) :
    Calls Try.prog 33 #[.slice a l.length c] w fun e w' => e = .returned (.int .i64 ((l.length : Int) - (firsts l).length)) ∧ w.grownBy w' none := by
  have HA := Lib.hid hat
  have HR := Lib.hid hr
  have hf := length_firsts l
  clear hat hr
  go_enter Try.func33, Try.ntmps33
  go_wp2_with (go_at_call 30; (with_reducible refine (c30 a c l hl HR.out w HA.out).mono ?_); rintro e w1 ⟨a1, c1, rfl, _, hg⟩; have HG := Lib.hid hg; clear hg)
  go_ret
  exact ⟨rfl, HG.out⟩
theorem ord_false {l : List Rc} {k : Nat} (hk : k < l.length) (h : okStep (firsts (l.take k)) (l.getD k (0, 0)) = false) : ordP l = false := by
  cases hp : ordP l with
  | false => rfl
  | true =>
    have := ordK_of_le (l := l) (j := k + 1) (k := l.length) (by omega) hp
    unfold ordK at this
    rw [h] at this
    simp at this
/-- What Orderly holds after k rounds. -/
structure OrdRel (w wr : World) (l : List Rc) (k : Nat) : Prop where
  map : ownsR wr w.heap.size (firsts (l.take k))
  by_ : w.grownBy wr none
  size : w.heap.size + 1 ≤ wr.heap.size
  ord : ordK l k = true
theorem ord_step {w wr w2 : World} {l acc : List Rc} {k : Nat} {r : Rc} {X Y : Array Value}
    (hby : w.grownBy wr none) (hsz : w.heap.size + 1 ≤ wr.heap.size) (hm2 : ownsR w2 w.heap.size (stepF acc r)) (hg2 : (wr.alloc (.cells X 66)).grownBy w2 (some w.heap.size)) (F : firsts (l.take (k + 1)) = stepF acc r) (ho : ordK l (k + 1) = true) :
    OrdRel w (w2.alloc (.cells Y 66)) l (k + 1) := by
  have s2 := hg2.size
  simp at s2
  refine ⟨by rw [F]; exact hm2.alloc _, ?_, by simp; omega, ho⟩
  exact ((hby.trans (World.grownBy_alloc _ _ _)).andThen hg2 (fun j hj => by cases hj; exact Or.inl (Nat.le_refl _))).trans (World.grownBy_alloc _ _ _)
theorem ord_by {w wr w2 : World} {X Y : Array Value} (hby : w.grownBy wr none) (hg2 : (wr.alloc (.cells X 66)).grownBy w2 (some w.heap.size)) : w.grownBy (w2.alloc (.cells Y 66)) none :=
  ((hby.trans (World.grownBy_alloc _ _ _)).andThen hg2 (fun j hj => by cases hj; exact Or.inl (Nat.le_refl _))).trans (World.grownBy_alloc _ _ _)
set_option maxRecDepth 100000 in
set_option maxHeartbeats 8000000 in
theorem c34 (a : Option Addr) (c : Nat) (l : List Rc) (hl : l.length < 1000000) (hr : Rcs l) (w : World) (hat : RecAt w a l) :
    Calls Try.prog 34 #[.slice a l.length c] w fun e w' => e = .returned (.bool (ordP l)) ∧ w.grownBy w' none := by
  have HA := Lib.hid hat
  have HRc := Lib.hid hr
  clear hat hr
  have hmm := @run_makeMap Try.prog
  have H0 : Hid (OrdRel w (w.alloc (.map #[] 0)) l 0) := Lib.hid ⟨World.ownsMap_made _ _ _ _, World.grownBy_alloc _ _ _, by simp, rfl⟩
  go_enter Try.func34, Try.ntmps34
  go_wp2
  go_loopw [12] (fun i wr => ∃ k : Nat, k ≤ l.length ∧ i = .int .i64 k ∧ Hid (OrdRel w wr l k)) (fun i _ => l.length - (intOf i).toNat)
  case atStart => exact ⟨0, by omega, rfl, H0⟩
  case round =>
    obtain ⟨k, hk, rfl, HW⟩ := hrel
    clear H0
    by_cases hlt : k < l.length
    · have hW := HW.out
      obtain ⟨b, o, rfl, c0, c1⟩ := recAt_by HA.out hW.by_ k hlt
      have hro : Rc.ok (l.getD k (0, 0)) := HRc.out _ (by rw [List.getD_eq_getElem?_getD, List.getElem?_eq_getElem hlt]; exact List.getElem_mem hlt)
      have hts := take_snoc hlt
      have hlen : (firsts (l.take k)).length < 1000000 := by have := length_firsts (l.take k); have := List.length_take_le k l; omega
      have hap := apart_firsts (l.take k)
      have F1 : Hid (firsts (l.take (k + 1)) = stepF (firsts (l.take k)) (l.getD k (0, 0))) := Lib.hid (by rw [hts, firsts_snoc])
      have F2 : Hid (okStep (firsts (l.take k)) (l.getD k (0, 0)) = false → ordP l = false) := Lib.hid (ord_false hlt)
      have F3 : Hid (okStep (firsts (l.take k)) (l.getD k (0, 0)) = true → ordK l (k + 1) = true) := Lib.hid (fun h => by unfold ordK; rw [hW.ord, h]; rfl)
      have hmap := Lib.hid hW.map
      have hby := Lib.hid hW.by_
      have hsz := hW.size
      have hsm := Lib.hid (size_mapOf hap)
      clear hts hW HW
      generalize l.getD k (0, 0) = r at *
      generalize firsts (l.take k) = acc at *
      have HAP := Lib.hid hap
      have HRO := Lib.hid hro
      obtain ⟨⟨r0, r1⟩, r2, r3⟩ := hro
      clear hap
      cases hn : hasN acc r.1
      · have HN := Lib.hid hn
        have HS : Hid (stepF acc r = acc ++ [r]) := Lib.hid (by unfold stepF; rw [if_neg (by rw [hn]; simp)])
        have hok : okStep acc r = (r.1 == (acc.length : Int)) := by unfold okStep; rw [if_neg (by rw [hn]; simp)]
        clear hn
        cases he : (r.1 == (acc.length : Int))
        · have HP : Hid (ordP l = false) := Lib.hid (F2.out (by rw [hok, he]))
          have he' : (r.1 != (acc.length : Int)) = true := by unfold bne; rw [he]; rfl
          clear hok
          go_wp2_with (first
            | (at_len; refine wpList_len_own _ rfl _ 98 rfl 24 66 Try.underlying98 recElem w.heap.size acc.length (mapOf acc) rfl (by exact hmap.out.alloc _) ?_; rw [hsm.out])
            | (go_at_call 62; (with_reducible refine (see_new _ acc r HRO.out HAP.out HN.out hlen _ (by exact hmap.out.alloc _)).mono ?_); rintro e w2 ⟨rfl, hm2, hg2⟩
               have z0 := hg2.cell (row_cell wr #[.int .u32 r.1, .int .u32 r.2] 66 0 _ rfl) (by simp; omega)
               have z1 := hg2.cell (row_cell wr #[.int .u32 r.1, .int .u32 r.2] 66 1 _ rfl) (by simp; omega)
               have q1 : wr.heap.size < w2.heap.size := Nat.lt_of_lt_of_le (by simp) hg2.size
               have q2 : wr.heap.size ≠ w2.heap.size := by omega
               have HM2 := Lib.hid hm2; have HG2 := Lib.hid hg2; clear hm2 hg2))
          go_ret
          exact ⟨by rw [HP.out]; rfl, ord_by hby.out HG2.out⟩
        · have HP : Hid (ordK l (k + 1) = true) := Lib.hid (F3.out (by rw [hok, he]))
          have he' : (r.1 != (acc.length : Int)) = false := by unfold bne; rw [he]; rfl
          clear hok
          go_wp2_with (first
            | (at_len; refine wpList_len_own _ rfl _ 98 rfl 24 66 Try.underlying98 recElem w.heap.size acc.length (mapOf acc) rfl (by exact hmap.out.alloc _) ?_; rw [hsm.out])
            | (go_at_call 62; (with_reducible refine (see_new _ acc r HRO.out HAP.out HN.out hlen _ (by exact hmap.out.alloc _)).mono ?_); rintro e w2 ⟨rfl, hm2, hg2⟩
               have z0 := hg2.cell (row_cell wr #[.int .u32 r.1, .int .u32 r.2] 66 0 _ rfl) (by simp; omega)
               have z1 := hg2.cell (row_cell wr #[.int .u32 r.1, .int .u32 r.2] 66 1 _ rfl) (by simp; omega)
               have q1 : wr.heap.size < w2.heap.size := Nat.lt_of_lt_of_le (by simp) hg2.size
               have q2 : wr.heap.size ≠ w2.heap.size := by omega
               have HM2 := Lib.hid hm2; have HG2 := Lib.hid hg2; clear hm2 hg2))
          go_roundw
          case rel => exact ⟨k + 1, by omega, by go_num, Lib.hid (ord_step (r := r) hby.out hsz (by rw [HS.out]; exact HM2.out) HG2.out F1.out HP.out)⟩
          case measure => simp [intOf]; omega
      · have HN := Lib.hid hn
        have HS : Hid (stepF acc r = acc) := Lib.hid (by unfold stepF; rw [if_pos hn])
        have hok : okStep acc r = (valN acc r.1 == r.2) := by unfold okStep; rw [if_pos hn]
        clear hn
        cases he : (valN acc r.1 == r.2)
        · have HP : Hid (ordP l = false) := Lib.hid (F2.out (by rw [hok, he]))
          have he' : (valN acc r.1 != r.2) = true := by unfold bne; rw [he]; rfl
          clear hok
          go_wp2_with (first
            | (at_len; refine wpList_len_own _ rfl _ 98 rfl 24 66 Try.underlying98 recElem w.heap.size acc.length (mapOf acc) rfl (by exact hmap.out.alloc _) ?_; rw [hsm.out])
            | (go_at_call 62; (with_reducible refine (see_old _ acc r HRO.out HAP.out HN.out _ (by exact hmap.out.alloc _)).mono ?_); rintro e w2 ⟨rfl, hm2, hg2⟩
               have z0 := hg2.cell (row_cell wr #[.int .u32 r.1, .int .u32 r.2] 66 0 _ rfl) (by simp; omega)
               have z1 := hg2.cell (row_cell wr #[.int .u32 r.1, .int .u32 r.2] 66 1 _ rfl) (by simp; omega)
               have q1 : wr.heap.size < w2.heap.size := Nat.lt_of_lt_of_le (by simp) hg2.size
               have q2 : wr.heap.size ≠ w2.heap.size := by omega
               have HM2 := Lib.hid hm2; have HG2 := Lib.hid hg2; clear hm2 hg2))
          go_ret
          exact ⟨by rw [HP.out]; rfl, ord_by hby.out HG2.out⟩
        · have HP : Hid (ordK l (k + 1) = true) := Lib.hid (F3.out (by rw [hok, he]))
          have he' : (valN acc r.1 != r.2) = false := by unfold bne; rw [he]; rfl
          clear hok
          go_wp2_with (first
            | (at_len; refine wpList_len_own _ rfl _ 98 rfl 24 66 Try.underlying98 recElem w.heap.size acc.length (mapOf acc) rfl (by exact hmap.out.alloc _) ?_; rw [hsm.out])
            | (go_at_call 62; (with_reducible refine (see_old _ acc r HRO.out HAP.out HN.out _ (by exact hmap.out.alloc _)).mono ?_); rintro e w2 ⟨rfl, hm2, hg2⟩
               have z0 := hg2.cell (row_cell wr #[.int .u32 r.1, .int .u32 r.2] 66 0 _ rfl) (by simp; omega)
               have z1 := hg2.cell (row_cell wr #[.int .u32 r.1, .int .u32 r.2] 66 1 _ rfl) (by simp; omega)
               have q1 : wr.heap.size < w2.heap.size := Nat.lt_of_lt_of_le (by simp) hg2.size
               have q2 : wr.heap.size ≠ w2.heap.size := by omega
               have HM2 := Lib.hid hm2; have HG2 := Lib.hid hg2; clear hm2 hg2))
          go_roundw
          case rel => exact ⟨k + 1, by omega, by go_num, Lib.hid (ord_step (r := r) hby.out hsz (by rw [HS.out]; exact HM2.out) HG2.out F1.out HP.out)⟩
          case measure => simp [intOf]; omega
    · have hk4 : k = l.length := by omega
      subst hk4
      have HP : Hid (ordP l = true) := Lib.hid HW.out.ord
      go_wp2
      go_ret
      exact ⟨by rw [HP.out]; rfl, HW.out.by_⟩
end Go.Proofs.Ytipfefkddnogjaa
