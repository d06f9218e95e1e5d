/-
  Registers that are none, left out (layer 13): the library's DeleteFunc over a row of the call's own.
-/
import Derived.Test.YteghojgdljlplaaDoorTelH
namespace Go.Proofs.YteghojgdljlplaaDoor
open Go.RowKit
set_option linter.unusedVariables false
set_option linter.unusedSimpArgs false
def keepK (l : List Int) (k : Nat) : List Int := (l.take k).filter (fun x => x != -1)
theorem keepK_no {l : List Int} {k : Nat} (hk : k < l.length) (h : l.getD k 0 = -1) : keepK l (k + 1) = keepK l k := by
  unfold keepK
  rw [List.take_add_one, List.filter_append, List.getElem?_eq_getElem hk]
  rw [List.getD_eq_getElem?_getD, List.getElem?_eq_getElem hk] at h
  have h' : l[k] = -1 := h
  simp [h']
theorem keepK_yes {l : List Int} {k : Nat} (hk : k < l.length) (h : l.getD k 0 ≠ -1) : keepK l (k + 1) = keepK l k ++ [l.getD k 0] := by
  unfold keepK
  rw [List.take_add_one, List.filter_append, List.getElem?_eq_getElem hk]
  rw [List.getD_eq_getElem?_getD, List.getElem?_eq_getElem hk] at h ⊢
  have h' : l[k] ≠ -1 := h
  simp [h']
theorem keepK_all {l : List Int} (k : Nat) (hk : k ≤ l.length) (h : ∀ j, j < k → l.getD j 0 ≠ -1) : keepK l k = l.take k := by
  induction k with
  | zero => simp [keepK]
  | succ k ih =>
    rw [keepK_yes (by omega) (h k (by omega)), ih (by omega) (fun j hj => h j (by omega)), List.take_add_one, List.getElem?_eq_getElem (by omega), List.getD_eq_getElem?_getD, List.getElem?_eq_getElem (by omega)]
    rfl
theorem keepK_len (l : List Int) : keepK l l.length = l.filter (fun x => x != -1) := by unfold keepK; rw [List.take_length]
/-- What stands in the row between rounds: what is kept so far, and what is to come. -/
structure Del (w wr : World) (g c : Nat) (l : List Int) (ki kj : Nat) : Prop where
  len : ki = (keepK l kj).length
  lt : ki < kj
  le : kj ≤ l.length
  row : ∃ cur : Array Value, wr.heap[g]? = some (.cells cur 3 (0, 0)) ∧ cur.size = c ∧ (∀ m, m < ki → cur[m]? = some (.int .i64 ((keepK l kj).getD m 0))) ∧ (∀ m, kj ≤ m → m < l.length → cur[m]? = some (.int .i64 (l.getD m 0)))
  fr : Fr (fun k => k = g) w wr
theorem Del.skip {w wr : World} {g c : Nat} {l : List Int} {ki kj : Nat} (h : Del w wr g c l ki kj) (hk : kj < l.length) (e : l.getD kj 0 = -1) : Del w wr g c l ki (kj + 1) := by
  obtain ⟨cur, a, b, d, f⟩ := h.row
  exact ⟨by rw [keepK_no hk e]; exact h.len, by have := h.lt; omega, hk, ⟨cur, a, b, by rw [keepK_no hk e]; exact d, fun m h1 h2 => f m (by omega) h2⟩, h.fr⟩
theorem Del.take {w wr : World} {g c : Nat} {l : List Int} {ki kj : Nat} {x : Int} (h : Del w wr g c l ki kj) (hc : l.length ≤ c) (hk : kj < l.length) (e : l.getD kj 0 ≠ -1) (hx : l.getD kj 0 = x) : Del w (wr.setCell ⟨g, ki, none⟩ (.int .i64 x)) g c l (ki + 1) (kj + 1) := by
  subst hx
  obtain ⟨cur, a, b, d, f⟩ := h.row
  have hlt := h.lt
  have hl := h.len
  refine ⟨by rw [keepK_yes hk e]; simp; exact hl, by omega, hk, ⟨_, heap_setCell_same wr g ki cur _ _ a, by simp; exact b, ?_, ?_⟩, h.fr.trans (Fr.setCell _ _ _ rfl)⟩
  · intro m hm
    rw [keepK_yes hk e, Array.getElem?_setIfInBounds]
    by_cases hmk : ki = m
    · subst hmk
      rw [if_pos rfl, if_pos (by omega)]
      rw [hl, show (keepK l kj ++ [l.getD kj 0]).getD (keepK l kj).length 0 = l.getD kj 0 by simp [List.getD_eq_getElem?_getD]]
    · rw [if_neg hmk, d m (by omega)]
      rw [List.getD_eq_getElem?_getD, List.getD_eq_getElem?_getD, List.getElem?_append_left (by omega)]
  · intro m h1 h2
    rw [Array.getElem?_setIfInBounds, if_neg (by omega)]
    exact f m (by omega) h2
set_option maxRecDepth 100000 in
set_option maxHeartbeats 8000000 in
theorem del_any (l : List Int) (g n c : Nat) (cur : Array Value) (hn : n = l.length) (hb : n ≤ 1000) (hc : n ≤ c) (hm : c ≤ maxLen) (w : World) (hg : w.heap[g]? = some (.cells cur 3 (0, 0))) (hcs : cur.size = c) (hcur : ∀ k, k < n → cur[k]? = some (.int .i64 (l.getD k 0))) :
    Calls Tryd.prog 35 #[.slice (some ⟨g, 0, none⟩) n c, .func (.func 36) #[] #[]] w fun e w' => (∃ v, e = .returned v ∧ SlInts w' v (l.filter (fun x => x != -1))) ∧ Fr (fun k => k = g) w w' := by
  obtain ⟨i0, hi, hz0, hz1, hz2⟩ := info_partsB (show (Tryd.prog.info? 3).map (fun i => (i.zero, i.size, i.bytes)) = some (some (.int .i64 0), 1, 8) by kernel_rfl)
  have HI := Lib.hid hi
  have HZ0 := Lib.hid hz0
  clear hi hz0 hz1 hz2
  have hm' : c ≤ 9223372036854775807 := by unfold maxLen at hm; omega
  have HN := Lib.hid hn
  have HAT : Hid (IntsAt w (some ⟨g, 0, none⟩) l) := Lib.hid (fun k hk => ⟨g, 0, rfl, by rw [Nat.zero_add, cell_of_row w g k cur _ _ hg]; exact hcur k (by rw [HN.out]; exact hk)⟩)
  have HG := Lib.hid hg
  have HS := Lib.hid hcs
  have HC := Lib.hid hcur
  clear hn hg hcs hcur hm
  go_enter Tryd.func35, Tryd.ntmps35
  go_wp2_with (go_at_call 54; (with_reducible refine (idx_any l _ n c HN.out hb _ HAT.out).mono ?_); rintro e w2 ⟨(⟨f, hf, hf1, hf2, hf3, rfl⟩ | ⟨hno, rfl⟩), rfl⟩)
  · have HD0 : Hid (Del w2 w2 g c l f (f + 1)) := Lib.hid (by
      have hnn := HN.out
      have e1 := keepK_all f (by omega) hf2
      have e2 := keepK_no (by omega) hf1
      refine ⟨by rw [e2, e1, List.length_take]; omega, by omega, by omega, ⟨cur, HG.out, HS.out, fun m hm => ?_, fun m h1 h2 => HC.out m (by rw [HN.out]; exact h2)⟩, Fr.refl _ _⟩
      rw [HC.out m (by omega), e2, e1, List.getD_eq_getElem?_getD, List.getD_eq_getElem?_getD, List.getElem?_take, if_pos hm])
    clear hf1 hf2 HC HS HG
    go_loopw [5, 6, 7] (fun p q _ wr => ∃ ki kj : Nat, p = .int .i64 ki ∧ q = .int .i64 kj ∧ ki < kj ∧ kj ≤ n ∧ Hid (Del w2 wr g c l ki kj)) (fun _ q _ _ => n - (intOf q).toNat)
    case atStart => exact ⟨f, f + 1, rfl, by go_num, by omega, by omega, HD0⟩
    case round =>
      obtain ⟨ki, kj, rfl, rfl, hlt, hle, HW⟩ := hrel
      clear HD0
      by_cases hk : kj < n
      · obtain ⟨x, hx⟩ : ∃ x, l.getD kj 0 = x := ⟨_, rfl⟩
        obtain ⟨cr, r1, r2, r3, r4⟩ := HW.out.row
        have C : wr.cell? ⟨g, kj, none⟩ = some (.int .i64 x) := by rw [cell_of_row wr g kj cr _ _ r1, r4 kj (Nat.le_refl _) (by rw [← HN.out]; exact hk), hx]
        obtain ⟨y, D⟩ : ∃ y, wr.cell? ⟨g, ki, none⟩ = some y := ⟨cr[ki]'(by omega), by rw [cell_of_row wr g ki cr _ _ r1, Array.getElem?_eq_getElem (by omega)]⟩
        have Z : wr.frozen? ⟨g, ki, none⟩ = false := frozen_of_row wr g ki cr _ r1
        clear r1 r2 r3 r4
        by_cases e : x = -1
        · subst e
          have HV := Lib.hid (HW.out.skip (by rw [← HN.out]; exact hk) hx)
          clear hx
          go_wp2_with (go_at_call 36; (with_reducible refine (ask_any _ _).mono ?_); rintro e w2 ⟨rfl, rfl⟩)
          go_roundw
          case rel => exact ⟨ki, kj + 1, rfl, by go_num, by omega, by omega, HV⟩
          case measure => simp [intOf]; omega
        · have HV := Lib.hid (HW.out.take (by rw [← HN.out]; exact hc) (by rw [← HN.out]; exact hk) (by rw [hx]; exact e) hx)
          have e' : (x == -1) = false := by simpa using e
          clear hx e
          go_wp2_with (go_at_call 36; (with_reducible refine (ask_any _ _).mono ?_); rintro e w2 ⟨rfl, rfl⟩)
          go_roundw
          case rel => exact ⟨ki + 1, kj + 1, by go_num, by go_num, by omega, by omega, HV⟩
          case measure => simp [intOf]; omega
      · obtain rfl : kj = n := by omega
        obtain ⟨cr, r1, r2, r3, r4⟩ := HW.out.row
        obtain ⟨w3, cu3, hrun, k1, k2, k3, k4⟩ := run_clear (P := Tryd.prog) 36 0 3 i0 (.int .i64 0) rfl HI.out HZ0.out rfl rfl g ki (kj - ki) (c - ki) cr r1 (by omega)
        have HR3 := Lib.hid r3
        have HK1 := Lib.hid k1
        have HK3 := Lib.hid k3
        have HK4 := Lib.hid (HW.out.fr.trans k4)
        clear r1 r2 r3 r4 k1 k2 k3 k4
        go_wp2
        go_ret
        refine ⟨⟨_, rfl, ?_⟩, HK4.out⟩
        have hl := HW.out.len
        refine ⟨some ⟨g, 0, none⟩, c, ?_, fun k hk => ⟨g, 0, rfl, ?_⟩⟩
        · rw [← keepK_len, ← HN.out, ← hl]; rfl
        · rw [← keepK_len, ← HN.out] at hk ⊢
          rw [Nat.zero_add, cell_of_row w3 g k cu3 _ _ HK1.out, HK3.out k (by omega), HR3.out k (by omega)]
  · have hk : l.filter (fun x => x != -1) = l := by rw [← keepK_len, keepK_all _ (Nat.le_refl _) (by rw [← HN.out]; exact hno), List.take_length]
    have HK := Lib.hid hk
    clear hno hk
    go_wp2
    go_ret
    refine ⟨⟨_, rfl, ?_⟩, Fr.refl _ _⟩
    rw [HK.out]
    exact ⟨_, c, by rw [HN.out]; rfl, HAT.out⟩
end Go.Proofs.YteghojgdljlplaaDoor
