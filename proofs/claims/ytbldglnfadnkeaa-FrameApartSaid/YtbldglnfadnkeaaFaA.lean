/-
  Frames (layer 25): rows of numbers, sorted and compacted; seats in memory.
-/
import Derived.Test.YtbldglnfadnkeaaWo
import Derived.Test.YtbldglnfadnkeaaShelf
import Derived.Lib.OwnBridge
import Derived.Lib.RowBridge
import Derived.Lib.AppendIntMem
import Derived.KernelRfl
namespace Go.Proofs.Ytbldglnfadnkeaa
open Go.RowKit Go.Sort
set_option linter.unusedVariables false
set_option linter.unusedSimpArgs false
theorem info_partsF {o : Option TypeInfo} {z : Option Value} {s b : Nat} (h : o.map (fun i => (i.zero, i.size, i.bytes)) = some (z, s, b)) : ∃ i, o = some i ∧ i.zero = z ∧ i.size = s ∧ i.bytes = b := by
  cases o with
  | none => simp at h
  | some i => simp at h; exact ⟨i, rfl, h.1, h.2.1, h.2.2⟩
theorem info_Ints : (Try.prog.info? 3).map (fun i => (i.zero, i.size, i.bytes)) = some (some (.int .i64 0), 1, 8) := by kernel_rfl
def Ints (B : Nat) (w : World) (v : Value) (xs : List Int) : Prop := w.ownsRow B 3 1 v xs.length (xs.map fun (x : Int) => (.int .i64 x : Value))
theorem Ints.nil (B : Nat) (w : World) : Ints B w (.slice none 0 0) [] := World.ownsRow_nil _ _ _ _
theorem Ints.fr {B : Nat} {w w' : World} {v : Value} {xs : List Int} {F : Nat → Prop} (h : Ints B w v xs) (hf : Fr F w w') (hn : ∀ k, B ≤ k → ¬F k) : Ints B w' v xs := hf.owns h (fun k hk => hn k (World.ownsRow.lt h k hk).1)
theorem Ints.form {B : Nat} {w : World} {v : Value} {xs : List Int} (h : Ints B w v xs) : ∃ a c, v = .slice a xs.length c ∧ ∀ (k : Nat) (x : Int), xs[k]? = some x → ∃ g, a = some ⟨g, 0, none⟩ ∧ B ≤ g ∧ w.cell? ⟨g, k, none⟩ = some ((.int .i64 x : Value)) := by
  have hc := h
  rcases h.2 with ⟨rfl, hn⟩ | ⟨g, cap, cur, rfl, hb, hg, hcap, _⟩
  · refine ⟨none, 0, by rw [hn], fun k x hk => ?_⟩
    have : xs = [] := List.eq_nil_of_length_eq_zero hn
    subst this
    simp at hk
  · refine ⟨_, cap, rfl, fun k x hk => ⟨g, rfl, hb, ?_⟩⟩
    have := World.ownsRow.cells hc (g := g) rfl k ((.int .i64 x : Value)) (by rw [List.getElem?_map, hk]; rfl)
    rw [Addr.add_lit] at this
    simpa using this
theorem Ints.appB {B : Nat} {W : World} {v : Value} {xs : List Int} (x : Int) (ty : TypeId) (h : Ints B W v xs) (hB : B ≤ W.heap.size) (hl : xs.length ≤ 1000000) : ∃ v' w', (Builtin.append_ #[29, 29] ty #[v, .slice (some ⟨W.heap.size, 0, none⟩) 1 1]).run Try.prog (W.alloc (.cells #[(.int .i64 x : Value)] 3)) = .ok v' w' ∧ (Ints B w' v' (xs ++ [x]) ∧ Fr (fun q => B ≤ q) W w') := by
  obtain ⟨i0, hi, hz0, hz1, hz2⟩ := info_partsF info_Ints
  have ha := fr_al (Fr.refl (fun _ => False) W) (.cells #[(.int .i64 x : Value)] 3)
  have h0 : (W.alloc (.cells #[(.int .i64 x : Value)] 3)).ownsRow B 3 1 v xs.length (xs.map fun (x : Int) => (.int .i64 x : Value)) := ha.owns h (fun _ _ => id)
  obtain ⟨v', w', hr, h2, h3, h4⟩ := run_append_own (P := Try.prog) (W.alloc (.cells #[(.int .i64 x : Value)] 3)) B 29 ty 3 i0 (.int .i64 0) 1 8 Try.underlying29 hi hz0 hz1 hz2 rfl (by decide) v xs.length (xs.map fun (x : Int) => (.int .i64 x : Value)) h0 ⟨W.heap.size, 0, none⟩ 1 1 [(.int .i64 x : Value)] rfl (fun j u hj => by
    match j, hj with
    | 0, hj =>
      simp at hj
      subst hj
      exact fcell W #[(.int .i64 x : Value)] _ 0 _ rfl
    | j + 1, hj => simp at hj) (by simp [Value.oneCell']) (by unfold maxLen; omega) (by omega) (Nat.le_trans hB ha.size)
  refine ⟨v', w', hr, ?_, (fr_al (Fr.refl _ W) _).trans' (Fr.of_by h3) (fun j hj e => (World.ownsRow.lt h0 j e).1)⟩
  unfold Ints
  rw [List.length_append, List.map_append]
  exact h2
theorem Ints.lt {B : Nat} {W : World} {v : Value} {xs : List Int} (h : Ints B W v xs) : ∀ k, v.ownBlock = some k → B ≤ k ∧ k < W.heap.size := World.ownsRow.lt h
theorem Ints.appO {B : Nat} {W : World} {v : Value} {xs : List Int} (x : Int) (ty : TypeId) (h : Ints B W v xs) (hB : B ≤ W.heap.size) (hl : xs.length ≤ 1000000) : ∃ v' w', (Builtin.append_ #[29, 29] ty #[v, .slice (some ⟨W.heap.size, 0, none⟩) 1 1]).run Try.prog (W.alloc (.cells #[(.int .i64 x : Value)] 3)) = .ok v' w' ∧ (Ints B w' v' (xs ++ [x]) ∧ Fr (fun q => v.ownBlock = some q) W w') := by
  obtain ⟨i0, hi, hz0, hz1, hz2⟩ := info_partsF info_Ints
  have ha := fr_al (Fr.refl (fun _ => False) W) (.cells #[(.int .i64 x : Value)] 3)
  have h0 : (W.alloc (.cells #[(.int .i64 x : Value)] 3)).ownsRow B 3 1 v xs.length (xs.map fun (x : Int) => (.int .i64 x : Value)) := ha.owns h (fun _ _ => id)
  obtain ⟨v', w', hr, h2, h3, h4⟩ := run_append_own (P := Try.prog) (W.alloc (.cells #[(.int .i64 x : Value)] 3)) B 29 ty 3 i0 (.int .i64 0) 1 8 Try.underlying29 hi hz0 hz1 hz2 rfl (by decide) v xs.length (xs.map fun (x : Int) => (.int .i64 x : Value)) h0 ⟨W.heap.size, 0, none⟩ 1 1 [(.int .i64 x : Value)] rfl (fun j u hj => by
    match j, hj with
    | 0, hj =>
      simp at hj
      subst hj
      exact fcell W #[(.int .i64 x : Value)] _ 0 _ rfl
    | j + 1, hj => simp at hj) (by simp [Value.oneCell']) (by unfold maxLen; omega) (by omega) (Nat.le_trans hB ha.size)
  refine ⟨v', w', hr, ?_, (fr_al (Fr.refl _ W) _).trans (Fr.of_by h3)⟩
  unfold Ints
  rw [List.length_append, List.map_append]
  exact h2
theorem Ints.app {w W : World} {v : Value} {xs : List Int} (x : Int) (ty : TypeId) (h : Ints w.heap.size W v xs) (hf : Fr (fun _ => False) w W) (hl : xs.length ≤ 1000000) : ∃ v' w', (Builtin.append_ #[29, 29] ty #[v, .slice (some ⟨W.heap.size, 0, none⟩) 1 1]).run Try.prog (W.alloc (.cells #[(.int .i64 x : Value)] 3)) = .ok v' w' ∧ (Ints w.heap.size w' v' (xs ++ [x]) ∧ Fr (fun _ => False) w w') := by
  obtain ⟨i0, hi, hz0, hz1, hz2⟩ := info_partsF info_Ints
  have ha := fr_al (Fr.refl (fun _ => False) W) (.cells #[(.int .i64 x : Value)] 3)
  have h0 : (W.alloc (.cells #[(.int .i64 x : Value)] 3)).ownsRow w.heap.size 3 1 v xs.length (xs.map fun (x : Int) => (.int .i64 x : Value)) := ha.owns h (fun _ _ => id)
  obtain ⟨v', w', hr, h2, h3, h4⟩ := run_append_own (P := Try.prog) (W.alloc (.cells #[(.int .i64 x : Value)] 3)) w.heap.size 29 ty 3 i0 (.int .i64 0) 1 8 Try.underlying29 hi hz0 hz1 hz2 rfl (by decide) v xs.length (xs.map fun (x : Int) => (.int .i64 x : Value)) h0 ⟨W.heap.size, 0, none⟩ 1 1 [(.int .i64 x : Value)] rfl (fun j u hj => by
    match j, hj with
    | 0, hj =>
      simp at hj
      subst hj
      exact fcell W #[(.int .i64 x : Value)] _ 0 _ rfl
    | j + 1, hj => simp at hj) (by simp [Value.oneCell']) (by unfold maxLen; omega) (by omega) (Nat.le_trans hf.size ha.size)
  refine ⟨v', w', hr, ?_, (fr_al hf _).trans' (Fr.of_by h3) (fun j hj e => ?_)⟩
  · unfold Ints
    rw [List.length_append, List.map_append]
    exact h2
  · have := (World.ownsRow.lt h0 j e).1
    omega
theorem ints_map (xs : List Int) : (xs.map fun (x : Int) => (.int .i64 x : Value)) = xs.map (Value.int .i64) := rfl
/-- Numbers in memory. -/
def IntsAt (w : World) (a : Option Addr) (l : List Int) : Prop := ∀ k, k < l.length → ∃ g o, a = some ⟨g, o, none⟩ ∧ w.cell? ⟨g, o + k, none⟩ = some (.int .i64 (l.getD k 0))
theorem IntsAt.fr {w w' : World} {a : Option Addr} {l : List Int} (h : IntsAt w a l) (f : Fr (fun _ => False) w w') : IntsAt w' a l := fun k hk => by
  obtain ⟨g, o, e, hc⟩ := h k hk
  exact ⟨g, o, e, f.cell hc id⟩
theorem Ints.at {B : Nat} {W : World} {v : Value} {xs : List Int} (h : Ints B W v xs) : ∃ a c, v = .slice a xs.length c ∧ IntsAt W a xs := by
  obtain ⟨a, c, rfl, hc⟩ := h.form
  refine ⟨a, c, rfl, fun k hk => ?_⟩
  obtain ⟨g, rfl, _, hg⟩ := hc k xs[k] (by simp [hk])
  exact ⟨g, 0, rfl, by rw [Nat.zero_add, hg]; simp [List.getD_eq_getElem?_getD, hk]⟩
/-- Seats in memory: a register and a slot each. -/
def SeatsAt (w : World) (a : Option Addr) (l : List (Int × Int)) : Prop := ∀ k, k < l.length → ∃ g o, a = some ⟨g, o, none⟩ ∧ w.cell? ⟨g, o + k * 2, none⟩ = some (.int .i64 (l.getD k (0, 0)).1) ∧ w.cell? ⟨g, o + k * 2 + 1, none⟩ = some (.int .i64 (l.getD k (0, 0)).2)
theorem SeatsAt.fr {w w' : World} {a : Option Addr} {l : List (Int × Int)} (h : SeatsAt w a l) (f : Fr (fun _ => False) w w') : SeatsAt w' a l := fun k hk => by
  obtain ⟨g, o, e, h1, h2⟩ := h k hk
  exact ⟨g, o, e, f.cell h1 id, f.cell h2 id⟩
theorem srt_fr {w : World} {g n : Nat} {d : Array Int} {os : Array Obj} : Fr (fun q => q = g) w (Go.Sort.grow (putRow (Value.int .i64) (Sort.ahead w n) g 0 d) os) := by
  refine ⟨rfl, rfl, ?_, fun k hk hn => ?_⟩
  · simp [Go.Sort.grow, putRow, mapBlock, Sort.ahead]
  · simp [Go.Sort.grow, putRow, mapBlock, Sort.ahead, Array.getElem?_append, Array.getElem?_modify, Array.getElem_modify, hk, show ¬g = k from fun e => hn e.symm]
/-- Sort: of a row of the call's own. -/
theorem t_sort {w0 w : World} {v : Value} {xs : List Int} (h : Ints w0.heap.size w v xs) (hf : Fr (fun _ => False) w0 w) (hl : xs.length ≤ 1000000) : Calls Try.prog 21 #[v] w fun e w' => e = .returned (.tuple #[]) ∧ Ints w0.heap.size w' v (xs.mergeSort fun x y => decide (x ≤ y)) ∧ Fr (fun _ => False) w0 w' := by
  by_cases hv : v = .slice none 0 0
  · subst hv
    refine (Try.slices_Sort_int_none none 0 w).mono fun e w' q => ?_
    obtain ⟨rfl, rfl⟩ := q
    rcases h.2 with ⟨_, hn⟩ | ⟨g, _, _, e, _⟩
    · have : xs = [] := List.eq_nil_of_length_eq_zero hn
      subst this
      exact ⟨rfl, by simpa using h, hf⟩
    · cases e
  · obtain ⟨g, cap, rfl, hb, hlt, hn, hm, hzl, hH⟩ := Lib.holds_of_ownsRow h hv
    refine (Try.slices_Sort_int g 0 cap xs w hH hlt (by omega)).mono fun e w' q => ?_
    obtain ⟨rfl, n, os, rfl⟩ := q
    refine ⟨rfl, ?_, hf.trans' srt_fr (fun j hj e => by omega)⟩
    have hs : (xs.mergeSort fun x y => decide (x ≤ y)).length = xs.length := List.length_mergeSort _
    have h1 := Lib.ownsRow_putRow (q := n) (k := xs.length) (ys := xs.mergeSort fun x y => decide (x ≤ y)) h hs (Nat.le_refl _)
    have h2 := Lib.ownsRow_grow h1 0 os
    rw [← hs, List.take_length] at h2
    unfold Ints
    rw [← hs]
    exact h2
theorem cpt_fr {w : World} {g n : Nat} {d : Array Int} : Fr (fun q => q = g) w (putRow (Value.int .i64) (Sort.ahead w n) g 0 d) := by
  refine ⟨rfl, rfl, ?_, fun k hk hn => ?_⟩
  · simp [putRow, mapBlock, Sort.ahead]
  · simp [putRow, mapBlock, Sort.ahead, Array.getElem?_modify, show ¬g = k from fun e => hn e.symm]
/-- Compact: of a row of the call's own. -/
theorem t_compact {w0 w : World} {v : Value} {xs : List Int} (h : Ints w0.heap.size w v xs) (hf : Fr (fun _ => False) w0 w) (hl : xs.length ≤ 1000000) : Calls Try.prog 22 #[v] w fun e w' => ∃ v', e = .returned v' ∧ Ints w0.heap.size w' v' (Lib.compact xs) ∧ Fr (fun _ => False) w0 w' := by
  by_cases hv : v = .slice none 0 0
  · subst hv
    refine (Try.slices_Compact_int_empty none 0 w).mono fun e w' q => ?_
    obtain ⟨rfl, rfl⟩ := q
    rcases h.2 with ⟨_, hn⟩ | ⟨g, _, _, e, _⟩
    · have : xs = [] := List.eq_nil_of_length_eq_zero hn
      subst this
      exact ⟨_, rfl, by simpa [Lib.compact, Lib.compactUpTo] using h, hf⟩
    · cases e
  · obtain ⟨g, cap, rfl, hb, hlt, hn, hm, hzl, hH⟩ := Lib.holds_of_ownsRow h hv
    refine (Try.slices_Compact_int g 0 cap xs w hH (by omega) hn).mono fun e w' q => ?_
    obtain ⟨rfl, n, rfl⟩ := q
    have hc := Lib.compact_length_le xs
    refine ⟨_, rfl, ?_, hf.trans' cpt_fr (fun j hj e => by omega)⟩
    have h1 := Lib.ownsRow_putRow (q := n) (k := (Lib.compact xs).length) (ys := Lib.compact xs ++ List.replicate (xs.length - (Lib.compact xs).length) 0) h (by simp; omega) hc
    rw [List.take_left] at h1
    exact h1
end Go.Proofs.Ytbldglnfadnkeaa
