/-
  The contracts of the law's Ref and of the document's own Orderly (layer 4).
-/
import Derived.Test.YtipfefkddnogjaaRecK
namespace Go.Proofs.Ytipfefkddnogjaa
open Go.RowKit Go.Maps
set_option linter.unusedVariables false
set_option linter.unusedSimpArgs false

def RefP (l : List Rc) (w : World) (e : Ending) (w' : World) : Prop := ∃ a c, e = .returned (.slice a l.length c) ∧ RecAt w' a l ∧ w.grownBy w' none
theorem refP_ret {l : List Rc} {w w' : World} {base t : Nat} {v : Value} (h : w'.ownsRow base t 2 v l.length (recCells l)) (hg : w.grownBy w' none) : RefP l w (.returned v) w' := by
  obtain ⟨a, c, rfl, h2⟩ := recAt_own h
  exact ⟨a, c, rfl, h2, hg⟩
set_option maxRecDepth 100000 in
set_option maxHeartbeats 8000000 in
theorem c29 (a : Option Addr) (c : Nat) (l : List Rc) (hl : l.length < 1000000) (w : World) (hat : RecAt w a l) :
    Calls Try.prog 29 #[.slice a l.length c] w (RefP l w) := by
  obtain ⟨i63, hi, hz0, hz1, hz2⟩ := info_parts info63
  have HI := Lib.hid hi
  have HZ0 := Lib.hid hz0
  have HZ1 := Lib.hid hz1
  have HZ2 := Lib.hid hz2
  have HA := Lib.hid hat
  clear hat hi hz0 hz1 hz2
  have H0 : Hid (RowRel w w (l.take 0) 0 (.slice none 0 0)) := Lib.hid ⟨World.ownsRow_nil _ _ _ _, by_refl _⟩
  go_enter Try.func29, Try.ntmps29
  go_wp2
  go_loopw [3, 4] (fun v i wr => ∃ k : Nat, k ≤ l.length ∧ i = .int .i64 k ∧ Hid (RowRel w wr (l.take k) k v)) (fun _ i _ => l.length - (intOf i).toNat)
  case atStart => exact ⟨0, by omega, rfl, H0⟩
  case round =>
    obtain ⟨k, hk, rfl, HW⟩ := hrel
    clear H0
    by_cases hlt : k < l.length
    · have hW := HW.out
      obtain ⟨b, o, rfl, c0, c1⟩ := recAt_by HA.out hW.by_ k hlt
      have hts := Lib.hid (take_snoc hlt)
      have hlen : (l.take k).length < 1000000 := by have := List.length_take_le k l; omega
      have hrow := Lib.hid hW.row
      have hby := Lib.hid hW.by_
      clear hW HW
      have h1 : (k : Int) < l.length := by omega
      have h2 : (0 : Int) ≤ k := by omega
      have hsz : w.heap.size ≤ wr.heap.size := hby.out.size
      generalize l.getD k (0, 0) = r at *
      generalize hacc : l.take k = acc at *
      clear hacc
      go_wp2_with (first
          | (at_builtin; refine wpList_append_own _ rfl _ _ 54 rfl w.heap.size 63 i63 (.agg #[.int .u32 0, .int .u32 0]) 2 8 Try.underlying54 HI.out HZ0.out HZ1.out HZ2.out rfl (by decide) _ acc.length (recCells acc) rfl (by exact hrow.out.alloc _) ⟨wr.heap.size, 0, none⟩ 1 1 [.int .u32 r.1, .int .u32 r.2] rfl rfl (news_cell wr 63 (.int .u32 r.1) (.int .u32 r.2)) (by simp [Value.oneCell']) (by unfold maxLen; omega) (by omega) (by simp; omega) ?_
             intro v' w3 hown3 hg3 _
             have HR3 : Hid (RowRel w w3 (l.take (k + 1)) (k + 1) v') := Lib.hid (by rw [hts.out]; exact row_new hby.out hrow.out hown3 hg3)
             clear hown3 hg3))
      go_roundw
      case rel => exact ⟨k + 1, by omega, by go_num, HR3⟩
      case measure => simp [intOf]; omega
    · have hk4 : k = l.length := by omega
      subst hk4
      go_wp2
      go_ret
      have hW := HW.out
      exact refP_ret (by have := hW.row; rwa [List.take_length] at this) hW.by_
/-- The greatest number of the first k records; -1 where there are none. -/
def mostTo (l : List Rc) : Nat → Int
  | 0 => -1
  | k + 1 => if mostTo l k < (l.getD k (0, 0)).1 then (l.getD k (0, 0)).1 else mostTo l k
theorem ord_has {l : List Rc} {k : Nat} (hk : k ≤ l.length) (h : ordK l k = true) (s : Int) : hasN (firsts (l.take k)) s = true ↔ 0 ≤ s ∧ s < (firsts (l.take k)).length := by
  have hn := ord_numbers hk h
  generalize firsts (l.take k) = acc at *
  unfold hasN
  rw [List.any_eq_true]
  constructor
  · rintro ⟨q, hq, e⟩
    obtain ⟨i, hi, rfl⟩ := List.mem_iff_getElem.1 hq
    have := hn i hi
    rw [List.getD_eq_getElem?_getD, List.getElem?_eq_getElem hi] at this
    simp at this e
    omega
  · rintro ⟨h0, h1⟩
    have hi : s.toNat < acc.length := by omega
    refine ⟨acc[s.toNat], List.getElem_mem hi, ?_⟩
    have := hn s.toNat hi
    rw [List.getD_eq_getElem?_getD, List.getElem?_eq_getElem hi] at this
    simp at this ⊢
    omega
theorem most_in (l : List Rc) : ∀ k : Nat, (∀ j, j < k → (l.getD j (0, 0)).1 ≤ mostTo l k) ∧ (mostTo l k = -1 ∨ ∃ j, j < k ∧ (l.getD j (0, 0)).1 = mostTo l k) ∧ -1 ≤ mostTo l k
  | 0 => ⟨fun j hj => absurd hj (by omega), Or.inl rfl, by simp [mostTo]⟩
  | k + 1 => by
    obtain ⟨h1, h2, h3⟩ := most_in l k
    unfold mostTo
    split
    · rename_i hc
      refine ⟨fun j hj => ?_, Or.inr ⟨k, by omega, rfl⟩, by omega⟩
      by_cases e : j = k
      · subst e; omega
      · have := h1 j (by omega); omega
    · rename_i hc
      refine ⟨fun j hj => ?_, ?_, h3⟩
      · by_cases e : j = k
        · subst e; omega
        · exact h1 j (by omega)
      · rcases h2 with h2 | ⟨j, hj, e⟩
        · exact Or.inl h2
        · exact Or.inr ⟨j, by omega, e⟩
/-- Of a consistent prefix the greatest number is one less than how many first records there are. -/
theorem most_ord {l : List Rc} {k : Nat} (hk : k ≤ l.length) (hr : Rcs l) (h : ordK l k = true) : mostTo l k = (firsts (l.take k)).length - 1 := by
  obtain ⟨h1, h2, h3⟩ := most_in l k
  have hh := ord_has hk h
  have hs : ∀ s, hasN (firsts (l.take k)) s = true ↔ ∃ j, j < k ∧ (l.getD j (0, 0)).1 = s := fun s => by rw [hasN_firsts]; exact hasN_take hk
  by_cases hc : (firsts (l.take k)).length = 0
  · rcases h2 with h2 | ⟨j, hj, e⟩
    · rw [h2, hc]; rfl
    · have := (hh _).1 ((hs _).2 ⟨j, hj, rfl⟩)
      omega
  · obtain ⟨j, hj, e⟩ := (hs ((firsts (l.take k)).length - 1)).1 ((hh _).2 ⟨by omega, by omega⟩)
    have a := h1 j hj
    rcases h2 with h2 | ⟨i, hi, e'⟩
    · omega
    · have := (hh _).1 ((hs _).2 ⟨i, hi, e'⟩)
      omega
end Go.Proofs.Ytipfefkddnogjaa
