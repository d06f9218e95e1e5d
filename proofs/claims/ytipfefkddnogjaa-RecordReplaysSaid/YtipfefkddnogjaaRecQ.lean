/-
  The page's examples of layer 4 hold.
-/
import Derived.Test.YtipfefkddnogjaaRecP
namespace Go.Proofs.Ytipfefkddnogjaa
open Go.RowKit Go.Maps
set_option linter.unusedVariables false
set_option linter.unusedSimpArgs false

theorem recAt_alloc (w : World) (l : List Rc) (t : TypeId) : RecAt (w.alloc (.cells (recCells l).toArray t)) (some ⟨w.heap.size, 0, none⟩) l := fun k hk => by
  obtain ⟨q0, q1⟩ := recCells_at l k hk
  refine ⟨w.heap.size, 0, rfl, ?_, ?_⟩
  · rw [Nat.zero_add]; exact row_cell w _ t (k * 2) _ (by simpa using q0)
  · rw [Nat.zero_add]; exact row_cell w _ t (k * 2 + 1) _ (by simpa using q1)
theorem intAt_alloc (w : World) (l : List Int) (t : TypeId) : IntAt (w.alloc (.cells (uCells l).toArray t)) (some ⟨w.heap.size, 0, none⟩) l := fun k hk => by
  refine ⟨w.heap.size, 0, rfl, ?_⟩
  rw [Nat.zero_add]
  refine row_cell w _ t k _ ?_
  unfold uCells
  simp [List.getElem?_eq_getElem hk, List.getD_eq_getElem?_getD]
def exL : List Rc := [(0, 7), (1, 8), (0, 7), (1, 8), (2, 9)]
theorem rcs_dec {l : List Rc} (h : (l.all fun r => decide (0 ≤ r.1 ∧ r.1 ≤ 4294967295 ∧ 0 ≤ r.2 ∧ r.2 ≤ 4294967295)) = true) : Rcs l := fun r hr => by
  rw [List.all_eq_true] at h
  have := h r hr
  simp at this
  exact ⟨⟨this.1, this.2.1⟩, this.2.2.1, this.2.2.2⟩
theorem e34a (A : Option Addr) (w : World) (h : RecAt w A exL) : Calls Try.prog 34 #[.slice A 5 5] w fun e w' => e = .returned (.bool true) ∧ w.grownBy w' none := by
  have := c34 A 5 exL (by decide) (rcs_dec (by decide)) w h
  rwa [show ordP exL = true by decide] at this
theorem e30 (A : Option Addr) (w : World) (h : RecAt w A exL) : Calls Try.prog 30 #[.slice A 5 5] w fun e w' => (∃ a c, e = .returned (.slice a 3 c)) ∧ w.grownBy w' none :=
  (c30 A 5 exL (by decide) (rcs_dec (by decide)) w h).mono fun e w' ⟨a, c, he, _, hg⟩ => ⟨⟨a, c, he⟩, hg⟩
theorem e33 (A : Option Addr) (w : World) (h : RecAt w A exL) : Calls Try.prog 33 #[.slice A 5 5] w fun e w' => e = .returned (.int .i64 2) ∧ w.grownBy w' none :=
  c33 A 5 exL (by decide) (rcs_dec (by decide)) w h
theorem e38 (A : Option Addr) (w : World) (h : RecAt w A exL) : Calls Try.prog 38 #[.slice A 5 5, .slice (some ⟨w.heap.size, 0, none⟩) 3 3] (w.alloc (.cells #[.int .u32 7, .int .u32 8, .int .u32 9] 24)) fun e w' => e = .returned (.bool true) ∧ w.grownBy w' none := by
  have := c38 A (some ⟨w.heap.size, 0, none⟩) 5 3 exL [7, 8, 9] (by decide) (rcs_dec (by decide)) (w.alloc (.cells #[.int .u32 7, .int .u32 8, .int .u32 9] 24)) (recAt_by h (World.grownBy_alloc _ _ _)) (intAt_alloc w [7, 8, 9] 24)
  rw [show wholeP exL [7, 8, 9] = true by decide] at this
  exact this.mono fun e w' ⟨he, hg⟩ => ⟨he, (World.grownBy_alloc _ _ _).trans hg⟩
theorem e34b (w : World) : Calls Try.prog 34 #[.slice (some ⟨w.heap.size, 0, none⟩) 2 2] (w.alloc (.cells #[.int .u32 0, .int .u32 0, .int .u32 2, .int .u32 0] 66)) fun e w' => e = .returned (.bool false) ∧ w.grownBy w' none := by
  have := c34 (some ⟨w.heap.size, 0, none⟩) 2 [(0, 0), (2, 0)] (by decide) (rcs_dec (by decide)) _ (recAt_alloc w [(0, 0), (2, 0)] 66)
  rw [show ordP [(0, 0), (2, 0)] = false by decide] at this
  exact this.mono fun e w' ⟨he, hg⟩ => ⟨he, (World.grownBy_alloc _ _ _).trans hg⟩
theorem e34c (w : World) : Calls Try.prog 34 #[.slice (some ⟨w.heap.size, 0, none⟩) 2 2] (w.alloc (.cells #[.int .u32 0, .int .u32 1, .int .u32 0, .int .u32 2] 66)) fun e w' => e = .returned (.bool false) ∧ w.grownBy w' none := by
  have := c34 (some ⟨w.heap.size, 0, none⟩) 2 [(0, 1), (0, 2)] (by decide) (rcs_dec (by decide)) _ (recAt_alloc w [(0, 1), (0, 2)] 66)
  rw [show ordP [(0, 1), (0, 2)] = false by decide] at this
  exact this.mono fun e w' ⟨he, hg⟩ => ⟨he, (World.grownBy_alloc _ _ _).trans hg⟩
set_option maxRecDepth 100000 in
set_option maxHeartbeats 8000000 in
theorem c28 (w : World) : Calls Try.prog 28 #[] w fun e w' => e = .returned (.bool true) ∧ w.grownBy w' none := by
  have HA : Hid (RecAt (w.alloc (.cells #[.int .u32 0, .int .u32 7, .int .u32 1, .int .u32 8, .int .u32 0, .int .u32 7, .int .u32 1, .int .u32 8, .int .u32 2, .int .u32 9] 66)) (some ⟨w.heap.size, 0, none⟩) exL) := Lib.hid (recAt_alloc w exL 66)
  have HB := Lib.hid (World.grownBy_alloc w (.cells #[.int .u32 0, .int .u32 7, .int .u32 1, .int .u32 8, .int .u32 0, .int .u32 7, .int .u32 1, .int .u32 8, .int .u32 2, .int .u32 9] 66) none)
  go_enter Try.func28, Try.ntmps28
  go_wp2_with (first
    | (go_at_call 34; (with_reducible refine (e34a _ _ (by exact HA.out)).mono ?_); rintro e w1 ⟨rfl, hg⟩; replace HA := Lib.hid (recAt_by HA.out hg); replace HB := Lib.hid (HB.out.trans hg); clear hg)
    | (go_at_call 30; (with_reducible refine (e30 _ _ (by exact HA.out)).mono ?_); rintro e w2 ⟨⟨a2, c2, rfl⟩, hg⟩; replace HA := Lib.hid (recAt_by HA.out hg); replace HB := Lib.hid (HB.out.trans hg); clear hg)
    | (go_at_call 33; (with_reducible refine (e33 _ _ (by exact HA.out)).mono ?_); rintro e w3 ⟨rfl, hg⟩; replace HA := Lib.hid (recAt_by HA.out hg); replace HB := Lib.hid (HB.out.trans hg); clear hg)
    | (go_at_call 38; (with_reducible refine (e38 _ _ (by exact HA.out)).mono ?_); rintro e w4 ⟨rfl, hg⟩; replace HA := Lib.hid (recAt_by HA.out hg); replace HB := Lib.hid (HB.out.trans hg); clear hg)
    | (go_at_call 34; (with_reducible refine (e34b _).mono ?_); rintro e w5 ⟨rfl, hg⟩; replace HB := Lib.hid (HB.out.trans hg); clear hg)
    | (go_at_call 34; (with_reducible refine (e34c _).mono ?_); rintro e w6 ⟨rfl, hg⟩; replace HB := Lib.hid (HB.out.trans hg); clear hg))
  go_ret
  exact ⟨rfl, HB.out⟩
end Go.Proofs.Ytipfefkddnogjaa
