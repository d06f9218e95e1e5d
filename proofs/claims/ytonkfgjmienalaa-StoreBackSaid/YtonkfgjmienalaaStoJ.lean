/-
  Memories (layer 11): New and Make.
-/
import Derived.Test.YtonkfgjmienalaaStoI
import Derived.Deep.AppendLies
import Derived.Outline
namespace Go.Proofs.Ytonkfgjmienalaa
open Go.RowKit
set_option linter.unusedVariables false
set_option linter.unusedSimpArgs false
theorem new_of (w : World) : Calls Try.prog 5 #[] w fun r w' => r = .returned (.pointer (some ⟨w.heap.size, 0, none⟩)) ∧ w' = w.alloc (.cells #[.slice none 0 0] 42) := by
  go_enter Try.func5, Try.ntmps5
  go_wp2
  go_ret
  exact ⟨rfl, rfl⟩
theorem info_object : (Try.prog.info? 48).map (fun i => (i.zero, i.size, i.bytes)) = some (some (.agg #[.int .i64 0, .slice none 0 0, .map none, .bool false]), 4, 48) := by kernel_rfl
set_option maxRecDepth 100000 in
set_option maxHeartbeats 4000000 in
theorem make_of {w : World} {sb : Nat} (hs : w.cell? ⟨sb, 0, none⟩ = some (.slice none 0 0)) (hf : w.frozen? ⟨sb, 0, none⟩ = false) (n : Nat) (hn : 1 ≤ n ∧ n ≤ 300) :
    Calls Try.prog 6 #[.pointer (some ⟨sb, 0, none⟩), .int .i64 n] w fun r w' => r = .returned (.tuple #[.agg #[.int .i64 1, .int .i64 0, .int .i64 n, .int .i64 0], .int .i64 0]) ∧ ∃ ob, MAt w' sb ob none false (List.replicate n bc0) ∧ Fr (fun j => j = sb) w w' ∧ w.heap.size ≤ ob := by
  obtain ⟨i0, hi0, hz0, hz1, hz2⟩ := info_parts info_object
  have lg := World.block_lt_of_cell? w _ hs
  simp only at lg
  have hsa : ∀ o : Obj, (w.alloc o).cell? ⟨sb, 0, none⟩ = some (.slice none 0 0) := fun o => (fr_al (Fr.refl (fun _ => False) w) o).cell hs id
  have hsf : ∀ o : Obj, (w.alloc o).frozen? ⟨sb, 0, none⟩ = false := fun o => ((fr_al (Fr.refl (fun _ => False) w) o).frozen hs id).trans hf
  have b1 : decide ((n : Int) < 1) = false := decide_eq_false (by omega)
  have b2 : decide ((32768 : Int) < n) = false := decide_eq_false (by omega)
  have HS := Lib.hid hs
  have HFZ := Lib.hid hf
  have HM : Hid (∀ (w5 w9 : World) (gg cap : Nat), w5.ownsRow (w.heap.size + 1) 48 4 (.slice (some ⟨gg, 0, none⟩) 1 cap) 1 [.int .i64 n, .slice none 0 0, .map none, .bool false] → Fr (fun _ => False) w w5 → Fr (fun j => j = sb ∨ j = w.heap.size) (w5.setCell ⟨sb, 0, none⟩ (.slice (some ⟨gg, 0, none⟩) 1 cap)) w9 → w9.cell? ⟨sb, 0, none⟩ = some (.slice (some ⟨gg, 0, none⟩) 1 cap) → w9.frozen? ⟨sb, 0, none⟩ = false → ∃ ob, MAt w9 sb ob none false (List.replicate n bc0) ∧ Fr (fun j => j = sb) w w9 ∧ w.heap.size ≤ ob) := Lib.hid (fun w5 w9 gg cap ho hf5 hf9 h0 h1 => by
    have hlt := (ho.lt gg rfl).1
    have g5 : Fr (fun j => j = sb) w5 (w5.setCell ⟨sb, 0, none⟩ (.slice (some ⟨gg, 0, none⟩) 1 cap)) := fr_setF (F := fun j => j = sb) (b := sb) (Fr.refl _ _) rfl _ _
    have c : ∀ j v, ([.int .i64 n, .slice none 0 0, .map none, .bool false] : List Value)[j]? = some v → j < 4 → w9.cell? ⟨gg, j, none⟩ = some v ∧ w9.frozen? ⟨gg, j, none⟩ = false := fun j v hv hj => by
      have e := (ho.cellAt j (by omega)).trans hv
      have e2 := g5.cell e (by show ¬ gg = sb; omega)
      exact ⟨hf9.cell e2 (by show ¬ (gg = sb ∨ gg = w.heap.size); omega), (hf9.frozen e2 (by show ¬ (gg = sb ∨ gg = w.heap.size); omega)).trans ((g5.frozen e (by show ¬ gg = sb; omega)).trans (ho.frozenAt j))⟩
    refine ⟨gg, ⟨⟨⟨cap, h0⟩, by rw [List.length_replicate]; exact (c 0 _ rfl (by decide)).1, (c 1 _ rfl (by decide)).1, (c 2 _ rfl (by decide)).1, (c 3 _ rfl (by decide)).1, h1, fun j hj => ?_, by omega⟩, fun i hi => ?_, fun b hb => ?_⟩, ?_, by omega⟩
    · match j, hj with
      | 0, _ => exact (c 0 _ rfl (by decide)).2
      | 1, _ => exact (c 1 _ rfl (by decide)).2
      | 2, _ => exact (c 2 _ rfl (by decide)).2
      | 3, _ => exact (c 3 _ rfl (by decide)).2
    · rw [List.getD_eq_getElem?_getD, List.getElem?_eq_getElem hi, List.getElem_replicate]; rfl
    · obtain ⟨D, e, _⟩ := hb; cases e
    · exact ((hf5.mono (fun _ _ f => f.elim)).trans g5).trans' hf9 (fun j hj e => by rcases e with e | e; exact e; omega))
  clear hs hf
  go_enter Try.func6, Try.ntmps6
  go_wp2_with (at_builtin; (refine wpList_append_lies _ (by rfl) _ _ 40 (by rfl) (w.heap.size + 1) 48 i0 _ 4 48 Try.underlying40 hi0 hz0 hz1 hz2 rfl (by decide) (.slice none 0 0) 0 _ (by rfl) (World.ownsRow_nil _ _ _ _) ⟨w.heap.size + 1, 0, none⟩ 1 1 [.int .i64 n, .slice none 0 0, .map none, .bool false] (by rfl) (by rfl) (World.news_of_block (cs := #[.int .i64 n, .slice none 0 0, .map none, .bool false]) (t := 48) (fr := (0, 0)) (by simpa using heap_alloc_new (w.alloc (.cells #[.int .i64 0, .int .i64 0, .int .i64 0, .int .i64 0] 24)) (.cells #[.int .i64 n, .slice none 0 0, .map none, .bool false] 48))) (by simp [Value.oneCell']) (by decide) (by unfold maxLen; omega) (by simp) (by simp) _ rfl ?_; intro gg cap w5 hown5 hgrow5 hat5 hlt5; have hf5 : Fr (fun _ => False) w w5 := (fr_al (fr_al (Fr.refl _ _) (.cells #[.int .i64 0, .int .i64 0, .int .i64 0, .int .i64 0] 24)) (.cells #[.int .i64 n, .slice none 0 0, .map none, .bool false] 48)).trans ((Fr.of_by hgrow5).mono (fun k _ e => by cases e)); have HO5 := Lib.hid hown5; have HF5 := Lib.hid hf5; have hb5 : Fr (fun _ => False) (w.alloc (.cells #[.int .i64 0, .int .i64 0, .int .i64 0, .int .i64 0] 24)) w5 := (fr_al (Fr.refl _ _) (.cells #[.int .i64 n, .slice none 0 0, .map none, .bool false] 48)).trans ((Fr.of_by hgrow5).mono (fun k _ e => by cases e)); have r0 := hb5.cell (fcell w _ _ 0 _ rfl) id; have r1 := hb5.cell (fcell w _ _ 1 _ rfl) id; have r2 := hb5.cell (fcell w _ _ 2 _ rfl) id; have r3 := hb5.cell (fcell w _ _ 3 _ rfl) id; have z0 : w5.frozen? ⟨w.heap.size, 0, none⟩ = false := (hb5.frozen (fcell w _ _ 0 _ rfl) id).trans (World.frozen?_alloc_new _ _ _ _); have z1 : w5.frozen? ⟨w.heap.size, 1, none⟩ = false := (hb5.frozen (fcell w _ _ 1 _ rfl) id).trans (World.frozen?_alloc_new _ _ _ _); have z2 : w5.frozen? ⟨w.heap.size, 2, none⟩ = false := (hb5.frozen (fcell w _ _ 2 _ rfl) id).trans (World.frozen?_alloc_new _ _ _ _); have z3 : w5.frozen? ⟨w.heap.size, 3, none⟩ = false := (hb5.frozen (fcell w _ _ 3 _ rfl) id).trans (World.frozen?_alloc_new _ _ _ _); have n0 : ∀ x, (w5.setCell ⟨sb, 0, none⟩ x).cell? ⟨w.heap.size, 0, none⟩ = some (.int .i64 0) := fun x => cell_far r0 (by simp; omega); have n1 : ∀ x, (w5.setCell ⟨sb, 0, none⟩ x).cell? ⟨w.heap.size, 1, none⟩ = some (.int .i64 0) := fun x => cell_far r1 (by simp; omega); have n2 : ∀ x, (w5.setCell ⟨sb, 0, none⟩ x).cell? ⟨w.heap.size, 2, none⟩ = some (.int .i64 0) := fun x => cell_far r2 (by simp; omega); have n3 : ∀ x, (w5.setCell ⟨sb, 0, none⟩ x).cell? ⟨w.heap.size, 3, none⟩ = some (.int .i64 0) := fun x => cell_far r3 (by simp; omega); clear hb5 r0 r1 r2 r3; have d0 := hf5.cell HS.out id; have d1 := (hf5.frozen HS.out id).trans HFZ.out; clear hown5 hat5 hlt5 hf5))
  have hw9 : Fr (fun j => j = sb ∨ j = w.heap.size) (w5.setCell ⟨sb, 0, none⟩ (.slice (some ⟨gg, 0, none⟩) 1 cap)) (((((w5.setCell ⟨sb, 0, none⟩ (.slice (some ⟨gg, 0, none⟩) 1 cap)).setCell ⟨w.heap.size, 0, none⟩ (.int .i64 1)).setCell ⟨w.heap.size, 1, none⟩ (.int .i64 0)).setCell ⟨w.heap.size, 2, none⟩ (.int .i64 n)).setCell ⟨w.heap.size, 3, none⟩ (.int .i64 0)) := by
    have hq : (fun j => j = sb ∨ j = w.heap.size) w.heap.size := .inr rfl
    exact fr_setF (fr_setF (fr_setF (fr_setF (Fr.refl _ _) hq _ _) hq _ _) hq _ _) hq _ _
  have e0 : (w5.setCell ⟨sb, 0, none⟩ (.slice (some ⟨gg, 0, none⟩) 1 cap)).cell? ⟨sb, 0, none⟩ = some (.slice (some ⟨gg, 0, none⟩) 1 cap) := World.cell?_setCell_same _ _ _ d0
  exact bodyPost_ret (v := .tuple #[.agg #[.int .i64 1, .int .i64 0, .int .i64 n, .int .i64 0], .int .i64 0]) (by simp [results, Try.results6, go_sem, set4' (n0 _) (n1 _) (n2 _) (n3 _)]) rfl ⟨rfl, HM.out w5 _ gg cap HO5.out HF5.out hw9 (cell_far (cell_far (cell_far (cell_far e0 (by simp; omega)) (by simp; omega)) (by simp; omega)) (by simp; omega)) (by rw [World.frozen?_setCell, World.frozen?_setCell, World.frozen?_setCell, World.frozen?_setCell, World.frozen?_setCell]; exact d1)⟩
end Go.Proofs.Ytonkfgjmienalaa
