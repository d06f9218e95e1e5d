/-
  Tables of types (layer 8): Type at a table.
-/
import Derived.Test.YtlhkhgkgjdfcgaaQKindRa
import Derived.Outline
namespace Go.Proofs.Ytlhkhgkgjdfcgaa
open Go.RowKit
set_option linter.unusedVariables false
set_option linter.unusedSimpArgs false
def zeros5 : Array Value := #[.int .i64 0, .int .i64 0, .int .i64 0, .string ⟨#[]⟩, .slice none 0 0]
theorem type_box (w : World) : Hid (∀ W, Fr (fun _ => False) (w.alloc (.cells #[.int .i64 0, .int .i64 0, .int .i64 0, .string ⟨#[]⟩, .slice none 0 0] 38)) W → Fr (fun _ => False) w W ∧ w.heap.size < W.heap.size ∧ ∀ j, j < 5 → (∃ x, W.cell? ⟨w.heap.size, j, none⟩ = some x) ∧ W.frozen? ⟨w.heap.size, j, none⟩ = false) := Lib.hid (fun W hW => by
    refine ⟨(fr_al (Fr.refl _ _) _).trans hW, by have := hW.size; simp at this; omega, fun j hj => ?_⟩
    have h0 : ∃ x, (w.alloc (.cells #[.int .i64 0, .int .i64 0, .int .i64 0, .string ⟨#[]⟩, .slice none 0 0] 38)).cell? ⟨w.heap.size, j, none⟩ = some x := ⟨_, fcell w _ _ j _ (Array.getElem?_eq_getElem (by simpa using hj))⟩
    obtain ⟨x, h0⟩ := h0
    exact ⟨⟨x, hW.cell h0 id⟩, (hW.frozen h0 id).trans (World.frozen?_alloc_new _ _ _ _)⟩)
theorem set5' {w : World} {g : Nat} {x0 x1 x2 x3 x4 : Value} (b0 : w.cell? ⟨g, 0, none⟩ = some x0) (b1 : w.cell? ⟨g, 1, none⟩ = some x1) (b2 : w.cell? ⟨g, 2, none⟩ = some x2) (b3 : w.cell? ⟨g, 3, none⟩ = some x3) (b4 : w.cell? ⟨g, 4, none⟩ = some x4) (v0 v1 v2 v3 v4 : Value) :
    (((((w.setCell ⟨g, 0, none⟩ v0).setCell ⟨g, 1, none⟩ v1).setCell ⟨g, 2, none⟩ v2).setCell ⟨g, 3, none⟩ v3).setCell ⟨g, 4, none⟩ v4).cell? ⟨g, 0, none⟩ = some v0 ∧
    (((((w.setCell ⟨g, 0, none⟩ v0).setCell ⟨g, 1, none⟩ v1).setCell ⟨g, 2, none⟩ v2).setCell ⟨g, 3, none⟩ v3).setCell ⟨g, 4, none⟩ v4).cell? ⟨g, 1, none⟩ = some v1 ∧
    (((((w.setCell ⟨g, 0, none⟩ v0).setCell ⟨g, 1, none⟩ v1).setCell ⟨g, 2, none⟩ v2).setCell ⟨g, 3, none⟩ v3).setCell ⟨g, 4, none⟩ v4).cell? ⟨g, 2, none⟩ = some v2 ∧
    (((((w.setCell ⟨g, 0, none⟩ v0).setCell ⟨g, 1, none⟩ v1).setCell ⟨g, 2, none⟩ v2).setCell ⟨g, 3, none⟩ v3).setCell ⟨g, 4, none⟩ v4).cell? ⟨g, 3, none⟩ = some v3 ∧
    (((((w.setCell ⟨g, 0, none⟩ v0).setCell ⟨g, 1, none⟩ v1).setCell ⟨g, 2, none⟩ v2).setCell ⟨g, 3, none⟩ v3).setCell ⟨g, 4, none⟩ v4).cell? ⟨g, 4, none⟩ = some v4 := by
  refine ⟨?_, ?_, ?_, ?_, ?_⟩
  · exact set_keep (set_keep (set_keep (set_keep (World.cell?_setCell_same _ _ _ b0) (by decide)) (by decide)) (by decide)) (by decide)
  · exact set_keep (set_keep (set_keep (World.cell?_setCell_same _ _ _ (set_keep b1 (by decide))) (by decide)) (by decide)) (by decide)
  · exact set_keep (set_keep (World.cell?_setCell_same _ _ _ (set_keep (set_keep b2 (by decide)) (by decide))) (by decide)) (by decide)
  · exact set_keep (World.cell?_setCell_same _ _ _ (set_keep (set_keep (set_keep b3 (by decide)) (by decide)) (by decide))) (by decide)
  · exact World.cell?_setCell_same _ _ _ (set_keep (set_keep (set_keep (set_keep b4 (by decide)) (by decide)) (by decide)) (by decide))
set_option maxRecDepth 100000 in
set_option maxHeartbeats 2000000 in
theorem type_ok (p : Value) (n : Int) (e : Ent) (w : World) (a' : Option Addr → Nat → World → Prop) (H : EntH w p n 0 e)
    (HCL : Hid (∀ W, Fr (fun _ => False) w W → w.heap.size < W.heap.size → Calls Try.prog 34 #[.slice e.fa e.fn e.fc] W fun r w' => ∃ g2 c2, r = .returned (.slice g2 e.fn c2) ∧ Fr (fun _ => False) W w' ∧ (∀ V, Fr (fun b => W.heap.size ≤ b + 1 ∧ b < W.heap.size ∨ b = w.heap.size) w' V → a' g2 c2 V)))
     :
    Calls Try.prog 13 #[p, .int .i64 n] w fun r w' => ∃ g2 c2, r = .returned (.tuple #[.agg #[.int .i64 e.kind, .int .i64 e.elem, .int .i64 e.len, .string e.name, .slice g2 e.fn c2], .int .i64 0]) ∧ Fr (fun _ => False) w w' ∧ a' g2 c2 w' := by
  have HB := type_box w
  have HF := Lib.hid (fr_al (Fr.refl (fun _ => False) w) (.cells #[.int .i64 0, .int .i64 0, .int .i64 0, .string ⟨#[]⟩, .slice none 0 0] 38))
  unfold EntH at H
  go_enter Try.func13, Try.ntmps13
  go_wp2_with (first
    | (go_at_call 33; (with_reducible refine (H.out _ HF.out).mono ?_); rintro r w2 ⟨rfl, hf⟩; have HV2 := Lib.hid hf; have lw2 := (HB.out _ hf).2.1; clear hf)
    | (go_at_call 34; (with_reducible refine (HCL.out _ (fr_al (HF.out.trans HV2.out) _) (by simp; omega)).mono ?_); rintro r w4 ⟨g2, c2, rfl, hf4, ha4⟩; have HV4 := Lib.hid hf4; have HA4 := Lib.hid ha4; have s4 := hf4.size; have m0 : ∀ x, (w4.setCell ⟨w2.heap.size, 4, none⟩ x).cell? ⟨w2.heap.size, 0, none⟩ = some (.int .i64 e.kind) := fun x => set_keep (hf4.cell (fcell w2 _ _ 0 _ rfl) id) (by decide); have m1 : ∀ x, (w4.setCell ⟨w2.heap.size, 4, none⟩ x).cell? ⟨w2.heap.size, 1, none⟩ = some (.int .i64 e.elem) := fun x => set_keep (hf4.cell (fcell w2 _ _ 1 _ rfl) id) (by decide); have m2 : ∀ x, (w4.setCell ⟨w2.heap.size, 4, none⟩ x).cell? ⟨w2.heap.size, 2, none⟩ = some (.int .i64 e.len) := fun x => set_keep (hf4.cell (fcell w2 _ _ 2 _ rfl) id) (by decide); have m3 : ∀ x, (w4.setCell ⟨w2.heap.size, 4, none⟩ x).cell? ⟨w2.heap.size, 3, none⟩ = some (.string e.name) := fun x => set_keep (hf4.cell (fcell w2 _ _ 3 _ rfl) id) (by decide); have k4 : w4.cell? ⟨w2.heap.size, 4, none⟩ = some (.slice e.fa e.fn e.fc) := hf4.cell (fcell w2 _ _ 4 _ rfl) id; have z4 : w4.frozen? ⟨w2.heap.size, 4, none⟩ = false := (hf4.frozen (fcell w2 _ _ 4 _ rfl) id).trans (World.frozen?_alloc_new _ _ _ _); have m4 : ∀ x, (w4.setCell ⟨w2.heap.size, 4, none⟩ x).cell? ⟨w2.heap.size, 4, none⟩ = some x := fun x => World.cell?_setCell_same _ _ _ k4; have hbx := (HB.out _ ((fr_al HV2.out _).trans hf4)).2.2; obtain ⟨⟨u0, r0⟩, f0⟩ := hbx 0 (by decide); obtain ⟨⟨u1, r1⟩, f1⟩ := hbx 1 (by decide); obtain ⟨⟨u2, r2⟩, f2⟩ := hbx 2 (by decide); obtain ⟨⟨u3, r3⟩, f3⟩ := hbx 3 (by decide); obtain ⟨⟨u4, r4⟩, f4⟩ := hbx 4 (by decide); have n0 : ∀ x, (w4.setCell ⟨w2.heap.size, 4, none⟩ x).cell? ⟨w.heap.size, 0, none⟩ = some u0 := fun x => cell_far r0 (by omega); have n1 : ∀ x, (w4.setCell ⟨w2.heap.size, 4, none⟩ x).cell? ⟨w.heap.size, 1, none⟩ = some u1 := fun x => cell_far r1 (by omega); have n2 : ∀ x, (w4.setCell ⟨w2.heap.size, 4, none⟩ x).cell? ⟨w.heap.size, 2, none⟩ = some u2 := fun x => cell_far r2 (by omega); have n3 : ∀ x, (w4.setCell ⟨w2.heap.size, 4, none⟩ x).cell? ⟨w.heap.size, 3, none⟩ = some u3 := fun x => cell_far r3 (by omega); have n4 : ∀ x, (w4.setCell ⟨w2.heap.size, 4, none⟩ x).cell? ⟨w.heap.size, 4, none⟩ = some u4 := fun x => cell_far r4 (by omega); clear hbx hf4 ha4 r0 r1 r2 r3 r4))
  have hfin : Fr (fun _ => False) w (((((((w4.setCell ⟨w2.heap.size, 4, none⟩ (.slice g2 e.fn c2)).setCell ⟨w.heap.size, 0, none⟩ (.int .i64 e.kind)).setCell ⟨w.heap.size, 1, none⟩ (.int .i64 e.elem)).setCell ⟨w.heap.size, 2, none⟩ (.int .i64 e.len)).setCell ⟨w.heap.size, 3, none⟩ (.string e.name)).setCell ⟨w.heap.size, 4, none⟩ (.slice g2 e.fn c2))) :=
    fr_set (fr_set (fr_set (fr_set (fr_set (fr_set ((fr_al (HF.out.trans HV2.out) _).trans HV4.out) (by omega) _ _) (Nat.le_refl _) _ _) (Nat.le_refl _) _ _) (Nat.le_refl _) _ _) (Nat.le_refl _) _ _) (Nat.le_refl _) _ _
  exact bodyPost_ret (v := .tuple #[.agg #[.int .i64 e.kind, .int .i64 e.elem, .int .i64 e.len, .string e.name, .slice g2 e.fn c2], .int .i64 0]) (by simp [results, Try.results13, go_sem, set5' (n0 _) (n1 _) (n2 _) (n3 _) (n4 _)]) rfl ⟨g2, c2, rfl, hfin, HA4.out _ (by
    have q0 : (fun b => (w2.alloc (.cells #[.int .i64 e.kind, .int .i64 e.elem, .int .i64 e.len, .string e.name, .slice e.fa e.fn e.fc, .int .i64 e.size, .int .i64 e.align] 72)).heap.size ≤ b + 1 ∧ b < (w2.alloc (.cells #[.int .i64 e.kind, .int .i64 e.elem, .int .i64 e.len, .string e.name, .slice e.fa e.fn e.fc, .int .i64 e.size, .int .i64 e.align] 72)).heap.size ∨ b = w.heap.size) w.heap.size := .inr rfl
    have q1 : (fun b => (w2.alloc (.cells #[.int .i64 e.kind, .int .i64 e.elem, .int .i64 e.len, .string e.name, .slice e.fa e.fn e.fc, .int .i64 e.size, .int .i64 e.align] 72)).heap.size ≤ b + 1 ∧ b < (w2.alloc (.cells #[.int .i64 e.kind, .int .i64 e.elem, .int .i64 e.len, .string e.name, .slice e.fa e.fn e.fc, .int .i64 e.size, .int .i64 e.align] 72)).heap.size ∨ b = w.heap.size) w2.heap.size := .inl ⟨by simp, by simp⟩
    exact fr_setF (fr_setF (fr_setF (fr_setF (fr_setF (fr_setF (Fr.refl _ _) q1 _ _) q0 _ _) q0 _ _) q0 _ _) q0 _ _) q0 _ _)⟩
end Go.Proofs.Ytlhkhgkgjdfcgaa
