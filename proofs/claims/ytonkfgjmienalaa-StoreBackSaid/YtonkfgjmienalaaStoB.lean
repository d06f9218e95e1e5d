/-
  Memories (layer 11): every method of no memory.
-/
import Derived.Test.YtonkfgjmienalaaStoA
import Derived.Outline
namespace Go.Proofs.Ytonkfgjmienalaa
open Go.RowKit
set_option linter.unusedVariables false
set_option linter.unusedSimpArgs false
/-- The box of a result. -/
theorem res_box (w : World) (cs : Array Value) (t : TypeId) : Hid (∀ W, Fr (fun _ => False) (w.alloc (.cells cs t)) W → Fr (fun _ => False) w W ∧ w.heap.size < W.heap.size ∧ ∀ j, j < cs.size → (∃ x, W.cell? ⟨w.heap.size, j, none⟩ = some x) ∧ W.frozen? ⟨w.heap.size, j, none⟩ = false) := Lib.hid (fun W hW => by
  have hf : Fr (fun _ => False) w (w.alloc (.cells cs t)) := fr_al (Fr.refl _ _) _
  refine ⟨hf.trans hW, by have := hW.size; simp at this; omega, fun j hj => ?_⟩
  have h0 := fcell w cs t j _ (Array.getElem?_eq_getElem hj)
  exact ⟨⟨_, hW.cell h0 id⟩, (hW.frozen h0 id).trans (World.frozen?_alloc_new _ _ _ _)⟩)
def zPtr : Value := .agg #[.int .i64 0, .int .i64 0, .int .i64 0, .int .i64 0]
theorem set4' {w : World} {g : Nat} {x0 x1 x2 x3 : Value} (b0 : w.cell? ⟨g, 0, none⟩ = some x0) (b1 : w.cell? ⟨g, 1, none⟩ = some x1) (b2 : w.cell? ⟨g, 2, none⟩ = some x2) (b3 : w.cell? ⟨g, 3, none⟩ = some x3) (v0 v1 v2 v3 : Value) :
    ((((w.setCell ⟨g, 0, none⟩ v0).setCell ⟨g, 1, none⟩ v1).setCell ⟨g, 2, none⟩ v2).setCell ⟨g, 3, none⟩ v3).cell? ⟨g, 0, none⟩ = some v0 ∧
    ((((w.setCell ⟨g, 0, none⟩ v0).setCell ⟨g, 1, none⟩ v1).setCell ⟨g, 2, none⟩ v2).setCell ⟨g, 3, none⟩ v3).cell? ⟨g, 1, none⟩ = some v1 ∧
    ((((w.setCell ⟨g, 0, none⟩ v0).setCell ⟨g, 1, none⟩ v1).setCell ⟨g, 2, none⟩ v2).setCell ⟨g, 3, none⟩ v3).cell? ⟨g, 2, none⟩ = some v2 ∧
    ((((w.setCell ⟨g, 0, none⟩ v0).setCell ⟨g, 1, none⟩ v1).setCell ⟨g, 2, none⟩ v2).setCell ⟨g, 3, none⟩ v3).cell? ⟨g, 3, none⟩ = some v3 := by
  refine ⟨?_, ?_, ?_, ?_⟩
  · exact set_keep (set_keep (set_keep (World.cell?_setCell_same _ _ _ b0) (by decide)) (by decide)) (by decide)
  · exact set_keep (set_keep (World.cell?_setCell_same _ _ _ (set_keep b1 (by decide))) (by decide)) (by decide)
  · exact set_keep (World.cell?_setCell_same _ _ _ (set_keep (set_keep b2 (by decide)) (by decide))) (by decide)
  · exact World.cell?_setCell_same _ _ _ (set_keep (set_keep (set_keep b3 (by decide)) (by decide)) (by decide))
/-- An argument's box, and a result's behind it. -/
theorem boxes2 (w : World) (A R : Array Value) (ta tr : TypeId) : Hid (∀ W, Fr (fun _ => False) ((w.alloc (.cells A ta)).alloc (.cells R tr)) W → Fr (fun _ => False) w W ∧ w.heap.size + 2 ≤ W.heap.size ∧ (∀ j v, A[j]? = some v → W.cell? ⟨w.heap.size, j, none⟩ = some v) ∧ ∀ j, j < R.size → (∃ x, W.cell? ⟨w.heap.size + 1, j, none⟩ = some x) ∧ W.frozen? ⟨w.heap.size + 1, j, none⟩ = false) := Lib.hid (fun W hW => by
  have h1 : Fr (fun _ => False) w (w.alloc (.cells A ta)) := fr_al (Fr.refl _ _) _
  have h2 : Fr (fun _ => False) (w.alloc (.cells A ta)) ((w.alloc (.cells A ta)).alloc (.cells R tr)) := fr_al (Fr.refl _ _) _
  have e : (w.alloc (.cells A ta)).heap.size = w.heap.size + 1 := by simp
  refine ⟨(h1.trans h2).trans hW, by have := hW.size; simp at this; omega, fun j v hv => (h2.trans hW).cell (fcell w A ta j v hv) id, fun j hj => ?_⟩
  have h0 := fcell (w.alloc (.cells A ta)) R tr j _ (Array.getElem?_eq_getElem hj)
  rw [← e]
  exact ⟨⟨_, hW.cell h0 id⟩, (hW.frozen h0 id).trans (World.frozen?_alloc_new _ _ _ _)⟩)
theorem make_nil (n : Int) (w : World) : Calls Try.prog 6 #[.pointer none, .int .i64 n] w fun r w' => r = .returned (.tuple #[.agg #[.int .i64 0, .int .i64 0, .int .i64 0, .int .i64 0], .int .i64 1]) ∧ Fr (fun _ => False) w w' := by
  have HF := Lib.hid (fr_al (Fr.refl (fun _ => False) w) (.cells #[.int .i64 0, .int .i64 0, .int .i64 0, .int .i64 0] 24))
  go_enter Try.func6, Try.ntmps6
  go_wp2
  exact bodyPost_ret (v := .tuple #[.agg #[.int .i64 0, .int .i64 0, .int .i64 0, .int .i64 0], .int .i64 1]) (by simp [results, Try.results6, go_sem]) rfl ⟨rfl, HF.out⟩
set_option maxHeartbeats 1000000 in
theorem move_nil (a b c d n : Int) (w : World) : Calls Try.prog 7 #[.pointer none, .agg #[.int .i64 a, .int .i64 b, .int .i64 c, .int .i64 d], .int .i64 n] w fun r w' => r = .returned (.tuple #[.agg #[.int .i64 0, .int .i64 0, .int .i64 0, .int .i64 0], .int .i64 1]) ∧ Fr (fun _ => False) w w' := by
  have HB := boxes2 w #[.int .i64 a, .int .i64 b, .int .i64 c, .int .i64 d] #[.int .i64 0, .int .i64 0, .int .i64 0, .int .i64 0] 24 24
  go_enter Try.func7, Try.ntmps7
  go_wp2_with (go_at_call 10; (with_reducible refine (pointee_nil _ _ _ _ _).mono ?_); rintro r w1 ⟨rfl, hf⟩; have hb := HB.out _ hf; have HF := Lib.hid hb.1; obtain ⟨⟨x0, k0⟩, f0⟩ := hb.2.2.2 0 (by decide); obtain ⟨⟨x1, k1⟩, f1⟩ := hb.2.2.2 1 (by decide); obtain ⟨⟨x2, k2⟩, f2⟩ := hb.2.2.2 2 (by decide); obtain ⟨⟨x3, k3⟩, f3⟩ := hb.2.2.2 3 (by decide); clear hf hb)
  exact bodyPost_ret (v := .tuple #[.agg #[.int .i64 0, .int .i64 0, .int .i64 0, .int .i64 0], .int .i64 1]) (by simp [results, Try.results7, go_sem, set4' k0 k1 k2 k3]) rfl ⟨rfl, fr_set (fr_set (fr_set (fr_set HF.out (by omega) _ _) (by omega) _ _) (by omega) _ _) (by omega) _ _⟩
def zVal : Array Value := #[.int .u32 0, .int .i64 0, .int .i64 0, .int .i64 0, .int .i64 0, .bool false]
set_option maxHeartbeats 1000000 in
theorem load_nil (a b c d n : Int) (p : Bool) (w : World) : Calls Try.prog 9 #[.pointer none, .agg #[.int .i64 a, .int .i64 b, .int .i64 c, .int .i64 d], .int .i64 n, .bool p] w fun r w' => r = .returned (.tuple #[.agg #[.int .u32 0, .int .i64 0, .int .i64 0, .int .i64 0, .int .i64 0, .bool false], .int .i64 1]) ∧ Fr (fun _ => False) w w' := by
  have HF := Lib.hid (fr_al (fr_al (Fr.refl (fun _ => False) w) (.cells #[.int .i64 a, .int .i64 b, .int .i64 c, .int .i64 d] 24)) (.cells zVal 26))
  unfold zVal at HF
  go_enter Try.func9, Try.ntmps9
  go_wp2
  exact bodyPost_ret (v := .tuple #[.agg #[.int .u32 0, .int .i64 0, .int .i64 0, .int .i64 0, .int .i64 0, .bool false], .int .i64 1]) (by simp [results, Try.results9, go_sem]) rfl ⟨rfl, HF.out⟩
set_option maxHeartbeats 1000000 in
theorem put_nil (a b c d n u e f g h : Int) (p : Bool) (w : World) : Calls Try.prog 8 #[.pointer none, .agg #[.int .i64 a, .int .i64 b, .int .i64 c, .int .i64 d], .int .i64 n, .agg #[.int .u32 u, .int .i64 e, .int .i64 f, .int .i64 g, .int .i64 h, .bool p]] w fun r w' => r = .returned (.int .i64 1) ∧ Fr (fun _ => False) w w' := by
  have HF := Lib.hid (fr_al (fr_al (Fr.refl (fun _ => False) w) (.cells #[.int .i64 a, .int .i64 b, .int .i64 c, .int .i64 d] 24)) (.cells #[.int .u32 u, .int .i64 e, .int .i64 f, .int .i64 g, .int .i64 h, .bool p] 26))
  go_enter Try.func8, Try.ntmps8
  go_wp2
  go_ret
  exact ⟨rfl, HF.out⟩
end Go.Proofs.Ytonkfgjmienalaa
