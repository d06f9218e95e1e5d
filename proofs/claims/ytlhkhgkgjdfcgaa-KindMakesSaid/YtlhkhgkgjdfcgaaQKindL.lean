/-
  Tables of types (layer 8): Size, Align, Scalar at nil and at a table. Tables of types (layer 8): what is asked of one field. Tables of types (layer 8): Field at nil.
-/
import Derived.Test.YtlhkhgkgjdfcgaaQKindK
import Derived.Outline
namespace Go.Proofs.Ytlhkhgkgjdfcgaa
open Go.RowKit
set_option linter.unusedVariables false
set_option linter.unusedSimpArgs false
def noE : Ent := ⟨0, 0, 0, ⟨#[]⟩, none, 0, 0, 0, 0⟩
theorem size_nil (n : Int) (w : World) : Calls Try.prog 14 #[.pointer none, .int .i64 n] w fun r w' => r = .returned (.int .i64 0) ∧ Fr (fun _ => False) w w' :=
  size_of (.pointer none) n 1 noE w (Lib.hid fun W hW => (entry_nil' n).out W)
theorem align_nil (n : Int) (w : World) : Calls Try.prog 16 #[.pointer none, .int .i64 n] w fun r w' => r = .returned (.int .i64 0) ∧ Fr (fun _ => False) w w' :=
  align_of (.pointer none) n 1 noE w (Lib.hid fun W hW => (entry_nil' n).out W)
theorem scalar_nil (n : Int) (w : World) : Calls Try.prog 19 #[.pointer none, .int .i64 n] w fun r w' => r = .returned (.bool false) ∧ Fr (fun _ => False) w w' :=
  scalar_of (.pointer none) n 1 noE w (Lib.hid fun W hW => (entry_nil' n).out W)
theorem size_at {base : Nat} {w : World} {tb : Nat} {v : Value} {es : List Ent} (h : TabAt base w tb v es) (n : Int) : Calls Try.prog 14 #[.pointer (some ⟨tb, 0, none⟩), .int .i64 n] w fun r w' => r = .returned (.int .i64 (entF es n).size) ∧ Fr (fun _ => False) w w' :=
  size_of _ n _ _ w (entry_ent h n _ rfl)
theorem align_at {base : Nat} {w : World} {tb : Nat} {v : Value} {es : List Ent} (h : TabAt base w tb v es) (n : Int) : Calls Try.prog 16 #[.pointer (some ⟨tb, 0, none⟩), .int .i64 n] w fun r w' => r = .returned (.int .i64 (entF es n).align) ∧ Fr (fun _ => False) w w' :=
  align_of _ n _ _ w (entry_ent h n _ rfl)
theorem scalar_at {base : Nat} {w : World} {tb : Nat} {v : Value} {es : List Ent} (h : TabAt base w tb v es) (n : Int) : Calls Try.prog 19 #[.pointer (some ⟨tb, 0, none⟩), .int .i64 n] w fun r w' => r = .returned (.bool (scalarB (entF es n).kind)) ∧ Fr (fun _ => False) w w' :=
  scalar_of _ n _ _ w (entry_ent h n _ rfl)
theorem nameless_of (nm : ByteArray) (ty at' : Int) (w : World) : Calls Try.prog 47 #[.agg #[.string nm, .int .i64 ty, .int .i64 at']] w fun r w' => r = .returned (.bool nm.toList.isEmpty) ∧ Fr (fun _ => False) w w' := by
  have HF := Lib.hid (Fr.refl (fun _ => False) w)
  go_enter Try.func47, Try.ntmps47
  go_wp2
  go_ret
  exact ⟨rfl, fr_al HF.out _⟩
theorem typeless_of (p : Value) (nm : ByteArray) (ty at' er : Int) (e : Ent) (w : World) (H : Hid (∀ W, Fr (fun _ => False) w W → Calls Try.prog 33 #[p, .int .i64 ty] W fun r w' => r = .returned (.tuple #[.agg #[.int .i64 e.kind, .int .i64 e.elem, .int .i64 e.len, .string e.name, .slice e.fa e.fn e.fc, .int .i64 e.size, .int .i64 e.align], .int .i64 er]) ∧ Fr (fun _ => False) W w')) :
    Calls Try.prog 48 #[p, .agg #[.string nm, .int .i64 ty, .int .i64 at']] w fun r w' => r = .returned (.bool (er != 0)) ∧ Fr (fun _ => False) w w' := by
  have HF := Lib.hid (fr_al (Fr.refl (fun _ => False) w) (.cells #[.string nm, .int .i64 ty, .int .i64 at'] 53))
  go_enter Try.func48, Try.ntmps48
  go_wp2_with (go_at_call 33; (with_reducible refine (H.out _ HF.out).mono ?_); rintro r w' ⟨rfl, hf⟩; have HV := Lib.hid (HF.out.trans hf); clear hf)
  go_ret
  exact ⟨rfl, fr_al HV.out _⟩
theorem sizeless_of (p : Value) (nm : ByteArray) (ty at' z : Int) (w : World) (H : Hid (∀ W, Fr (fun _ => False) w W → Calls Try.prog 14 #[p, .int .i64 ty] W fun r w' => r = .returned (.int .i64 z) ∧ Fr (fun _ => False) W w')) :
    Calls Try.prog 49 #[p, .agg #[.string nm, .int .i64 ty, .int .i64 at']] w fun r w' => r = .returned (.bool (z == 0)) ∧ Fr (fun _ => False) w w' := by
  have HF := Lib.hid (fr_al (Fr.refl (fun _ => False) w) (.cells #[.string nm, .int .i64 ty, .int .i64 at'] 53))
  go_enter Try.func49, Try.ntmps49
  go_wp2_with (go_at_call 14; (with_reducible refine (H.out _ HF.out).mono ?_); rintro r w' ⟨rfl, hf⟩; have HV := Lib.hid (HF.out.trans hf); clear hf)
  go_ret
  exact ⟨rfl, HV.out⟩
theorem set3 {w : World} {g : Nat} {x0 x1 x2 : Value} (b0 : w.cell? ⟨g, 0, none⟩ = some x0) (b1 : w.cell? ⟨g, 1, none⟩ = some x1) (b2 : w.cell? ⟨g, 2, none⟩ = some x2) (v0 v1 v2 : Value) (o : Obj) :
    ((((w.setCell ⟨g, 0, none⟩ v0).setCell ⟨g, 1, none⟩ v1).setCell ⟨g, 2, none⟩ v2).alloc o).cell? ⟨g, 0, none⟩ = some v0 ∧
    ((((w.setCell ⟨g, 0, none⟩ v0).setCell ⟨g, 1, none⟩ v1).setCell ⟨g, 2, none⟩ v2).alloc o).cell? ⟨g, 1, none⟩ = some v1 ∧
    ((((w.setCell ⟨g, 0, none⟩ v0).setCell ⟨g, 1, none⟩ v1).setCell ⟨g, 2, none⟩ v2).alloc o).cell? ⟨g, 2, none⟩ = some v2 := by
  have hA : ∀ {W : World} {a : Addr} {x : Value}, W.cell? a = some x → (W.alloc o).cell? a = some x := fun h => (World.grownBy_alloc _ o none).cell h (by simp)
  refine ⟨hA ?_, hA ?_, hA ?_⟩
  · exact set_keep (set_keep (World.cell?_setCell_same _ _ _ b0) (by decide)) (by decide)
  · exact set_keep (World.cell?_setCell_same _ _ _ (set_keep b1 (by decide))) (by decide)
  · exact World.cell?_setCell_same _ _ _ (set_keep (set_keep b2 (by decide)) (by decide))
theorem field_nil (n : Int) (nm : ByteArray) (w : World) : Calls Try.prog 23 #[.pointer none, .int .i64 n, .string nm] w fun r w' => r = .returned (.tuple #[.agg #[.string ⟨#[]⟩, .int .i64 0, .int .i64 0], .int .i64 1]) ∧ Fr (fun _ => False) w w' := by
  have H := entry_nil' n
  have hsz : Hid (w.heap.size < (w.alloc (.cells #[.string ⟨#[]⟩, .int .i64 0, .int .i64 0] 53)).heap.size) := Lib.hid (by simp)
  have HB : Hid (∀ W, Fr (fun _ => False) (w.alloc (.cells #[.string ⟨#[]⟩, .int .i64 0, .int .i64 0] 53)) W → Fr (fun _ => False) w W ∧ ∀ j, j < 3 → (∃ x, W.cell? ⟨w.heap.size, j, none⟩ = some x) ∧ W.frozen? ⟨w.heap.size, j, none⟩ = false) := Lib.hid (fun W hW => by
    refine ⟨(fr_al (Fr.refl _ _) _).trans hW, fun j hj => ?_⟩
    have h0 : ∃ x, (w.alloc (.cells #[.string ⟨#[]⟩, .int .i64 0, .int .i64 0] 53)).cell? ⟨w.heap.size, j, none⟩ = some x := ⟨_, fcell w _ _ j _ (Array.getElem?_eq_getElem (by simpa using hj))⟩
    obtain ⟨x, h0⟩ := h0
    exact ⟨⟨x, hW.cell h0 id⟩, (hW.frozen h0 id).trans (World.frozen?_alloc_new _ _ _ _)⟩)
  go_enter Try.func23, Try.ntmps23
  go_wp2_with (go_at_call 33; (with_reducible refine (H.out _).mono ?_); rintro r w2 ⟨rfl, hf⟩; obtain ⟨hv, hb⟩ := HB.out _ hf; have HV := Lib.hid hv; obtain ⟨⟨b0, k0⟩, f0⟩ := hb 0 (by decide); obtain ⟨⟨b1, k1⟩, f1⟩ := hb 1 (by decide); obtain ⟨⟨b2, k2⟩, f2⟩ := hb 2 (by decide); have lw : w.heap.size < w2.heap.size := Nat.lt_of_lt_of_le hsz.out hf.size; clear hb hv hf)
  exact bodyPost_ret (v := .tuple #[.agg #[.string ⟨#[]⟩, .int .i64 0, .int .i64 0], .int .i64 1]) (by simp [results, Try.results23, go_sem, set3 k0 k1 k2]) rfl ⟨rfl, fr_al (fr_set (fr_set (fr_set HV.out (Nat.le_refl _) _ _) (Nat.le_refl _) _ _) (Nat.le_refl _) _ _) _⟩
end Go.Proofs.Ytlhkhgkgjdfcgaa
