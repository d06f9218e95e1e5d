/-
  Tables of types (layer 8): the walk of the law on no table.
-/
import Derived.Test.YtlhkhgkgjdfcgaaQKindNa
import Derived.Deep.RegionHeld3
import Derived.Outline
namespace Go.Proofs.Ytlhkhgkgjdfcgaa
open Go.RowKit
set_option linter.unusedVariables false
set_option linter.unusedSimpArgs false
theorem acts_one {w W : World} {b : Nat} {y : ActV} {fs : List Fld} (h : W.heap[b]? = some (.cells #[.int .i64 y.kind, .int .i64 y.n, .int .i64 y.long, .string y.name, .slice y.fa y.fn y.fc] 35 (0, 0))) (hf : FldAt W y.fa y.fn fs) : ActsAt W (some ⟨b, 0, none⟩) 1 [y] (fun _ => fs) := by
  refine ⟨rfl, fun k hk => ?_⟩
  have hk0 : k = 0 := by simpa using hk
  subst hk0
  refine ⟨b, 0, rfl, fun j hj => ?_, hf⟩
  rw [cell_of_row _ _ _ #[.int .i64 y.kind, .int .i64 y.n, .int .i64 y.long, .string y.name, .slice y.fa y.fn y.fc] 35 (0, 0) h]
  match j, hj with
  | 0, _ => rfl
  | 1, _ => rfl
  | 2, _ => rfl
  | 3, _ => rfl
  | 4, _ => rfl
/-- The box of an act. -/
def BoxA (w W : World) (b : Nat) (y : ActV) : Prop :=
  Fr (fun _ => False) w W ∧ W.cell? ⟨b, 0, none⟩ = some (.int .i64 y.kind) ∧ W.cell? ⟨b, 1, none⟩ = some (.int .i64 y.n) ∧ W.cell? ⟨b, 2, none⟩ = some (.int .i64 y.long) ∧ W.cell? ⟨b, 3, none⟩ = some (.string y.name) ∧ W.cell? ⟨b, 4, none⟩ = some (.slice y.fa y.fn y.fc)
theorem BoxA.quiet {w W W' : World} {b : Nat} {y : ActV} (h : BoxA w W b y) (hf : Fr (fun _ => False) W W') : BoxA w W' b y :=
  ⟨h.1.trans hf, hf.cell h.2.1 id, hf.cell h.2.2.1 id, hf.cell h.2.2.2.1 id, hf.cell h.2.2.2.2.1 id, hf.cell h.2.2.2.2.2 id⟩
theorem BoxA.start (w : World) (y : ActV) : BoxA w (w.alloc (.cells #[.int .i64 y.kind, .int .i64 y.n, .int .i64 y.long, .string y.name, .slice y.fa y.fn y.fc] 35)) w.heap.size y :=
  ⟨fr_al (Fr.refl _ _) _, fcell w _ _ 0 _ rfl, fcell w _ _ 1 _ rfl, fcell w _ _ 2 _ rfl, fcell w _ _ 3 _ rfl, fcell w _ _ 4 _ rfl⟩
theorem keepB {w W W' : World} {b : Nat} {y : ActV} (h : Fr (fun _ => False) w W ∧ W.cell? ⟨b, 0, none⟩ = some (.int .i64 y.kind) ∧ W.cell? ⟨b, 1, none⟩ = some (.int .i64 y.n) ∧ W.cell? ⟨b, 2, none⟩ = some (.int .i64 y.long) ∧ W.cell? ⟨b, 3, none⟩ = some (.string y.name) ∧ W.cell? ⟨b, 4, none⟩ = some (.slice y.fa y.fn y.fc)) (hf : Fr (fun _ => False) W W') : Fr (fun _ => False) w W' ∧ W'.cell? ⟨b, 0, none⟩ = some (.int .i64 y.kind) ∧ W'.cell? ⟨b, 1, none⟩ = some (.int .i64 y.n) ∧ W'.cell? ⟨b, 2, none⟩ = some (.int .i64 y.long) ∧ W'.cell? ⟨b, 3, none⟩ = some (.string y.name) ∧ W'.cell? ⟨b, 4, none⟩ = some (.slice y.fa y.fn y.fc) := BoxA.quiet h hf
theorem keepBd {w W : World} {b : Nat} {y : ActV} (h : Fr (fun _ => False) w W ∧ W.cell? ⟨b, 0, none⟩ = some (.int .i64 y.kind) ∧ W.cell? ⟨b, 1, none⟩ = some (.int .i64 y.n) ∧ W.cell? ⟨b, 2, none⟩ = some (.int .i64 y.long) ∧ W.cell? ⟨b, 3, none⟩ = some (.string y.name) ∧ W.cell? ⟨b, 4, none⟩ = some (.slice y.fa y.fn y.fc)) : Fr (fun _ => False) w W.drew ∧ W.drew.cell? ⟨b, 0, none⟩ = some (.int .i64 y.kind) ∧ W.drew.cell? ⟨b, 1, none⟩ = some (.int .i64 y.n) ∧ W.drew.cell? ⟨b, 2, none⟩ = some (.int .i64 y.long) ∧ W.drew.cell? ⟨b, 3, none⟩ = some (.string y.name) ∧ W.drew.cell? ⟨b, 4, none⟩ = some (.slice y.fa y.fn y.fc) := BoxA.quiet h (fr_drew (Fr.refl _ _))
theorem keepBa {w W : World} {b : Nat} {y : ActV} (o : Obj) (h : Fr (fun _ => False) w W ∧ W.cell? ⟨b, 0, none⟩ = some (.int .i64 y.kind) ∧ W.cell? ⟨b, 1, none⟩ = some (.int .i64 y.n) ∧ W.cell? ⟨b, 2, none⟩ = some (.int .i64 y.long) ∧ W.cell? ⟨b, 3, none⟩ = some (.string y.name) ∧ W.cell? ⟨b, 4, none⟩ = some (.slice y.fa y.fn y.fc)) : Fr (fun _ => False) w (W.alloc o) ∧ (W.alloc o).cell? ⟨b, 0, none⟩ = some (.int .i64 y.kind) ∧ (W.alloc o).cell? ⟨b, 1, none⟩ = some (.int .i64 y.n) ∧ (W.alloc o).cell? ⟨b, 2, none⟩ = some (.int .i64 y.long) ∧ (W.alloc o).cell? ⟨b, 3, none⟩ = some (.string y.name) ∧ (W.alloc o).cell? ⟨b, 4, none⟩ = some (.slice y.fa y.fn y.fc) := BoxA.quiet h (fr_al (Fr.refl _ _) _)
theorem keepBs {w W : World} {b c : Nat} {y : ActV} (v0 v1 v2 : Value) (h : Fr (fun _ => False) w W ∧ W.cell? ⟨b, 0, none⟩ = some (.int .i64 y.kind) ∧ W.cell? ⟨b, 1, none⟩ = some (.int .i64 y.n) ∧ W.cell? ⟨b, 2, none⟩ = some (.int .i64 y.long) ∧ W.cell? ⟨b, 3, none⟩ = some (.string y.name) ∧ W.cell? ⟨b, 4, none⟩ = some (.slice y.fa y.fn y.fc)) (hb : w.heap.size ≤ b) (hc : b < c) : Fr (fun _ => False) w (((W.setCell ⟨c, 0, none⟩ v0).setCell ⟨c, 1, none⟩ v1).setCell ⟨c, 2, none⟩ v2) ∧ (((W.setCell ⟨c, 0, none⟩ v0).setCell ⟨c, 1, none⟩ v1).setCell ⟨c, 2, none⟩ v2).cell? ⟨b, 0, none⟩ = some (.int .i64 y.kind) ∧ (((W.setCell ⟨c, 0, none⟩ v0).setCell ⟨c, 1, none⟩ v1).setCell ⟨c, 2, none⟩ v2).cell? ⟨b, 1, none⟩ = some (.int .i64 y.n) ∧ (((W.setCell ⟨c, 0, none⟩ v0).setCell ⟨c, 1, none⟩ v1).setCell ⟨c, 2, none⟩ v2).cell? ⟨b, 2, none⟩ = some (.int .i64 y.long) ∧ (((W.setCell ⟨c, 0, none⟩ v0).setCell ⟨c, 1, none⟩ v1).setCell ⟨c, 2, none⟩ v2).cell? ⟨b, 3, none⟩ = some (.string y.name) ∧ (((W.setCell ⟨c, 0, none⟩ v0).setCell ⟨c, 1, none⟩ v1).setCell ⟨c, 2, none⟩ v2).cell? ⟨b, 4, none⟩ = some (.slice y.fa y.fn y.fc) :=
  ⟨fr_set (fr_set (fr_set h.1 (by omega) _ _) (by omega) _ _) (by omega) _ _, cell_far (cell_far (cell_far h.2.1 (by omega)) (by omega)) (by omega), cell_far (cell_far (cell_far h.2.2.1 (by omega)) (by omega)) (by omega), cell_far (cell_far (cell_far h.2.2.2.1 (by omega)) (by omega)) (by omega), cell_far (cell_far (cell_far h.2.2.2.2.1 (by omega)) (by omega)) (by omega), cell_far (cell_far (cell_far h.2.2.2.2.2 (by omega)) (by omega)) (by omega)⟩
theorem keepBz {w W : World} {b : Nat} {y : ActV} {x0 x1 x2 : Value} {t : TypeId} (y0 y1 y2 : Value) (h : Fr (fun _ => False) w (W.alloc (.cells #[x0, x1, x2] t)) ∧ (W.alloc (.cells #[x0, x1, x2] t)).cell? ⟨b, 0, none⟩ = some (.int .i64 y.kind) ∧ (W.alloc (.cells #[x0, x1, x2] t)).cell? ⟨b, 1, none⟩ = some (.int .i64 y.n) ∧ (W.alloc (.cells #[x0, x1, x2] t)).cell? ⟨b, 2, none⟩ = some (.int .i64 y.long) ∧ (W.alloc (.cells #[x0, x1, x2] t)).cell? ⟨b, 3, none⟩ = some (.string y.name) ∧ (W.alloc (.cells #[x0, x1, x2] t)).cell? ⟨b, 4, none⟩ = some (.slice y.fa y.fn y.fc)) (hb : w.heap.size ≤ b) : Fr (fun _ => False) w (W.alloc (.cells #[y0, y1, y2] t)) ∧ (W.alloc (.cells #[y0, y1, y2] t)).cell? ⟨b, 0, none⟩ = some (.int .i64 y.kind) ∧ (W.alloc (.cells #[y0, y1, y2] t)).cell? ⟨b, 1, none⟩ = some (.int .i64 y.n) ∧ (W.alloc (.cells #[y0, y1, y2] t)).cell? ⟨b, 2, none⟩ = some (.int .i64 y.long) ∧ (W.alloc (.cells #[y0, y1, y2] t)).cell? ⟨b, 3, none⟩ = some (.string y.name) ∧ (W.alloc (.cells #[y0, y1, y2] t)).cell? ⟨b, 4, none⟩ = some (.slice y.fa y.fn y.fc) := by
  have hne : b ≠ W.heap.size := fun e => by
    have h4 := h.2.2.2.2.1
    rw [e, cell_of_row _ _ _ #[x0, x1, x2] t (0, 0) (heap_alloc_new _ _)] at h4
    simp at h4
  have hlt : b < W.heap.size := by
    have := World.block_lt_of_cell? _ _ h.2.2.2.2.1
    simp at this
    omega
  have k : ∀ (o : Obj) (j : Nat), (W.alloc o).cell? ⟨b, j, none⟩ = W.cell? ⟨b, j, none⟩ := fun o j => (World.grownBy_alloc W o none).cell_far _ hlt (by simp)
  have hf : Fr (fun _ => False) w W := ⟨h.1.os, h.1.output, by omega, fun i hi hn => ((World.grownBy_alloc W _ none).block i (by omega) (by simp)).symm.trans (h.1.block i hi hn)⟩
  simp only [k] at h ⊢
  exact ⟨fr_al hf _, h.2⟩
theorem undrew {F : Nat → Prop} {W V : World} (h : Fr F W.drew V) : Fr F W V := ⟨h.os, h.output, h.size, h.block⟩
theorem box31 {W V : World} (h : Fr (fun _ => False) (W.alloc (.cells #[.int .i64 0, .slice none 0 0, .int .i64 0] 31)) V) : V.cell? ⟨W.heap.size, 0, none⟩ = some (.int .i64 0) ∧ V.frozen? ⟨W.heap.size, 0, none⟩ = false ∧ V.cell? ⟨W.heap.size, 1, none⟩ = some (.slice none 0 0) ∧ V.frozen? ⟨W.heap.size, 1, none⟩ = false ∧ V.cell? ⟨W.heap.size, 2, none⟩ = some (.int .i64 0) ∧ V.frozen? ⟨W.heap.size, 2, none⟩ = false :=
  ⟨h.cell (fcell W _ _ 0 _ rfl) id, (h.frozen (fcell W _ _ 0 _ rfl) id).trans (World.frozen?_alloc_new _ _ _ _), h.cell (fcell W _ _ 1 _ rfl) id, (h.frozen (fcell W _ _ 1 _ rfl) id).trans (World.frozen?_alloc_new _ _ _ _), h.cell (fcell W _ _ 2 _ rfl) id, (h.frozen (fcell W _ _ 2 _ rfl) id).trans (World.frozen?_alloc_new _ _ _ _)⟩
theorem rat_first {W w3 : World} {o : Obj} (h : RAt w3 (some ⟨(W.alloc o).drew.heap.size, 0, none⟩) 3 begin3) : RAt w3 (some ⟨W.heap.size + 1, 0, none⟩) 3 begin3 := by
  have e : (W.alloc o).drew.heap.size = W.heap.size + 1 := by simp [World.drew]
  rw [e] at h
  exact h
theorem lt_first {W w3 : World} {o : Obj} (h : (W.alloc o).drew.heap.size < w3.heap.size) : W.heap.size + 1 < w3.heap.size := by
  have e : (W.alloc o).drew.heap.size = W.heap.size + 1 := by simp [World.drew]
  rw [e] at h
  exact h
theorem Fr.cells {W W' : World} (h : Fr (fun _ => False) W W') : ∀ a : Addr, a.block < W.heap.size → W'.cell? a = W.cell? a := fun a ha => World.cell?_of_block (h.block _ ha id)
theorem Fr.frozens {W W' : World} (h : Fr (fun _ => False) W W') : ∀ a : Addr, a.block < W.heap.size → W'.frozen? a = W.frozen? a := fun a ha => World.frozen?_of_block (h.block _ ha id)
theorem few_one {w W : World} {y : ActV} {fs : List Fld} (hf : FldAt w y.fa y.fn fs) (hw : Fr (fun _ => False) w W) (hs : y.name.size ≤ maxLen ∧ y.fn ≤ maxLen ∧ ∀ f ∈ fs, f.name.size ≤ maxLen) :
    Calls Try.prog 8 #[.slice (some ⟨W.heap.size, 0, none⟩) 1 1] (W.alloc (.cells #[.int .i64 y.kind, .int .i64 y.n, .int .i64 y.long, .string y.name, .slice y.fa y.fn y.fc] 35)) fun r w' => ∃ b, r = .returned (.bool b) ∧ (b = true → y.fn ≤ 12) ∧ (W.alloc (.cells #[.int .i64 y.kind, .int .i64 y.n, .int .i64 y.long, .string y.name, .slice y.fa y.fn y.fc] 35)) = w' := by
  have hA := acts_one (w := w) (heap_alloc_new W (.cells #[.int .i64 y.kind, .int .i64 y.n, .int .i64 y.long, .string y.name, .slice y.fa y.fn y.fc] 35)) ((hf.quiet hw).quiet (fr_al (Fr.refl _ _) _))
  refine (few_of (c := 1) hA (by decide) (fun k hk => ?_)).mono fun r w' hr => ?_
  · have hk0 : k = 0 := by simpa using hk
    subst hk0
    exact ⟨hs.1, hs.2.1, fun i hi => hs.2.2 _ (getD_mem hi)⟩
  · obtain ⟨b, e, h1, h2⟩ := hr
    exact ⟨b, e, fun hb => ((h1 hb).2 0 (by simp)).2.1, h2⟩
set_option maxRecDepth 100000 in
set_option maxHeartbeats 2000000 in
theorem none_walk (y : ActV) (fs : List Fld) (n : Int) (w : World) (hf : FldAt w y.fa y.fn fs) (hs : y.name.size ≤ maxLen ∧ y.fn ≤ maxLen ∧ ∀ f ∈ fs, f.name.size ≤ maxLen) :
    Calls Try.prog 7 #[.agg #[.int .i64 y.kind, .int .i64 y.n, .int .i64 y.long, .string y.name, .slice y.fa y.fn y.fc], .int .i64 n] w fun r w' => r = .returned (.bool true) ∧ Fr (fun _ => False) w w' := by
  have HB := Lib.hid (BoxA.start w y)
  have HFEW : Hid (Calls Try.prog 8 #[.slice (some ⟨w.heap.size + 1, 0, none⟩) 1 1] ((w.alloc (.cells #[.int .i64 y.kind, .int .i64 y.n, .int .i64 y.long, .string y.name, .slice y.fa y.fn y.fc] 35)).alloc (.cells #[.int .i64 y.kind, .int .i64 y.n, .int .i64 y.long, .string y.name, .slice y.fa y.fn y.fc] 35)) fun r w' => ∃ b, r = .returned (.bool b) ∧ (b = true → y.fn ≤ 12) ∧ BoxA w w' w.heap.size y) := Lib.hid (by
    have e : (w.alloc (.cells #[.int .i64 y.kind, .int .i64 y.n, .int .i64 y.long, .string y.name, .slice y.fa y.fn y.fc] 35)).heap.size = w.heap.size + 1 := by simp
    have h1 := few_one hf (fr_al (Fr.refl _ _) (.cells #[.int .i64 y.kind, .int .i64 y.n, .int .i64 y.long, .string y.name, .slice y.fa y.fn y.fc] 35)) hs
    rw [e] at h1
    refine h1.mono fun r w' hr => ?_
    obtain ⟨b, e1, e2, e3⟩ := hr
    exact ⟨b, e1, e2, e3 ▸ (BoxA.start w y).quiet (fr_al (Fr.refl _ _) _)⟩)
  obtain ⟨_, z0, z1, z2, z3, z4⟩ := BoxA.start w y
  have HFL := Lib.hid hf
  clear hf hs
  go_enter Try.func7, Try.ntmps7
  go_wp2_with (first
    | (go_at_call 8; (with_reducible refine HFEW.out.mono ?_); rintro r w2 ⟨b, rfl, hb, hbox⟩; have HBX := Lib.hid hbox; clear hbox; clear z0 z1 z2 z3 z4; cases b))
  · go_wp2_with (go_at_call 9; (with_reducible refine (awake_of _).mono ?_); rintro r w3 ⟨rfl, hfr⟩; have HV := Lib.hid (HBX.out.1.trans hfr); clear hfr)
    go_ret
    exact ⟨rfl, HV.out⟩
  · have hfn : y.fn ≤ 12 := by first | exact hb rfl | exact hb trivial
    have HD : Hid (∀ W b, (Fr (fun _ => False) w W ∧ W.cell? ⟨w.heap.size, 0, none⟩ = some (.int .i64 y.kind) ∧ W.cell? ⟨w.heap.size, 1, none⟩ = some (.int .i64 y.n) ∧ W.cell? ⟨w.heap.size, 2, none⟩ = some (.int .i64 y.long) ∧ W.cell? ⟨w.heap.size, 3, none⟩ = some (.string y.name) ∧ W.cell? ⟨w.heap.size, 4, none⟩ = some (.slice y.fa y.fn y.fc)) → RAt W (some ⟨b, 0, none⟩) 3 begin3 → b < W.heap.size → Calls Try.prog 12 #[.agg #[.int .i64 y.kind, .int .i64 y.n, .int .i64 y.long, .string y.name, .slice y.fa y.fn y.fc], .pointer none, .slice (some ⟨b, 0, none⟩) 3 3] W fun r w' => ∃ N E a n c, r = .returned (.tuple #[.int .i64 0, .int .i64 1, .agg #[.int .i64 N, .slice a n c, .int .i64 E]]) ∧ Fr (fun _ => False) W w') :=
      Lib.hid (fun W b hB hR hlt => (done_nil (w0 := w) hB.1 y fs (HFL.out.quiet hB.1) (by have := HFL.out.1; omega) hR hlt).mono fun r w' hr => by
        obtain ⟨N, E, a, n, c, e, _, hf⟩ := hr
        exact ⟨N, E, a, n, c, e, hf⟩)
    have hbx : Fr (fun _ => False) w w2 ∧ w2.cell? ⟨w.heap.size, 0, none⟩ = some (.int .i64 y.kind) ∧ w2.cell? ⟨w.heap.size, 1, none⟩ = some (.int .i64 y.n) ∧ w2.cell? ⟨w.heap.size, 2, none⟩ = some (.int .i64 y.long) ∧ w2.cell? ⟨w.heap.size, 3, none⟩ = some (.string y.name) ∧ w2.cell? ⟨w.heap.size, 4, none⟩ = some (.slice y.fa y.fn y.fc) := HBX.out
    clear hb HB HFEW
    obtain ⟨b0, hb0⟩ : ∃ b0, w.heap.size = b0 := ⟨_, rfl⟩
    rw [hb0] at hbx HBX HD ⊢
    have hw0 : w.heap.size ≤ b0 := by omega
    have hlt0 : b0 < w2.heap.size := World.block_lt_of_cell? w2 _ hbx.2.1
    have hlt1 : b0 < w2.drew.heap.size := hlt0
    go_region_held3 (fun w' => Fr (fun _ => False) w w' ∧ w'.cell? ⟨b0, 0, none⟩ = some (.int .i64 y.kind) ∧ w'.cell? ⟨b0, 1, none⟩ = some (.int .i64 y.n) ∧ w'.cell? ⟨b0, 2, none⟩ = some (.int .i64 y.long) ∧ w'.cell? ⟨b0, 3, none⟩ = some (.string y.name) ∧ w'.cell? ⟨b0, 4, none⟩ = some (.slice y.fa y.fn y.fc))
      (first | exact keepBd hbx | assumption | exact keepBa _ (by assumption) | exact keepB (by assumption) (by assumption) | exact keepBz _ _ _ (by assumption) hw0 | exact keepBs _ _ _ (by assumption) hw0 (by first | assumption | omega))
      (first
        | (go_at_call 11; refine (begin_of _).mono ?_; rintro r w3 ⟨rfl, hf, hlt, hrat⟩; have hs3 := hf.size; have hs3' : w2.heap.size ≤ w3.heap.size := (by first | exact hs3 | (simp at hs3; exact hs3) | (simp at hs3; omega)))
        | (go_at_call 12; refine (HD.out _ _ (by first | assumption | exact keepBa _ (by assumption)) (by first | exact hrat | exact hrat.quiet (fr_al (Fr.refl _ _) _) | exact rat_first hrat) (by first | exact hlt | exact Nat.lt_of_lt_of_le hlt (by simp) | exact lt_first hlt)).mono ?_; rintro r w4 ⟨N, E, a4, n4, c4, rfl, hf4⟩; first | (have q4 := box31 hf4; obtain ⟨c0, g0, c1, g1, c2, g2⟩ := q4) | (have q4 := box31 ((undrew hf).trans hf4); obtain ⟨c0, g0, c1, g1, c2, g2⟩ := q4) | skip))
    all_goals
      have hS := ‹Fr (fun _ => False) w _ ∧ _ ∧ _ ∧ _ ∧ _ ∧ _›
      have HS := Lib.hid hS
      clear hS
      clear HFL HD
      go_wp2_with (first
        | (go_at_call 13; (with_reducible refine (type_nil n _).mono ?_); rintro r w5 ⟨rfl, hf5⟩; have HV5 := Lib.hid ((HS.out.1.trans hf5)); have y3 : ∀ o : Obj, (w5.alloc o).cell? ⟨b0, 3, none⟩ = some (.string y.name) := (fun o => (fr_al hf5 o).cell HS.out.2.2.2.2.1 id); have HC5 := Lib.hid (fcell w5 #[.int .i64 0, .int .i64 0, .int .i64 0, .string ⟨#[]⟩, .slice none 0 0] 38 0 _ rfl); clear hf5)
        | (go_at_call 21; (with_reducible refine (find_nil _ _).mono ?_); rintro r wf ⟨rfl, rfl⟩)
        | (go_at_call 23; (with_reducible refine (field_nil n _ _).mono ?_); rintro r w6 ⟨rfl, hf6⟩; have HV6 := Lib.hid ((fr_al HV5.out (.cells #[.int .i64 0, .int .i64 0, .int .i64 0, .string ⟨#[]⟩, .slice none 0 0] 38)).trans hf6); have HC6 := Lib.hid (hf6.cell HC5.out id); clear hf6)
        | (go_at_call 9; (with_reducible refine (awake_of _).mono ?_); rintro r w7 ⟨rfl, hf7⟩; have HV7 := Lib.hid ((fr_al HV6.out (.cells #[.string ⟨#[]⟩, .int .i64 0, .int .i64 0] 53)).trans hf7); have c7 := hf7.cell ((fr_al (Fr.refl (fun _ => False) w6) (.cells #[.string ⟨#[]⟩, .int .i64 0, .int .i64 0] 53)).cell HC6.out id) id; have d0 := hf7.cell (fcell w6 #[.string ⟨#[]⟩, .int .i64 0, .int .i64 0] 53 0 _ rfl) id; have d1 := hf7.cell (fcell w6 #[.string ⟨#[]⟩, .int .i64 0, .int .i64 0] 53 1 _ rfl) id; have d2 := hf7.cell (fcell w6 #[.string ⟨#[]⟩, .int .i64 0, .int .i64 0] 53 2 _ rfl) id; clear hf7)
        | (go_at_call 20; (with_reducible refine (count_nil _).mono ?_); rintro r wc ⟨rfl, rfl⟩)
        | (go_at_call 14; (with_reducible refine (size_nil n _).mono ?_); rintro r w8 ⟨rfl, hf8⟩; have HV8 := Lib.hid (HV7.out.trans hf8); clear hf8)
        | (go_at_call 16; (with_reducible refine (align_nil n _).mono ?_); rintro r w9 ⟨rfl, hf9⟩; have HV9 := Lib.hid (HV8.out.trans hf9); clear hf9)
        | (go_at_call 19; (with_reducible refine (scalar_nil n _).mono ?_); rintro r w10 ⟨rfl, hf10⟩; have HV10 := Lib.hid (HV9.out.trans hf10); clear hf10))
      go_ret
      exact ⟨rfl, HV10.out⟩
end Go.Proofs.Ytlhkhgkgjdfcgaa
