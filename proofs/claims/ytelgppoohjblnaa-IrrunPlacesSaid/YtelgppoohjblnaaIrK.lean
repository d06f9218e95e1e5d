/-
  Runs (layer 14): main is entered.
-/
import Derived.Test.YtelgppoohjblnaaIrJ
import Derived.Deep.RegionHeld3
import Derived.Laws.CopyOwn
import Derived.Deep.CutRange
namespace Go.Proofs.Ytelgppoohjblnaa
open Go.RowKit
set_option linter.unusedVariables false
set_option linter.unusedSimpArgs false
def EnterC (mb bp bb fb fc : Nat) (o ns ex e gl da inp fu me at_ : Value) (w wx : World) (cb : Nat) : Prop := ∃ cap rb, w.heap.size ≤ cb ∧ w.heap.size ≤ rb ∧ cb ≠ rb ∧ RW wx mb (mch o ns ex e gl da (.slice (some ⟨bp, 0, none⟩) 1 1) (.int .i64 0) inp fu me at_ (.int .i64 4096) (.slice (some ⟨fb, 0, none⟩) 1 fc) (.slice (some ⟨cb, 0, none⟩) 1 cap)) ∧ RW wx cb (cll (.slice (some ⟨rb, 0, none⟩) 1 1) (.int .i64 0) (.pointer (some ⟨bb, 0, none⟩)) (.int .i64 0) (.int .i64 65536) (.int .i64 (-1))) ∧ RW wx rb #[.int .u32 0] ∧ Fr (fun k => k = mb) w wx
theorem EnterC.mk (mb bp bb fb fc : Nat) (o ns ex e gl da inp fu me at_ : Value) {w w2 : World} {cb cap : Nat} (hcb : w.heap.size ≤ cb) (hm : RW w2 mb (mch o ns ex e gl da (.slice (some ⟨bp, 0, none⟩) 1 1) (.int .i64 0) inp fu me at_ (.int .i64 4096) (.slice (some ⟨fb, 0, none⟩) 1 fc) (.slice (some ⟨cb, 0, none⟩) 1 cap))) (hc : RW w2 cb (cll (.slice none 0 0) (.int .i64 0) (.pointer none) (.int .i64 0) (.int .i64 0) (.int .i64 0))) (hf : Fr (fun k => k = mb) w w2) (hmb : mb < w.heap.size) (n : Nat) :
    EnterC mb bp bb fb fc o ns ex e gl da inp fu me at_ w ((((((((w2.alloc (.cells #[.int .u32 0] 22)).setCell ⟨cb, 0, none⟩ (.slice (some ⟨w2.heap.size, 0, none⟩) 1 1)).setCell ⟨cb, 1, none⟩ (.int .i64 0)).setCell ⟨cb, 2, none⟩ (.pointer (some ⟨bb, 0, none⟩))).setCell ⟨cb, 3, none⟩ (.int .i64 0)).setCell ⟨cb, 4, none⟩ (.int .i64 65536)).setCell ⟨cb, 5, none⟩ (.int .i64 (-1))).drewN n) cb := by
  have hl := hc.lt (by show 0 < 6; decide)
  have a1 := fr_al (Fr.refl (fun _ => False) w2) (.cells #[.int .u32 0] 22)
  have a2 : Fr (fun k => k = cb) (w2.alloc (.cells #[.int .u32 0] 22)) _ := (((((Fr.setCell (F := fun k => k = cb) (w2.alloc (.cells #[.int .u32 0] 22)) ⟨cb, 0, none⟩ (.slice (some ⟨w2.heap.size, 0, none⟩) 1 1) rfl).trans (Fr.setCell _ ⟨cb, 1, none⟩ (.int .i64 0) rfl)).trans (Fr.setCell _ ⟨cb, 2, none⟩ (.pointer (some ⟨bb, 0, none⟩)) rfl)).trans (Fr.setCell _ ⟨cb, 3, none⟩ (.int .i64 0) rfl)).trans (Fr.setCell _ ⟨cb, 4, none⟩ (.int .i64 65536) rfl)).trans (Fr.setCell _ ⟨cb, 5, none⟩ (.int .i64 (-1)) rfl)
  refine ⟨cap, w2.heap.size, hcb, hf.size, by omega, ((hm.fr a1 id).fr a2 (by omega)).drew n, ?_, ((RW.new w2 _ _).fr a2 (by omega)).drew n, ((hf.trans (a1.mono (fun _ _ x => x.elim))).trans' a2 (fun j hj e => by omega)).drewN n⟩
  exact (((((((hc.fr a1 id).set (i := 0) (by show 0 < 6; decide)).set (i := 1) (by show 1 < 6; decide)).set (i := 2) (by show 2 < 6; decide)).set (i := 3) (by show 3 < 6; decide)).set (i := 4) (by show 4 < 6; decide)).set (i := 5) (by show 5 < 6; decide)).drew n
def EnterP (mb bp bb fb fc : Nat) (o ns ex e gl da inp fu me at_ : Value) (w : World) (en : Ending) (w' : World) : Prop := en = .returned (.tuple #[]) ∧ ∃ cb cap rb, w.heap.size ≤ cb ∧ w.heap.size ≤ rb ∧ cb ≠ rb ∧ RW w' mb (mch o ns ex e gl da (.slice (some ⟨bp, 0, none⟩) 1 1) (.int .i64 0) inp fu me at_ (.int .i64 4096) (.slice (some ⟨fb, 0, none⟩) 1 fc) (.slice (some ⟨cb, 0, none⟩) 1 cap)) ∧ RW w' cb (cll (.slice (some ⟨rb, 0, none⟩) 1 1) (.int .i64 0) (.pointer (some ⟨bb, 0, none⟩)) (.int .i64 0) (.int .i64 65536) (.int .i64 (-1))) ∧ RW w' rb #[.int .u32 0] ∧ Fr (fun k => k = mb) w w'
theorem keepE {w2 w' : World} {cb bp bb : Nat} (hf : Fr (fun _ => False) w2 w') (hc : RW w2 cb (cll (.slice none 0 0) (.int .i64 0) (.pointer none) (.int .i64 0) (.int .i64 0) (.int .i64 0))) (p3 : w2.cell? ⟨bp, 3, none⟩ = some (.int .i64 1)) (p5 : w2.cell? ⟨bp, 5, none⟩ = some (.slice (some ⟨bb, 0, none⟩) 1 1)) : Fr (fun _ => False) w2 w' ∧ w'.cell? ⟨cb, 0, none⟩ = some (.slice none 0 0) ∧ w'.cell? ⟨cb, 1, none⟩ = some (.int .i64 0) ∧ w'.cell? ⟨cb, 2, none⟩ = some (.pointer none) ∧ w'.cell? ⟨cb, 3, none⟩ = some (.int .i64 0) ∧ w'.cell? ⟨cb, 4, none⟩ = some (.int .i64 0) ∧ w'.cell? ⟨cb, 5, none⟩ = some (.int .i64 0) ∧ w'.frozen? ⟨cb, 0, none⟩ = false ∧ w'.frozen? ⟨cb, 1, none⟩ = false ∧ w'.frozen? ⟨cb, 2, none⟩ = false ∧ w'.frozen? ⟨cb, 3, none⟩ = false ∧ w'.frozen? ⟨cb, 4, none⟩ = false ∧ w'.frozen? ⟨cb, 5, none⟩ = false ∧ w'.cell? ⟨bp, 3, none⟩ = some (.int .i64 1) ∧ w'.cell? ⟨bp, 5, none⟩ = some (.slice (some ⟨bb, 0, none⟩) 1 1) := by
  have h := hc.fr hf id
  exact ⟨hf, h.1 0 _ rfl, h.1 1 _ rfl, h.1 2 _ rfl, h.1 3 _ rfl, h.1 4 _ rfl, h.1 5 _ rfl, h.2 0 (by show 0 < 6; decide), h.2 1 (by show 1 < 6; decide), h.2 2 (by show 2 < 6; decide), h.2 3 (by show 3 < 6; decide), h.2 4 (by show 4 < 6; decide), h.2 5 (by show 5 < 6; decide), hf.cell p3 id, hf.cell p5 id⟩
set_option maxRecDepth 100000 in
set_option maxHeartbeats 2000000 in
theorem enter_main (mb bp bb fb fc : Nat) (o ns ex e gl da inp fu me at_ : Value) (w : World) (h : RW w mb (mch o ns ex e gl da (.slice (some ⟨bp, 0, none⟩) 1 1) (.int .i64 0) inp fu me at_ (.int .i64 4096) (.slice (some ⟨fb, 0, none⟩) 1 fc) (.slice none 0 0))) (hp : Row w bp #[.string ⟨#[]⟩, .bool false, .int .i64 0, .int .i64 1, .slice none 0 0, .slice (some ⟨bb, 0, none⟩) 1 1]) (hz : w.cell? ⟨fb, 1, none⟩ = some (.int .i64 0)) (hne : mb ≠ bp) : Calls Try.prog 26 #[.pointer (some ⟨mb, 0, none⟩), .int .i64 0, .slice none 0 0, .int .i64 (-1)] w (EnterP mb bp bb fb fc o ns ex e gl da inp fu me at_ w) := by
  have c6 : w.cell? ⟨mb, 6, none⟩ = some (.slice (some ⟨bp, 0, none⟩) 1 1) := h.1 6 _ rfl
  have zc6 : w.frozen? ⟨mb, 6, none⟩ = false := h.2 6 (by show 6 < 15; decide)
  have c8 : w.cell? ⟨mb, 8, none⟩ = some (inp) := h.1 8 _ rfl
  have zc8 : w.frozen? ⟨mb, 8, none⟩ = false := h.2 8 (by show 8 < 15; decide)
  have c12 : w.cell? ⟨mb, 12, none⟩ = some (.int .i64 4096) := h.1 12 _ rfl
  have zc12 : w.frozen? ⟨mb, 12, none⟩ = false := h.2 12 (by show 12 < 15; decide)
  have c13 : w.cell? ⟨mb, 13, none⟩ = some (.slice (some ⟨fb, 0, none⟩) 1 fc) := h.1 13 _ rfl
  have zc13 : w.frozen? ⟨mb, 13, none⟩ = false := h.2 13 (by show 13 < 15; decide)
  have c14 : w.cell? ⟨mb, 14, none⟩ = some (.slice none 0 0) := h.1 14 _ rfl
  have zc14 : w.frozen? ⟨mb, 14, none⟩ = false := h.2 14 (by show 14 < 15; decide)
  have HH := Lib.hid h
  have HP := Lib.hid hp
  have bpl : bp < w.heap.size := World.block_lt_of_cell? w _ (hp 0 _ rfl)
  have mbl := h.lt (by show 0 < 15; decide)
  clear h hp
  go_enter Try.func26, Try.ntmps26
  go_wp2_with (go_at_call 45; (with_reducible refine (push_new mb o ns ex e gl da (.slice (some ⟨bp, 0, none⟩) 1 1) (.int .i64 0) inp fu me at_ (.int .i64 4096) (.slice (some ⟨fb, 0, none⟩) 1 fc) _ HH.out).mono ?_); rintro en w2 ⟨cb, cap, rfl, hcb, hm, hc, hf⟩; have HM := Lib.hid hm; have HC := Lib.hid hc; have HF := Lib.hid hf; have c0 : w2.cell? ⟨cb, 0, none⟩ = some (.slice none 0 0) := hc.1 0 _ rfl; have p3 : w2.cell? ⟨bp, 3, none⟩ = some (.int .i64 1) := hf.cell (HP.out 3 _ rfl) (fun e => hne e.symm); have p5 : w2.cell? ⟨bp, 5, none⟩ = some (.slice (some ⟨bb, 0, none⟩) 1 1) := hf.cell (HP.out 5 _ rfl) (fun e => hne e.symm); clear hm hc hf c6 zc6 c8 zc8 c12 zc12 c13 zc13 c14 zc14 hz)
  go_cut [] from 59 to 78 (fun wx => Hid (EnterC mb bp bb fb fc o ns ex e gl da inp fu me at_ w wx cb))
  case first =>
    have HC2 := Lib.hid (HC.out.fr (fr_al (Fr.refl (fun _ => False) _) (.cells #[.int .u32 0] 22)) id)
    have HM2 := Lib.hid (HM.out.fr (fr_al (Fr.refl (fun _ => False) _) (.cells #[.int .u32 0] 22)) id)
    have HF2 := Lib.hid (HF.out.trans (fr_al (Fr.refl (fun k => k = mb) _) (.cells #[.int .u32 0] 22)))
    have HN2 := Lib.hid (RW.new w2 #[.int .u32 0] 22)
    have r5 : (w2.alloc (.cells #[.int .u32 0] 22)).cell? ⟨bp, 5, none⟩ = some (.slice (some ⟨bb, 0, none⟩) 1 1) := (fr_al (Fr.refl (fun _ => False) _) _).cell p5 id
    have q1 : w2.cell? ⟨cb, 1, none⟩ = some (.int .i64 0) := HC.out.1 1 _ rfl
    have yq1 : w2.frozen? ⟨cb, 1, none⟩ = false := HC.out.2 1 (by show 1 < 6; decide)
    have q2 : w2.cell? ⟨cb, 2, none⟩ = some (.pointer none) := HC.out.1 2 _ rfl
    have yq2 : w2.frozen? ⟨cb, 2, none⟩ = false := HC.out.2 2 (by show 2 < 6; decide)
    have q3 : w2.cell? ⟨cb, 3, none⟩ = some (.int .i64 0) := HC.out.1 3 _ rfl
    have yq3 : w2.frozen? ⟨cb, 3, none⟩ = false := HC.out.2 3 (by show 3 < 6; decide)
    have q4 : w2.cell? ⟨cb, 4, none⟩ = some (.int .i64 0) := HC.out.1 4 _ rfl
    have yq4 : w2.frozen? ⟨cb, 4, none⟩ = false := HC.out.2 4 (by show 4 < 6; decide)
    have q5 : w2.cell? ⟨cb, 5, none⟩ = some (.int .i64 0) := HC.out.1 5 _ rfl
    have yq5 : w2.frozen? ⟨cb, 5, none⟩ = false := HC.out.2 5 (by show 5 < 6; decide)
    have s0 : (w2.alloc (.cells #[.int .u32 0] 22)).cell? ⟨cb, 0, none⟩ = some (.slice none 0 0) := HC2.out.1 0 _ rfl
    have ys0 : (w2.alloc (.cells #[.int .u32 0] 22)).frozen? ⟨cb, 0, none⟩ = false := HC2.out.2 0 (by show 0 < 6; decide)
    have s1 : (w2.alloc (.cells #[.int .u32 0] 22)).cell? ⟨cb, 1, none⟩ = some (.int .i64 0) := HC2.out.1 1 _ rfl
    have ys1 : (w2.alloc (.cells #[.int .u32 0] 22)).frozen? ⟨cb, 1, none⟩ = false := HC2.out.2 1 (by show 1 < 6; decide)
    have s2 : (w2.alloc (.cells #[.int .u32 0] 22)).cell? ⟨cb, 2, none⟩ = some (.pointer none) := HC2.out.1 2 _ rfl
    have ys2 : (w2.alloc (.cells #[.int .u32 0] 22)).frozen? ⟨cb, 2, none⟩ = false := HC2.out.2 2 (by show 2 < 6; decide)
    have s3 : (w2.alloc (.cells #[.int .u32 0] 22)).cell? ⟨cb, 3, none⟩ = some (.int .i64 0) := HC2.out.1 3 _ rfl
    have ys3 : (w2.alloc (.cells #[.int .u32 0] 22)).frozen? ⟨cb, 3, none⟩ = false := HC2.out.2 3 (by show 3 < 6; decide)
    have s4 : (w2.alloc (.cells #[.int .u32 0] 22)).cell? ⟨cb, 4, none⟩ = some (.int .i64 0) := HC2.out.1 4 _ rfl
    have ys4 : (w2.alloc (.cells #[.int .u32 0] 22)).frozen? ⟨cb, 4, none⟩ = false := HC2.out.2 4 (by show 4 < 6; decide)
    have s5 : (w2.alloc (.cells #[.int .u32 0] 22)).cell? ⟨cb, 5, none⟩ = some (.int .i64 0) := HC2.out.1 5 _ rfl
    have ys5 : (w2.alloc (.cells #[.int .u32 0] 22)).frozen? ⟨cb, 5, none⟩ = false := HC2.out.2 5 (by show 5 < 6; decide)
    go_region_with (go_at_call 46; (with_reducible refine (cleared_new _).mono ?_); rintro e w5 ⟨rfl, rfl⟩)
    all_goals go_wp2_with fail
    all_goals go_meet
    all_goals exact Lib.hid (EnterC.mk mb bp bb fb fc o ns ex e gl da inp fu me at_ hcb HM.out HC.out HF.out mbl 1)
  case rest =>
    obtain ⟨cap', rb, h1, h2, h3, hm, hc, hr, hf⟩ := hcut.out
    have s0 := hc.1 0 (.slice (some ⟨rb, 0, none⟩) 1 1) rfl
    have HE := Lib.hid (show EnterP mb bp bb fb fc o ns ex e gl da inp fu me at_ w (.returned (.tuple #[])) _ from ⟨rfl, cb, cap', rb, h1, h2, h3, hm, hc, hr, hf⟩)
    clear c0
    clear hm hc hr hf h1 h2 h3 hcut
    go_wp2_with (with_reducible refine wpList_copy_nothing rfl _ _ _ _ rfl 22 rfl (by kernel_rfl) _ _ _ _ _ _ rfl rfl rfl ?_)
    go_end0
    exact HE.out
end Go.Proofs.Ytelgppoohjblnaa
