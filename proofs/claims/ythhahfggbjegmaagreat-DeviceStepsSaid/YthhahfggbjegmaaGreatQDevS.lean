/-
  The contract of tell at the port of records (layer 3): an append to the log in a machine's cell. The contracts of slices.Clone at bytes, at words and at records (layer 3's callees).
-/
import Derived.Test.YthhahfggbjegmaaGreatQDevC
import Derived.Test.YthhahfggbjegmaaGreatQDevN
import Derived.Deep.RegionLaw
import Derived.Deep.AppendLies
import Derived.Outline
import Derived.WalkSpells
namespace Go.Proofs.YthhahfggbjegmaaGreat
open Go.RowKit
set_option linter.unusedVariables false
set_option linter.unusedSimpArgs false
theorem info66 : (Tryz.prog.info? 63).map (fun i => (i.zero, i.size, i.bytes)) = some (some (.agg #[.int .u32 0, .int .u32 0]), 2, 8) := by kernel_rfl
set_option maxRecDepth 100000 in
set_option maxHeartbeats 3200000 in
theorem dv95_out (b : Nat) (v q : Int) (ov : Value) (base n : Nat) (xs : List Value) (w : World)
    (h38 : w.cell? ⟨b, 38, none⟩ = some ov) (h33 : w.cell? ⟨b, 33, none⟩ = some (.int .u32 q)) (hf : w.frozen? ⟨b, 38, none⟩ = false)
    (hown : w.ownsRow base 63 2 ov n xs) (hbase : base ≤ w.heap.size) (hn : n + 1 ≤ 1000000) (ag : ov.ownBlock ≠ some b) :
    Calls Tryz.prog 92 #[.pointer (some ⟨b, 0, none⟩), .int .u32 536870916, .int .u32 v] w fun e w' => e = .returned (.bool true) ∧ ∃ gg cap w1 j,
      w1.ownsRow base 63 2 (.slice (some ⟨gg, 0, none⟩) (n + 1) cap) (n + 1) (xs ++ [.int .u32 q, .int .u32 v]) ∧ Fr (fun k => ov.ownBlock = some k) w w1 ∧ (ov.ownBlock = some gg ∨ w.heap.size ≤ gg) ∧
      w' = (w1.setCell ⟨b, 38, none⟩ (.slice (some ⟨gg, 0, none⟩) (n + 1) cap)).drewN j := by
  obtain ⟨i0, hi0, hz0, hz1, hz2⟩ := info_parts info66
  have lg := World.block_lt_of_cell? w _ h38
  have hfA : ∀ o : Obj, (w.alloc o).frozen? ⟨b, 38, none⟩ = false := fun o => ((World.grownBy_alloc w o none).frozen_far ⟨b, 38, none⟩ lg (by simp)).trans hf
  have hA38 : ∀ o : Obj, (w.alloc o).cell? ⟨b, 38, none⟩ = some ov := fun o => ((World.grownBy_alloc w o none).cell_far ⟨b, 38, none⟩ lg (by simp)).trans h38
  go_enter Tryz.func92, Tryz.ntmps92
  go_wp2_with fail
  go_region_law
    ((refine step_append_lies _ (by rfl) _ _ _ (by rfl) base 63 i0 _ 2 8 Tryz.underlying35 hi0 hz0 hz1 hz2 rfl (by omega) ov n xs (by rfl) ((hown.alloc _).drew)
        ⟨w.heap.size, 0, none⟩ 1 1 [.int .u32 q, .int .u32 v] (by rfl) (by rfl) (World.news_of_block (cs := #[.int .u32 q, .int .u32 v]) (t := 63) (fr := (0, 0)) (heap_alloc_new w _)) (by simp [Value.oneCell'])
        (by omega) (by unfold maxLen; omega) (by omega) (by simp; omega) (w.heap.size + 1) (by simp) ?_; intro gg cap w1 hown1 hgrow hat hlt; have c38 : w1.cell? ⟨b, 38, none⟩ = some ov := (hgrow.cell_far _ (by simp; omega) (Ne.symm ag)).trans (hA38 _); have f38 : w1.frozen? ⟨b, 38, none⟩ = false := (hgrow.frozen_far _ (by simp; omega) (Ne.symm ag)).trans (hfA _)))
  all_goals
    go_wp2
    go_ret
    exact ⟨rfl, gg, cap, w1, 0, hown1, (Fr.of_by0 (byDrewN (byAlloc (byRefl w) _) 1)).trans ((Fr.of_by hgrow).mono (fun k _ e => e.symm ▸ rfl)), hat.imp id (fun e => by omega), rfl⟩
theorem info6 : (Tryz.prog.info? 5).map (fun i => (i.zero, i.size, i.bytes)) = some (some (.int .u8 0), 1, 1) := by kernel_rfl
theorem info24 : (Tryz.prog.info? 40).map (fun i => (i.zero, i.size, i.bytes)) = some (some (.int .u32 0), 1, 4) := by kernel_rfl
theorem dv57_nil (w : World) : Calls Tryz.prog 24 #[.slice none 0 0] w fun e w' => e = .returned (.slice none 0 0) ∧ w = w' := by
  have q40 : ∀ (w : World) (a : Option Addr) (n c n' c' : Nat), (binOp .eql 23 (.slice a n c) (.slice none n' c')).run Tryz.prog w = .ok (.bool a.isNone) w := fun w a n c n' c' => Lib.run_eql_slice_nil w _ _ a n c n' c' Tryz.underlying23
  go_enter Tryz.func24, Tryz.ntmps24
  go_wp2
  go_ret
  exact ⟨rfl, rfl⟩
theorem dv58_nil (w : World) : Calls Tryz.prog 25 #[.slice none 0 0] w fun e w' => e = .returned (.slice none 0 0) ∧ w = w' := by
  have q39 : ∀ (w : World) (a : Option Addr) (n c n' c' : Nat), (binOp .eql 22 (.slice a n c) (.slice none n' c')).run Tryz.prog w = .ok (.bool a.isNone) w := fun w a n c n' c' => Lib.run_eql_slice_nil w _ _ a n c n' c' Tryz.underlying22
  go_enter Tryz.func25, Tryz.ntmps25
  go_wp2
  go_ret
  exact ⟨rfl, rfl⟩
theorem dv61_nil (w : World) : Calls Tryz.prog 28 #[.slice none 0 0] w fun e w' => e = .returned (.slice none 0 0) ∧ w = w' := by
  have q50 : ∀ (w : World) (a : Option Addr) (n c n' c' : Nat), (binOp .eql 35 (.slice a n c) (.slice none n' c')).run Tryz.prog w = .ok (.bool a.isNone) w := fun w a n c n' c' => Lib.run_eql_slice_nil w _ _ a n c n' c' Tryz.underlying35
  go_enter Tryz.func28, Tryz.ntmps28
  go_wp2
  go_ret
  exact ⟨rfl, rfl⟩
def Cloned (E size m : Nat) (xs : List Value) (w : World) (e : Ending) (w' : World) : Prop :=
  ∃ v', e = .returned v' ∧ v' ≠ .slice none 0 0 ∧ w'.ownsRow w.heap.size E size v' m xs ∧ w.grownBy w' none
theorem dv57 (ad : Addr) (m c : Nat) (xs : List Value) (hl : xs.length = m) (hm : m ≤ 1000000) (w : World) (hc : ∀ j u, xs[j]? = some u → w.cell? (ad.add j) = some u) (h1 : ∀ u ∈ xs, u.oneCell' = true) :
    Calls Tryz.prog 24 #[.slice (some ad) m c] w (Cloned 5 1 m xs w) := by
  obtain ⟨i0, hi, hz0, hz1, hz2⟩ := info_parts info6
  have hown : ∀ t, (w.alloc (.cells #[] t)).ownsRow w.heap.size t 1 (.slice (some ⟨w.heap.size, 0, none⟩) 0 0) 0 [] := fun t => World.ownsRow_made (e := t) (size := 1) w #[] 0 (Nat.le_refl _) (by decide) (by simp)
  have hc2 : ∀ o : Obj, ∀ j u, xs[j]? = some u → (w.alloc o).cell? (ad.add j) = some u := fun o j u h => (World.grownBy_alloc w o none).cell (hc j u h) (by simp)
  have HO := Lib.hid hown
  have HC := Lib.hid hc2
  have H1 := Lib.hid h1
  have HL : Hid (xs.length = m * 1) := Lib.hid (by omega)
  clear hown hc hc2 h1 hl
  have q40 : ∀ (w : World) (a : Option Addr) (n c n' c' : Nat), (binOp .eql 23 (.slice a n c) (.slice none n' c')).run Tryz.prog w = .ok (.bool a.isNone) w := fun w a n c n' c' => Lib.run_eql_slice_nil w _ _ a n c n' c' Tryz.underlying23
  go_enter Tryz.func24, Tryz.ntmps24
  go_wp2_with (at_builtin; refine wpList_append_own_at _ rfl _ _ 23 rfl w.heap.size 5 i0 (.int .u8 0) 1 1 Tryz.underlying23 hi hz0 hz1 hz2 rfl (by decide) (.slice (some ⟨w.heap.size, 0, none⟩) 0 0) 0 [] (by rfl) (HO.out _) ad m c xs (by rfl) HL.out (HC.out _) H1.out (by unfold maxLen; omega) (by omega) (by simp) ?_; intro v' w1 hown' hgrow hnil hat)
  go_ret
  refine ⟨v', rfl, fun e => ?_, by simpa using hown', ⟨hgrow.os, hgrow.tape, hgrow.output, Nat.le_trans (by simp) hgrow.size, fun k hk _ => (hgrow.block k (by simp; omega) (by simp [Value.ownBlock]; omega)).trans (heap_alloc_old w _ hk)⟩⟩
  have := hnil.1 e
  simp at this
theorem dv58 (ad : Addr) (m c : Nat) (xs : List Value) (hl : xs.length = m) (hm : m ≤ 1000000) (w : World) (hc : ∀ j u, xs[j]? = some u → w.cell? (ad.add j) = some u) (h1 : ∀ u ∈ xs, u.oneCell' = true) :
    Calls Tryz.prog 25 #[.slice (some ad) m c] w (Cloned 40 1 m xs w) := by
  obtain ⟨i0, hi, hz0, hz1, hz2⟩ := info_parts info24
  have hown : ∀ t, (w.alloc (.cells #[] t)).ownsRow w.heap.size t 1 (.slice (some ⟨w.heap.size, 0, none⟩) 0 0) 0 [] := fun t => World.ownsRow_made (e := t) (size := 1) w #[] 0 (Nat.le_refl _) (by decide) (by simp)
  have hc2 : ∀ o : Obj, ∀ j u, xs[j]? = some u → (w.alloc o).cell? (ad.add j) = some u := fun o j u h => (World.grownBy_alloc w o none).cell (hc j u h) (by simp)
  have HO := Lib.hid hown
  have HC := Lib.hid hc2
  have H1 := Lib.hid h1
  have HL : Hid (xs.length = m * 1) := Lib.hid (by omega)
  clear hown hc hc2 h1 hl
  have q39 : ∀ (w : World) (a : Option Addr) (n c n' c' : Nat), (binOp .eql 22 (.slice a n c) (.slice none n' c')).run Tryz.prog w = .ok (.bool a.isNone) w := fun w a n c n' c' => Lib.run_eql_slice_nil w _ _ a n c n' c' Tryz.underlying22
  go_enter Tryz.func25, Tryz.ntmps25
  go_wp2_with (at_builtin; refine wpList_append_own_at _ rfl _ _ 22 rfl w.heap.size 40 i0 (.int .u32 0) 1 4 Tryz.underlying22 hi hz0 hz1 hz2 rfl (by decide) (.slice (some ⟨w.heap.size, 0, none⟩) 0 0) 0 [] (by rfl) (HO.out _) ad m c xs (by rfl) HL.out (HC.out _) H1.out (by unfold maxLen; omega) (by omega) (by simp) ?_; intro v' w1 hown' hgrow hnil hat)
  go_ret
  refine ⟨v', rfl, fun e => ?_, by simpa using hown', ⟨hgrow.os, hgrow.tape, hgrow.output, Nat.le_trans (by simp) hgrow.size, fun k hk _ => (hgrow.block k (by simp; omega) (by simp [Value.ownBlock]; omega)).trans (heap_alloc_old w _ hk)⟩⟩
  have := hnil.1 e
  simp at this
theorem dv61 (ad : Addr) (m c : Nat) (xs : List Value) (hl : xs.length = m * 2) (hm : m ≤ 1000000) (w : World) (hc : ∀ j u, xs[j]? = some u → w.cell? (ad.add j) = some u) (h1 : ∀ u ∈ xs, u.oneCell' = true) :
    Calls Tryz.prog 28 #[.slice (some ad) m c] w (Cloned 63 2 m xs w) := by
  obtain ⟨i0, hi, hz0, hz1, hz2⟩ := info_parts info66
  have hown : ∀ t, (w.alloc (.cells #[] t)).ownsRow w.heap.size t 2 (.slice (some ⟨w.heap.size, 0, none⟩) 0 0) 0 [] := fun t => World.ownsRow_made (e := t) (size := 2) w #[] 0 (Nat.le_refl _) (by decide) (by simp)
  have hc2 : ∀ o : Obj, ∀ j u, xs[j]? = some u → (w.alloc o).cell? (ad.add j) = some u := fun o j u h => (World.grownBy_alloc w o none).cell (hc j u h) (by simp)
  have HO := Lib.hid hown
  have HC := Lib.hid hc2
  have H1 := Lib.hid h1
  have HL : Hid (xs.length = m * 2) := Lib.hid (by omega)
  clear hown hc hc2 h1 hl
  have q50 : ∀ (w : World) (a : Option Addr) (n c n' c' : Nat), (binOp .eql 35 (.slice a n c) (.slice none n' c')).run Tryz.prog w = .ok (.bool a.isNone) w := fun w a n c n' c' => Lib.run_eql_slice_nil w _ _ a n c n' c' Tryz.underlying35
  go_enter Tryz.func28, Tryz.ntmps28
  go_wp2_with (at_builtin; refine wpList_append_own_at _ rfl _ _ 35 rfl w.heap.size 63 i0 (.agg #[.int .u32 0, .int .u32 0]) 2 8 Tryz.underlying35 hi hz0 hz1 hz2 rfl (by decide) (.slice (some ⟨w.heap.size, 0, none⟩) 0 0) 0 [] (by rfl) (HO.out _) ad m c xs (by rfl) HL.out (HC.out _) H1.out (by unfold maxLen; omega) (by omega) (by simp) ?_; intro v' w1 hown' hgrow hnil hat)
  go_ret
  refine ⟨v', rfl, fun e => ?_, by simpa using hown', ⟨hgrow.os, hgrow.tape, hgrow.output, Nat.le_trans (by simp) hgrow.size, fun k hk _ => (hgrow.block k (by simp; omega) (by simp [Value.ownBlock]; omega)).trans (heap_alloc_old w _ hk)⟩⟩
  have := hnil.1 e
  simp at this
end Go.Proofs.YthhahfggbjegmaaGreat
