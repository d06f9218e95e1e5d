/-
  The contract of tell at the port of records (layer 3): an append to the log in a machine's cell.
-/
import Derived.Test.YtipfefkddnogjaaDevG
import Derived.Test.YtipfefkddnogjaaDevO
import Derived.Deep.RegionLaw
import Derived.Deep.AppendLies
import Derived.Outline
namespace Go.Proofs.Ytipfefkddnogjaa
open Go.RowKit
set_option linter.unusedVariables false
set_option linter.unusedSimpArgs false
theorem info66 : (Try.prog.info? 66).map (fun i => (i.zero, i.size, i.bytes)) = some (some (.agg #[.int .u32 0, .int .u32 0]), 2, 8) := by kernel_rfl
set_option maxRecDepth 100000 in
set_option maxHeartbeats 3200000 in
theorem c95_out (b : Nat) (v q : Int) (ov : Value) (base n : Nat) (xs : List Value) (w : World)
    (h38 : w.cell? ⟨b, 38, none⟩ = some ov) (h33 : w.cell? ⟨b, 33, none⟩ = some (.int .u32 q)) (hf : w.frozen? ⟨b, 38, none⟩ = false)
    (hown : w.ownsRow base 66 2 ov n xs) (hbase : base ≤ w.heap.size) (hn : n + 1 ≤ 1000000) (ag : ov.ownBlock ≠ some b) :
    Calls Try.prog 95 #[.pointer (some ⟨b, 0, none⟩), .int .u32 536870916, .int .u32 v] w fun e w' => e = .returned (.bool true) ∧ ∃ gg cap w1 j,
      w1.ownsRow base 66 2 (.slice (some ⟨gg, 0, none⟩) (n + 1) cap) (n + 1) (xs ++ [.int .u32 q, .int .u32 v]) ∧ Fr (fun k => ov.ownBlock = some k) w w1 ∧ (ov.ownBlock = some gg ∨ w.heap.size ≤ gg) ∧
      w' = (w1.setCell ⟨b, 38, none⟩ (.slice (some ⟨gg, 0, none⟩) (n + 1) cap)).drewN j := by
  obtain ⟨i0, hi0, hz0, hz1, hz2⟩ := info_parts info66
  have lg := World.block_lt_of_cell? w _ h38
  have hfA : ∀ o : Obj, (w.alloc o).frozen? ⟨b, 38, none⟩ = false := fun o => ((World.grownBy_alloc w o none).frozen_far ⟨b, 38, none⟩ lg (by simp)).trans hf
  have hA38 : ∀ o : Obj, (w.alloc o).cell? ⟨b, 38, none⟩ = some ov := fun o => ((World.grownBy_alloc w o none).cell_far ⟨b, 38, none⟩ lg (by simp)).trans h38
  go_enter Try.func95, Try.ntmps95
  go_wp2_with fail
  go_region_law
    ((refine step_append_lies _ (by rfl) _ _ _ (by rfl) base 66 i0 _ 2 8 Try.underlying50 hi0 hz0 hz1 hz2 rfl (by omega) ov n xs (by rfl) ((hown.alloc _).drew)
        ⟨w.heap.size, 0, none⟩ 1 1 [.int .u32 q, .int .u32 v] (by rfl) (by rfl) (World.news_of_block (cs := #[.int .u32 q, .int .u32 v]) (t := 66) (fr := (0, 0)) (heap_alloc_new w _)) (by simp [Value.oneCell'])
        (by omega) (by unfold maxLen; omega) (by omega) (by simp; omega) (w.heap.size + 1) (by simp) ?_; intro gg cap w1 hown1 hgrow hat hlt; have c38 : w1.cell? ⟨b, 38, none⟩ = some ov := (hgrow.cell_far _ (by simp; omega) (Ne.symm ag)).trans (hA38 _); have f38 : w1.frozen? ⟨b, 38, none⟩ = false := (hgrow.frozen_far _ (by simp; omega) (Ne.symm ag)).trans (hfA _)))
  all_goals
    go_wp2
    go_ret
    exact ⟨rfl, gg, cap, w1, 0, hown1, (Fr.of_by0 (byDrewN (byAlloc (byRefl w) _) 1)).trans ((Fr.of_by hgrow).mono (fun k _ e => e.symm ▸ rfl)), hat.imp id (fun e => by omega), rfl⟩
end Go.Proofs.Ytipfefkddnogjaa
