/-
  Tables of types (layer 8): add.
-/
import Derived.Test.YtlhkhgkgjdfcgaaQKindE
import Derived.Deep.RegionLaw
import Derived.Deep.AppendLies
import Derived.Outline
namespace Go.Proofs.Ytlhkhgkgjdfcgaa
open Go.RowKit
set_option linter.unusedVariables false
set_option linter.unusedSimpArgs false
theorem info_entry : (Try.prog.info? 72).map (fun i => (i.zero, i.size, i.bytes)) = some (some (.agg zeros7), 7, 80) := by kernel_rfl
/-- What a call leaves that turned a table into one of these types. -/
def TOk (base : Nat) (tb : Nat) (v : Value) (w w' : World) (es : List Ent) : Prop :=
  ∃ v', TabAt base w' tb v' es ∧ Fr (fun k => k = tb ∨ v.ownBlock = some k) w w' ∧ (∀ g, v'.ownBlock = some g → v.ownBlock = some g ∨ w.heap.size ≤ g)
theorem TabAt.kept {base : Nat} {w w' : World} {tb : Nat} {v : Value} {es : List Ent} {F : Nat → Prop} (h : TabAt base w tb v es) (hf : Fr F w w') (n1 : ¬ F tb) (n2 : ∀ k, v.ownBlock = some k → ¬ F k) : TabAt base w' tb v es :=
  ⟨hf.cell h.cell n1, (hf.frozen h.cell n1).trans h.free, hf.owns h.own n2, h.few, Nat.le_trans h.lt hf.size, h.ne⟩
theorem TOk.quiet {base : Nat} {w w' : World} {tb : Nat} {v : Value} {es : List Ent} (h : TabAt base w tb v es) (hf : Fr (fun _ => False) w w') : TOk base tb v w w' es :=
  ⟨v, h.kept hf id (fun _ _ => id), hf.mono (fun _ _ f => f.elim), fun g e => .inl e⟩
def addV (es : List Ent) : Value := if es.length = 397 then .tuple #[.int .i64 0, .int .i64 8] else .tuple #[.int .i64 (3 + es.length), .int .i64 0]
theorem add_full {base : Nat} {w : World} {tb : Nat} {v : Value} {es : List Ent} (h : TabAt base w tb v es) (x : Ent) (hf : es.length = 397) :
    Calls Try.prog 39 #[.pointer (some ⟨tb, 0, none⟩), .agg #[.int .i64 x.kind, .int .i64 x.elem, .int .i64 x.len, .string x.name, .slice x.fa x.fn x.fc, .int .i64 x.size, .int .i64 x.align]] w fun r w' => r = .returned (.tuple #[.int .i64 0, .int .i64 8]) ∧ Fr (fun _ => False) w w' := by
  obtain ⟨a, c, rfl, hc⟩ := h.form
  have hx := h.cell
  rw [hf] at hx
  have HC := Lib.hid (fun W (hW : W.cell? ⟨tb, 0, none⟩ = some (.slice a 397 c)) => count_at tb 397 c a (by decide) W hW)
  have hA : ∀ o : Obj, (w.alloc o).cell? ⟨tb, 0, none⟩ = some (.slice a 397 c) := fun o => (World.grownBy_alloc w o none).cell hx (by simp)
  clear h hc hf
  go_enter Try.func39, Try.ntmps39
  go_wp2_with (go_at_call 20; (with_reducible refine (HC.out _ (hA _)).mono ?_); rintro e w' ⟨rfl, rfl⟩)
  go_ret2
  exact ⟨rfl, fr_al (Fr.refl _ _) _⟩
set_option maxRecDepth 100000 in
set_option maxHeartbeats 4000000 in
theorem add_room (tb n : Nat) (ov : Value) (base c : Nat) (a : Option Addr) (hov : ov = .slice a n c) (xs : List Value) (x : Ent) (w : World) (h0 : w.cell? ⟨tb, 0, none⟩ = some ov) (hf : w.frozen? ⟨tb, 0, none⟩ = false)
    (hown : w.ownsRow base 72 7 ov n xs) (hbase : base ≤ w.heap.size) (hn : n < 397) (ag : ov.ownBlock ≠ some tb) :
    Calls Try.prog 39 #[.pointer (some ⟨tb, 0, none⟩), .agg #[.int .i64 x.kind, .int .i64 x.elem, .int .i64 x.len, .string x.name, .slice x.fa x.fn x.fc, .int .i64 x.size, .int .i64 x.align]] w fun r w' => r = .returned (.tuple #[.int .i64 (3 + n), .int .i64 0]) ∧ ∃ gg cap w1 j,
      w1.ownsRow base 72 7 (.slice (some ⟨gg, 0, none⟩) (n + 1) cap) (n + 1) (xs ++ x.vals) ∧ Fr (fun k => ov.ownBlock = some k) w w1 ∧ (ov.ownBlock = some gg ∨ w.heap.size ≤ gg) ∧
      w' = (w1.setCell ⟨tb, 0, none⟩ (.slice (some ⟨gg, 0, none⟩) (n + 1) cap)).drewN j := by
  obtain ⟨i0, hi0, hz0, hz1, hz2⟩ := info_parts info_entry
  have lg := World.block_lt_of_cell? w _ h0
  obtain ⟨wI, hwI⟩ : ∃ wI : World, wI = w.alloc (.cells x.vals.toArray 72) := ⟨_, rfl⟩
  obtain ⟨bI, hbI⟩ : ∃ bI : Nat, bI = w.heap.size := ⟨_, rfl⟩
  have hgI : w.grownBy wI none := by rw [hwI]; exact World.grownBy_alloc w _ none
  have HGI := Lib.hid hgI
  have sI : wI.heap.size = w.heap.size + 1 := by rw [hwI]; simp
  have hI0 : wI.cell? ⟨tb, 0, none⟩ = some ov := hgI.cell h0 (by simp)
  have hIf : wI.frozen? ⟨tb, 0, none⟩ = false := (hgI.frozen_far ⟨tb, 0, none⟩ lg (by simp)).trans hf
  have hownI : wI.ownsRow base 72 7 ov n xs := by rw [hwI]; exact hown.alloc _
  have z0 : wI.cell? ⟨bI, 0, none⟩ = some (.int .i64 x.kind) := by rw [hwI, hbI]; exact fcell w _ _ 0 _ rfl
  have z1 : wI.cell? ⟨bI, 1, none⟩ = some (.int .i64 x.elem) := by rw [hwI, hbI]; exact fcell w _ _ 1 _ rfl
  have z2 : wI.cell? ⟨bI, 2, none⟩ = some (.int .i64 x.len) := by rw [hwI, hbI]; exact fcell w _ _ 2 _ rfl
  have z3 : wI.cell? ⟨bI, 3, none⟩ = some (.string x.name) := by rw [hwI, hbI]; exact fcell w _ _ 3 _ rfl
  have z4 : wI.cell? ⟨bI, 4, none⟩ = some (.slice x.fa x.fn x.fc) := by rw [hwI, hbI]; exact fcell w _ _ 4 _ rfl
  have z5 : wI.cell? ⟨bI, 5, none⟩ = some (.int .i64 x.size) := by rw [hwI, hbI]; exact fcell w _ _ 5 _ rfl
  have z6 : wI.cell? ⟨bI, 6, none⟩ = some (.int .i64 x.align) := by rw [hwI, hbI]; exact fcell w _ _ 6 _ rfl
  have HC : Hid (Calls Try.prog 20 #[.pointer (some ⟨tb, 0, none⟩)] wI fun e w' => e = .returned (.int .i64 (3 + n)) ∧ wI = w') := Lib.hid (count_at tb n c a (by omega) wI (by rw [hI0, hov]))
  have d1 : ((3 : Int) + n == 400) = false := by rw [beq_eq_false_iff_ne]; omega
  have HO := Lib.hid hov
  have HOW := Lib.hid hownI
  have hwI' : wI = w.alloc (.cells #[.int .i64 x.kind, .int .i64 x.elem, .int .i64 x.len, .string x.name, .slice x.fa x.fn x.fc, .int .i64 x.size, .int .i64 x.align] 72) := hwI
  have hA0 : ∀ o : Obj, (wI.alloc o).cell? ⟨tb, 0, none⟩ = some ov := fun o => (World.grownBy_alloc wI o none).cell hI0 (by simp)
  have hAf : ∀ o : Obj, (wI.alloc o).frozen? ⟨tb, 0, none⟩ = false := fun o => ((World.grownBy_alloc wI o none).frozen_far ⟨tb, 0, none⟩ (by show tb < wI.heap.size; rw [sI]; exact Nat.lt_succ_of_lt lg) (by simp)).trans hIf
  have lgI : tb < wI.heap.size := by rw [sI]; exact Nat.lt_succ_of_lt lg
  have hbI2 : base ≤ wI.heap.size := by omega
  have sI2 : Hid (w.heap.size ≤ wI.heap.size) := Lib.hid (by omega)
  have HWI := Lib.hid hwI'
  have HBI := Lib.hid hbI
  clear h0 hf hown hov hgI hownI hwI sI hwI' hbI
  go_enter Try.func39, Try.ntmps39
  go_wp2_with fail
  rw [← HWI.out, ← HBI.out]
  go_wp2_with (go_at_call 20; (with_reducible refine HC.out.mono ?_); rintro e w' ⟨rfl, rfl⟩)
  go_region_law
    ((refine step_append_lies _ (by rfl) _ _ _ (by rfl) base 72 i0 _ 7 80 Try.underlying64 hi0 hz0 hz1 hz2 rfl (by omega) ov n xs (by rfl) ((HOW.out.alloc _).drew)
        ⟨wI.heap.size, 0, none⟩ 1 1 x.vals (by rfl) (by rfl) (World.news_of_block (cs := x.vals.toArray) (t := 72) (fr := (0, 0)) (heap_alloc_new wI _)) (by simp [Value.oneCell', Ent.vals])
        (by omega) (by unfold maxLen; omega) (by omega) (by simp; omega) (wI.heap.size + 1) (by simp) ?_; intro gg cap w1 hown1 hgrow hat hlt; have c38 : w1.cell? ⟨tb, 0, none⟩ = some ov := (hgrow.cell_far _ (by simp; omega) (Ne.symm ag)).trans (hA0 _); have f38 : w1.frozen? ⟨tb, 0, none⟩ = false := (hgrow.frozen_far _ (by simp; omega) (Ne.symm ag)).trans (hAf _)))
  all_goals
    go_wp2
    go_ret2
    exact ⟨rfl, gg, cap, w1, 0, hown1, (((Fr.of_by0 HGI.out).trans (fr_al (Fr.refl _ _) _)).drewN 1).trans ((Fr.of_by hgrow).mono (fun k _ e => e.symm ▸ rfl)), hat.imp id (fun e => by have := sI2.out; omega), rfl⟩
theorem add_of {base : Nat} {w : World} {tb : Nat} {v : Value} {es : List Ent} (h : TabAt base w tb v es) (x : Ent) :
    Calls Try.prog 39 #[.pointer (some ⟨tb, 0, none⟩), .agg #[.int .i64 x.kind, .int .i64 x.elem, .int .i64 x.len, .string x.name, .slice x.fa x.fn x.fc, .int .i64 x.size, .int .i64 x.align]] w fun r w' =>
      r = .returned (addV es) ∧ TOk base tb v w w' (if es.length = 397 then es else es ++ [x]) := by
  unfold addV
  by_cases hf : es.length = 397
  · rw [if_pos hf, if_pos hf]
    refine (add_full h x hf).mono ?_
    rintro r w' ⟨rfl, hg⟩
    exact ⟨rfl, TOk.quiet h hg⟩
  · rw [if_neg hf, if_neg hf]
    obtain ⟨a, c, hv, _⟩ := h.form
    have hfew := h.few
    refine (add_room tb es.length v base c a hv (es.flatMap Ent.vals) x w h.cell h.free h.own h.lt (by omega) h.ne).mono ?_
    rintro r w' ⟨rfl, gg, cap, w1, j, hown, hf1, hg, rfl⟩
    refine ⟨rfl, .slice (some ⟨gg, 0, none⟩) (es.length + 1) cap, ?_, ?_, ?_⟩
    · have lt := World.block_lt_of_cell? w _ h.cell
      have hne : gg ≠ tb := by
        rcases hg with e | e
        · intro q; subst q; exact h.ne e
        · have : tb < w.heap.size := lt
          omega
      have hc1 := hf1.cell h.cell h.ne
      have hS := Fr.setCell (F := fun k => k = tb) w1 ⟨tb, 0, none⟩ (.slice (some ⟨gg, 0, none⟩) (es.length + 1) cap) rfl
      have hD : Fr (fun _ => False) (w1.setCell ⟨tb, 0, none⟩ (.slice (some ⟨gg, 0, none⟩) (es.length + 1) cap)) ((w1.setCell ⟨tb, 0, none⟩ (.slice (some ⟨gg, 0, none⟩) (es.length + 1) cap)).drewN j) := (Fr.refl _ _).drewN j
      have base0 : TabAt base (w1.setCell ⟨tb, 0, none⟩ (.slice (some ⟨gg, 0, none⟩) (es.length + 1) cap)) tb (.slice (some ⟨gg, 0, none⟩) (es.length + 1) cap) (es ++ [x]) := by
        refine ⟨World.cell?_setCell_same _ _ _ hc1, (World.frozen?_setCell _ _ _ _).trans ((hf1.frozen h.cell h.ne).trans h.free), ?_, by simp; omega, by have := hf1.size; have := hS.size; have := h.lt; omega, by simp [Value.ownBlock]; exact hne⟩
        have e1 : (es ++ [x]).length = es.length + 1 := by simp
        have e2 : (es ++ [x]).flatMap Ent.vals = es.flatMap Ent.vals ++ x.vals := by simp [List.flatMap_append]
        rw [e1, e2]
        refine hS.owns hown (fun k hk e => ?_)
        simp only [Value.ownBlock, Option.some.injEq] at hk
        omega
      exact base0.kept hD id (fun _ _ => id)
    · exact ((hf1.mono (G := fun k => k = tb ∨ v.ownBlock = some k) (fun k _ e => .inr e)).trans (Fr.setCell _ _ _ (.inl rfl))).drewN j
    · intro g e
      simp only [Value.ownBlock, Option.some.injEq] at e
      subst e
      exact hg
end Go.Proofs.Ytlhkhgkgjdfcgaa
