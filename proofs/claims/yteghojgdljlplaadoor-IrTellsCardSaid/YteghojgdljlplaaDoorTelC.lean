/-
  Where a block leads (layer 13): the document's own.
-/
import Derived.Test.YteghojgdljlplaaDoorTelB
namespace Go.Proofs.YteghojgdljlplaaDoor
open Go.RowKit
set_option linter.unusedVariables false
set_option linter.unusedSimpArgs false
theorem one_c (w : World) (t : TypeId) (x : Value) : ∀ (j : Nat) (u : Value), [x][j]? = some u → (w.alloc (.cells #[x] t)).cell? ((⟨w.heap.size, 0, none⟩ : Addr).add j) = some u := by
  intro j u h
  match j, h with
  | 0, h => rw [Addr.add_lit]; exact fcell w #[x] t 0 u (by simpa using h)
  | n + 1, h => simp at h
/-- A row of the call's own that grows. -/
structure GrI (w wr : World) (v : Value) (xs : List Int) : Prop where
  num : wr.ownsRow w.heap.size 3 1 v xs.length (xs.map (Value.int .i64))
  fr : Fr (fun _ => False) w wr
theorem GrI.nil (w : World) : GrI w w (.slice none 0 0) [] := ⟨World.ownsRow_nil _ _ _ _, Fr.refl _ _⟩
theorem GrI.keep {w wr w2 : World} {v : Value} {xs : List Int} (h : GrI w wr v xs) (hf : Fr (fun _ => False) wr w2) : GrI w w2 v xs :=
  ⟨hf.owns h.num (fun _ _ => id), h.fr.trans hf⟩
theorem GrI.many {w wr w1 w2 : World} {v v' : Value} {xs ys : List Int} {n : Nat} (h : GrI w wr v xs) (hf : Fr (fun _ => False) wr w1) (hn : n = ys.length) (hv : w2.ownsRow w.heap.size 3 1 v' (xs.length + n) (xs.map (Value.int .i64) ++ ys.map (Value.int .i64))) (hg : w1.grownBy w2 v.ownBlock) : GrI w w2 v' (xs ++ ys) := by
  subst hn
  refine ⟨by rw [List.map_append, List.length_append]; exact hv, ?_⟩
  refine (h.fr.trans hf).trans' (Fr.of_by hg) (fun j hj e => ?_)
  have := (World.ownsRow.lt h.num j e).1
  omega
theorem GrI.snoc {w wr w1 w2 : World} {v v' : Value} {xs : List Int} {x : Int} (h : GrI w wr v xs) (hf : Fr (fun _ => False) wr w1) (hv : w2.ownsRow w.heap.size 3 1 v' (xs.length + 1) (xs.map (Value.int .i64) ++ [.int .i64 x])) (hg : w1.grownBy w2 v.ownBlock) : GrI w w2 v' (xs ++ [x]) :=
  GrI.many h hf (ys := [x]) rfl hv hg
theorem GrI.sl {w wr : World} {v : Value} {xs : List Int} (h : GrI w wr v xs) : SlInts wr v xs := sl_own h.num
theorem blk_cell (w : World) (cs : Array Value) (t : TypeId) (o : Obj) {w3 : World} (hg : ((w.alloc (.cells cs t)).alloc o).grownBy w3 none) (j : Nat) (v : Value) (h : cs[j]? = some v) : w3.cell? ⟨w.heap.size, j, none⟩ = some v := by
  have f : Fr (fun _ => False) (w.alloc (.cells cs t)) w3 := (fr_al (Fr.refl _ _) o).trans (Fr.of_by0 hg)
  exact f.cell (fcell w cs t j v h) (fun h => h)
set_option maxRecDepth 100000 in
set_option maxHeartbeats 4000000 in
theorem routs_any (ins : Value) (en a t el : Int) (w : World) : Calls Tryd.prog 20 #[.agg #[ins, .int .i64 en, .int .i64 a, .int .i64 t, .int .i64 el]] w fun e w' => ∃ v, e = .returned v ∧ SlInts w' v (outsL en t el) ∧ Fr (fun _ => False) w w' := by
  obtain ⟨i0, hi, hz0, hz1, hz2⟩ := info_partsB (show (Tryd.prog.info? 3).map (fun i => (i.zero, i.size, i.bytes)) = some (some (.int .i64 0), 1, 8) by kernel_rfl)
  have HI := Lib.hid hi
  have HZ0 := Lib.hid hz0
  have HZ1 := Lib.hid hz1
  have HZ2 := Lib.hid hz2
  clear hi hz0 hz1 hz2
  by_cases h1 : en = 1
  · subst h1
    go_enter Tryd.func20, Tryd.ntmps20
    go_wp2_with (at_builtin; go_loud (refine wpList_append_own _ rfl _ _ 36 rfl w.heap.size 3 i0 (.int .i64 0) 1 8 Tryd.underlying36 HI.out HZ0.out HZ1.out HZ2.out rfl (by decide) (.slice none 0 0) 0 [] rfl (World.ownsRow_nil _ _ _ _) ⟨w.heap.size + 1, 0, none⟩ 1 1 [.int .i64 t] rfl rfl (by have := one_c (w.alloc (.cells #[ins, .int .i64 1, .int .i64 a, .int .i64 t, .int .i64 el] 41)) 3 (.int .i64 t); simpa using this) (by simp [Value.oneCell']) (by unfold maxLen; omega) (by omega) (by simp; omega) ?_; intro v' w3 hown hg _; have HR := Lib.hid (GrI.snoc (x := t) (GrI.nil w) (fr_al (fr_al (Fr.refl _ _) _) _) (by simpa using hown) hg); have d1 : w3.cell? ⟨w.heap.size, 1, none⟩ = some (.int .i64 1) := blk_cell w _ _ _ hg 1 _ rfl; have d3 : w3.cell? ⟨w.heap.size, 3, none⟩ = some (.int .i64 t) := blk_cell w _ _ _ hg 3 _ rfl; have d4 : w3.cell? ⟨w.heap.size, 4, none⟩ = some (.int .i64 el) := blk_cell w _ _ _ hg 4 _ rfl; clear hown hg))
    go_ret
    exact ⟨_, rfl, HR.out.sl, HR.out.fr⟩
  by_cases h2 : en = 2
  · subst h2
    by_cases h3 : el = t
    · subst h3
      have HN := Lib.hid (show outsL 2 el el = [el] by unfold outsL; simp)
      go_enter Tryd.func20, Tryd.ntmps20
      go_wp2_with (at_builtin; go_loud (refine wpList_append_own _ rfl _ _ 36 rfl w.heap.size 3 i0 (.int .i64 0) 1 8 Tryd.underlying36 HI.out HZ0.out HZ1.out HZ2.out rfl (by decide) (.slice none 0 0) 0 [] rfl (World.ownsRow_nil _ _ _ _) ⟨w.heap.size + 1, 0, none⟩ 1 1 [.int .i64 el] rfl rfl (by have := one_c (w.alloc (.cells #[ins, .int .i64 2, .int .i64 a, .int .i64 el, .int .i64 el] 41)) 3 (.int .i64 el); simpa using this) (by simp [Value.oneCell']) (by unfold maxLen; omega) (by omega) (by simp; omega) ?_; intro v' w3 hown hg _; have HR := Lib.hid (GrI.snoc (x := el) (GrI.nil w) (fr_al (fr_al (Fr.refl _ _) _) _) (by simpa using hown) hg); have d1 : w3.cell? ⟨w.heap.size, 1, none⟩ = some (.int .i64 2) := blk_cell w _ _ _ hg 1 _ rfl; have d3 : w3.cell? ⟨w.heap.size, 3, none⟩ = some (.int .i64 el) := blk_cell w _ _ _ hg 3 _ rfl; have d4 : w3.cell? ⟨w.heap.size, 4, none⟩ = some (.int .i64 el) := blk_cell w _ _ _ hg 4 _ rfl; clear hown hg))
      go_ret
      exact ⟨_, rfl, by rw [HN.out]; exact HR.out.sl, HR.out.fr⟩
    · have e3 : (el == t) = false := by simpa using h3
      have HN := Lib.hid (show outsL 2 t el = [t, el] by unfold outsL; rw [if_neg (by decide), if_pos rfl, if_neg (fun h => h3 h.symm)])
      clear h3
      go_enter Tryd.func20, Tryd.ntmps20
      go_wp2_with (at_builtin; first
        | (refine wpList_append_own _ rfl _ _ 36 rfl w.heap.size 3 i0 (.int .i64 0) 1 8 Tryd.underlying36 HI.out HZ0.out HZ1.out HZ2.out rfl (by decide) (.slice none 0 0) 0 [] rfl (World.ownsRow_nil _ _ _ _) ⟨w.heap.size + 1, 0, none⟩ 1 1 [.int .i64 t] rfl rfl (by have := one_c (w.alloc (.cells #[ins, .int .i64 2, .int .i64 a, .int .i64 t, .int .i64 el] 41)) 3 (.int .i64 t); simpa using this) (by simp [Value.oneCell']) (by unfold maxLen; omega) (by omega) (by simp; omega) ?_; intro v' w3 hown hg _; have HR := Lib.hid (GrI.snoc (x := t) (GrI.nil w) (fr_al (fr_al (Fr.refl _ _) _) _) (by simpa using hown) hg); have HS := Lib.hid HR.out.fr.size; have d1 : w3.cell? ⟨w.heap.size, 1, none⟩ = some (.int .i64 2) := blk_cell w _ _ _ hg 1 _ rfl; have d3 : w3.cell? ⟨w.heap.size, 3, none⟩ = some (.int .i64 t) := blk_cell w _ _ _ hg 3 _ rfl; have d4 : w3.cell? ⟨w.heap.size, 4, none⟩ = some (.int .i64 el) := blk_cell w _ _ _ hg 4 _ rfl; clear hown hg)
        | go_loud (refine wpList_append_own _ rfl _ _ 36 rfl w.heap.size 3 i0 (.int .i64 0) 1 8 Tryd.underlying36 HI.out HZ0.out HZ1.out HZ2.out rfl (by decide) v' 1 _ rfl (by exact (HR.out.keep (fr_al (Fr.refl _ _) _)).num) ⟨w3.heap.size, 0, none⟩ 1 1 [.int .i64 el] rfl rfl (one_c w3 3 (.int .i64 el)) (by simp [Value.oneCell']) (by unfold maxLen; omega) (by omega) (by have := HS.out; simp; omega) ?_; intro v2 w5 hown hg _; have HR2 := Lib.hid (GrI.snoc (x := el) HR.out (fr_al (Fr.refl _ _) _) (by simpa using hown) hg); clear hown hg))
      go_ret
      exact ⟨_, rfl, by rw [HN.out]; exact HR2.out.sl, HR2.out.fr⟩
  have e1 : (en == 1) = false := by simpa using h1
  have e2 : (en == 2) = false := by simpa using h2
  have HN := Lib.hid (show outsL en t el = [] by unfold outsL; rw [if_neg h1, if_neg h2])
  clear h1 h2
  go_enter Tryd.func20, Tryd.ntmps20
  go_wp2
  go_ret
  exact ⟨.slice none 0 0, rfl, by rw [HN.out]; exact sl_nil _, fr_al (Fr.refl _ _) _⟩
end Go.Proofs.YteghojgdljlplaaDoor
