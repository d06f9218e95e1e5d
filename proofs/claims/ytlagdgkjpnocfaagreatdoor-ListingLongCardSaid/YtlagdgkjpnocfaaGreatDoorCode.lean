/-
  The contract of codeOf: the row of an instruction's number, the zero row where there is none.
-/
import Derived.Test.YtlagdgkjpnocfaaGreatDoorTab
namespace Go.Proofs.YtlagdgkjpnocfaaGreatDoor
open Go.RowKit
set_option linter.unusedVariables false

theorem grown_cell {w w' : World} (h : Grown w w') {b o : Nat} {v : Value} (hc : w.cell? ⟨b, o, none⟩ = some v) : w'.cell? ⟨b, o, none⟩ = some v := by
  have hb : b < w.heap.size := block_lt_of_cell hc
  have h3 := h.1.2.2 b hb
  simp only [World.cell?] at hc ⊢
  cases h1 : w.heap[b]? with
  | none => simp [h1] at hc
  | some o1 =>
    rw [h1] at h3 hc
    cases o1 with
    | cells c t fr =>
      cases h2 : w'.heap[b]? with
      | none => rw [h2] at h3; simp at h3
      | some o2 =>
        rw [h2] at h3
        cases o2 with
        | cells c' t' fr' =>
          simp at h3 hc ⊢
          rw [h3.2.2.2]; exact hc
        | _ => simp at h3
    | _ => simp at hc
theorem grown_size {w w' : World} (h : Grown w w') {n : Nat} (hn : n < w.heap.size) : n < w'.heap.size := Nat.lt_of_lt_of_le hn h.2.2

def nm (k : Nat) : ByteArray := nmL.getD k ⟨#[]⟩
def fm (k : Nat) : Int := fmL.getD k 0
def oc (k : Nat) : Int := ocL.getD k 0
def f3 (k : Nat) : Int := f3L.getD k 0
def f7 (k : Nat) : Int := f7L.getD k 0
def ix (op : Int) : Nat := if 0 ≤ op ∧ op < 46 then op.toNat else 0
def rowCells (k : Nat) : Array Value := #[.string (nm k), .int .u8 (fm k), .int .u8 (oc k), .int .u8 (f3 k), .int .u8 (f7 k)]

set_option maxRecDepth 1000000 in
theorem codes_at (k : Nat) (h : k < 46) : codesArr[k * 5]? = some (.string (nm k)) ∧ codesArr[k * 5 + 1]? = some (.int .u8 (fm k)) ∧ codesArr[k * 5 + 2]? = some (.int .u8 (oc k)) ∧ codesArr[k * 5 + 3]? = some (.int .u8 (f3 k)) ∧ codesArr[k * 5 + 4]? = some (.int .u8 (f7 k)) := by
  have : ∀ k : Fin 46, codesArr[k.val * 5]? = some (.string (nm k)) ∧ codesArr[k.val * 5 + 1]? = some (.int .u8 (fm k)) ∧ codesArr[k.val * 5 + 2]? = some (.int .u8 (oc k)) ∧ codesArr[k.val * 5 + 3]? = some (.int .u8 (f3 k)) ∧ codesArr[k.val * 5 + 4]? = some (.int .u8 (f7 k)) := by
    intro ⟨k, hk⟩
    match k, hk with
    | 0, _ | 1, _ | 2, _ | 3, _ | 4, _ | 5, _ | 6, _ | 7, _ | 8, _ | 9, _ | 10, _ | 11, _ | 12, _ | 13, _ | 14, _ | 15, _ | 16, _ | 17, _ | 18, _ | 19, _ | 20, _ | 21, _ | 22, _ | 23, _ | 24, _ | 25, _ | 26, _ | 27, _ | 28, _ | 29, _ | 30, _ | 31, _ | 32, _ | 33, _ | 34, _ | 35, _ | 36, _ | 37, _ | 38, _ | 39, _ | 40, _ | 41, _ | 42, _ | 43, _ | 44, _ | 45, _ => exact ⟨rfl, rfl, rfl, rfl, rfl⟩
    | n + 46, hn => exact absurd hn (by omega)
  exact this ⟨k, h⟩

set_option maxRecDepth 1000000 in
theorem codes_cell (w : World) (k : Nat) (h : k < 46) : (w.alloc (.cells codesArr 104)).cell? ⟨w.heap.size, k * 5, none⟩ = some (.string (nm k)) ∧ (w.alloc (.cells codesArr 104)).cell? ⟨w.heap.size, k * 5 + 1, none⟩ = some (.int .u8 (fm k)) ∧ (w.alloc (.cells codesArr 104)).cell? ⟨w.heap.size, k * 5 + 2, none⟩ = some (.int .u8 (oc k)) ∧ (w.alloc (.cells codesArr 104)).cell? ⟨w.heap.size, k * 5 + 3, none⟩ = some (.int .u8 (f3 k)) ∧ (w.alloc (.cells codesArr 104)).cell? ⟨w.heap.size, k * 5 + 4, none⟩ = some (.int .u8 (f7 k)) := by
  obtain ⟨a0, a1, a2, a3, a4⟩ := codes_at k h
  refine ⟨?_, ?_, ?_, ?_, ?_⟩
  all_goals (rw [cell_of_row _ _ _ codesArr 104 (0, 0) (heap_alloc_new _ _)]; assumption)
theorem row_cell (w : World) (cs : Array Value) (t : TypeId) (j : Nat) (v : Value) (h : cs[j]? = some v) : (w.alloc (.cells cs t)).cell? ⟨w.heap.size, j, none⟩ = some v := by
  rw [cell_of_row _ _ _ cs t (0, 0) (heap_alloc_new _ _)]; exact h
theorem new_frozen {w w' : World} {cs : Array Value} {t : TypeId} (h : Grown (w.alloc (.cells cs t)) w') (j : Nat) : w'.frozen? ⟨w.heap.size, j, none⟩ = false := by
  rw [h.2.1]; exact World.frozen?_alloc_at _ _ _ _ rfl
def zero58 : Array Value := #[.string ⟨#[]⟩, .int .u8 0, .int .u8 0, .int .u8 0, .int .u8 0]

set_option maxRecDepth 1000000 in
set_option maxHeartbeats 4000000 in
theorem c45_in (k : Nat) (hk : k < 46) (w : World) :
    Calls Tryz.prog 45 #[.int .i64 k] w fun e w' => e = .returned (.agg (rowCells k)) ∧ Grown w w' := by
  go_enter Tryz.func45, Tryz.ntmps45
  go_wp2_with (first
    | (go_at_call 68; (with_reducible refine (c68 _).mono ?_); rintro e w' ⟨rfl, hg⟩
       obtain ⟨m0, m1, m2, m3, m4⟩ := codes_cell w' k hk
       have hs : w.heap.size < w'.heap.size := Nat.lt_of_lt_of_le (by simp) hg.2.2
       have hs' : w.heap.size ≠ w'.heap.size := by omega
       have z0 := grown_cell hg (row_cell w zero58 80 0 _ rfl)
       have z1 := grown_cell hg (row_cell w zero58 80 1 _ rfl)
       have z2 := grown_cell hg (row_cell w zero58 80 2 _ rfl)
       have z3 := grown_cell hg (row_cell w zero58 80 3 _ rfl)
       have z4 := grown_cell hg (row_cell w zero58 80 4 _ rfl)
       have y0 := new_frozen hg 0
       have y1 := new_frozen hg 1
       have y2 := new_frozen hg 2
       have y3 := new_frozen hg 3
       have y4 := new_frozen hg 4
       have HG := Lib.hid hg; clear hg)
    | (refine wpList_store_row rfl 104 _ _ rfl _ codesArr rfl rfl 104 Tryz.zeroCells104 (heap_alloc_new _ _) cells73 (by as_aux_lemma => kernel_rfl) (by as_aux_lemma => kernel_rfl) ?_; rw [World.setRow_alloc_new]))
  refine bodyPost_ret (v := .agg (rowCells k)) (by simp [results, Tryz.results45, go_sem, rowCells, z0, z1, z2, z3, z4, hs]) rfl ⟨rfl, ?_⟩
  exact ((((((grown_trans ((Grown.refl w).alloc _ _) HG.out).setCell (Nat.le_refl _) _).setCell (Nat.le_refl _) _).setCell (Nat.le_refl _) _).setCell (Nat.le_refl _) _).setCell (Nat.le_refl _) _).alloc _ _
set_option maxRecDepth 1000000 in
set_option maxHeartbeats 4000000 in
theorem c45_out (op : Int) (hk : op < 0 ∨ 46 ≤ op) (w : World) :
    Calls Tryz.prog 45 #[.int .i64 op] w fun e w' => e = .returned (.agg (rowCells 0)) ∧ Grown w w' := by
  rcases hk with hk | hk
  all_goals
    go_enter Tryz.func45, Tryz.ntmps45
    go_wp2_with (first
      | (go_at_call 68; (with_reducible refine (c68 _).mono ?_); rintro e w' ⟨rfl, hg⟩
         have hs : w.heap.size < w'.heap.size := Nat.lt_of_lt_of_le (by simp) hg.2.2
         have hs' : w.heap.size ≠ w'.heap.size := by omega
         have z0 := grown_cell hg (row_cell w zero58 80 0 _ rfl)
         have z1 := grown_cell hg (row_cell w zero58 80 1 _ rfl)
         have z2 := grown_cell hg (row_cell w zero58 80 2 _ rfl)
         have z3 := grown_cell hg (row_cell w zero58 80 3 _ rfl)
         have z4 := grown_cell hg (row_cell w zero58 80 4 _ rfl)
         have y0 := new_frozen hg 0
         have y1 := new_frozen hg 1
         have y2 := new_frozen hg 2
         have y3 := new_frozen hg 3
         have y4 := new_frozen hg 4
         have HG := Lib.hid hg; clear hg)
      | (refine wpList_store_row rfl 104 _ _ rfl _ codesArr rfl rfl 104 Tryz.zeroCells104 (heap_alloc_new _ _) cells73 (by as_aux_lemma => kernel_rfl) (by as_aux_lemma => kernel_rfl) ?_; rw [World.setRow_alloc_new]))
    refine bodyPost_ret (v := .agg (rowCells 0)) (by simp [results, Tryz.results45, go_sem, rowCells, z0, z1, z2, z3, z4, hs]; exact ⟨rfl, rfl, rfl, rfl, rfl⟩) rfl ⟨rfl, ?_⟩
    exact ((((((grown_trans ((Grown.refl w).alloc _ _) HG.out).setCell (Nat.le_refl _) _).setCell (Nat.le_refl _) _).setCell (Nat.le_refl _) _).setCell (Nat.le_refl _) _).setCell (Nat.le_refl _) _).alloc _ _
theorem c45 (op : Int) (w : World) :
    Calls Tryz.prog 45 #[.int .i64 op] w fun e w' => e = .returned (.agg #[.string (nm (ix op)), .int .u8 (fm (ix op)), .int .u8 (oc (ix op)), .int .u8 (f3 (ix op)), .int .u8 (f7 (ix op))]) ∧ Grown w w' := by
  unfold ix
  by_cases h : 0 ≤ op ∧ op < 46
  · rw [if_pos h]
    have := c45_in op.toNat (by omega) w
    rw [show ((op.toNat : Nat) : Int) = op by omega] at this
    exact this
  · rw [if_neg h]
    exact c45_out op (by omega) w
end Go.Proofs.YtlagdgkjpnocfaaGreatDoor
