/-
  The contracts of Decode, and of the page's examples of layer 2.
-/
import Derived.Test.YtlagdgkjpnocfaaGreatDoorFind
namespace Go.Proofs.YtlagdgkjpnocfaaGreatDoor
open Go.RowKit
set_option linter.unusedVariables false

theorem find_lt (u : Int) : findI u < 46 := by
  unfold findI
  cases h : (List.range 46).find? (mB u) with
  | none => simp
  | some x =>
    have := List.mem_of_find?_eq_some h
    simpa using this
theorem ix_nat {k : Nat} (h : k < 46) : ix (k : Int) = k := by unfold ix; rw [if_pos (by omega)]; omega
def zero34 : Array Value := #[.int .i64 0, .int .i64 0, .int .i64 0, .int .i64 0, .int .i64 0]
set_option maxRecDepth 100000 in
set_option maxHeartbeats 8000000 in
theorem c72_none (u : Int) (h0 : 0 ≤ u) (h1 : u ≤ 4294967295) (hk : findI u = 0) (w : World) :
    Calls Tryz.prog 72 #[.int .u32 u] w fun e w' => e = .returned (.tuple #[.agg #[.int .i64 0, .int .i64 0, .int .i64 0, .int .i64 0, .int .i64 0], .int .i64 3]) ∧ Grown w w' := by
  have K82 := c97 u h0 h1
  rw [hk] at K82
  have H82 : Hid (∀ w, Calls Tryz.prog 97 #[.int .u32 u] w fun e w' => e = .returned (.int .i64 0) ∧ Grown w w') := Lib.hid K82
  clear K82 hk
  go_enter Tryz.func72, Tryz.ntmps72
  go_wp2_with (go_at_call 97; (with_reducible refine (H82.out _).mono ?_); rintro e w' ⟨rfl, hg⟩
               have z0 := grown_cell hg (row_cell w zero34 23 0 (.int .i64 0) rfl)
               have z1 := grown_cell hg (row_cell w zero34 23 1 (.int .i64 0) rfl)
               have z2 := grown_cell hg (row_cell w zero34 23 2 (.int .i64 0) rfl)
               have z3 := grown_cell hg (row_cell w zero34 23 3 (.int .i64 0) rfl)
               have z4 := grown_cell hg (row_cell w zero34 23 4 (.int .i64 0) rfl)
               have y0 := new_frozen hg 0
               have y1 := new_frozen hg 1
               have y2 := new_frozen hg 2
               have y3 := new_frozen hg 3
               have y4 := new_frozen hg 4
               have HG := Lib.hid hg; clear hg)
  refine bodyPost_ret (v := .tuple #[.agg #[.int .i64 0, .int .i64 0, .int .i64 0, .int .i64 0, .int .i64 0], .int .i64 3]) (by simp [results, Tryz.results72, go_sem, z0, z1, z2, z3, z4]) rfl ⟨rfl, ?_⟩
  exact (((((grown_trans ((Grown.refl w).alloc _ _) HG.out).setCell (Nat.le_refl _) _).setCell (Nat.le_refl _) _).setCell (Nat.le_refl _) _).setCell (Nat.le_refl _) _).setCell (Nat.le_refl _) _
set_option maxRecDepth 100000 in
set_option maxHeartbeats 8000000 in
theorem c72_some (u : Int) (h0 : 0 ≤ u) (h1 : u ≤ 4294967295) (k : Nat) (hk : findI u = k) (hk0 : k ≠ 0) (w : World) :
    Calls Tryz.prog 72 #[.int .u32 u] w fun e w' => e = .returned (.tuple #[.agg #[.int .i64 k, .int .i64 (regV u 7 (uRd (fm k))), .int .i64 (regV u 15 (uRs1 (fm k))), .int .i64 (regV u 20 (uRs2 (fm k))), .int .i64 (gathS (fm k) u)], .int .i64 0]) ∧ Grown w w' := by
  have hlt : k < 46 := hk ▸ find_lt u
  have K82 := c97 u h0 h1
  rw [hk] at K82
  have K60 := c26 k
  rw [ix_nat hlt] at K60
  have hf := fm_form' k hlt
  have H82 := Lib.hid K82
  have H60 := Lib.hid K60
  have H83 := Lib.hid (c41 (fm k) hf)
  have H85 : Hid (∀ w, Calls Tryz.prog 43 #[.int .u8 (fm k), .int .u32 u] w fun e w' => e = .returned (.int .i64 (gathS (fm k) u)) ∧ Grown w w') := Lib.hid (c43 (fm k) u hf h0 h1)
  have H84a := Lib.hid (c98 u 7 (uRd (fm k)) h0 h1 (by simp))
  have H84b := Lib.hid (c98 u 15 (uRs1 (fm k)) h0 h1 (by simp))
  have H84c := Lib.hid (c98 u 20 (uRs2 (fm k)) h0 h1 (by simp))
  have hkn : ((k : Int) == 0) = false := by simp; omega
  have hkn' : ¬ (k : Int) = 0 := by omega
  clear K82 K60 hf hk hk0
  generalize fm k = f at *
  generalize gathS f u = T at *
  generalize regV u 7 (uRd f) = A at *
  generalize regV u 15 (uRs1 f) = B at *
  generalize regV u 20 (uRs2 f) = C at *
  generalize uRd f = U0 at *
  generalize uRs1 f = U1 at *
  generalize uRs2 f = U2 at *
  go_enter Tryz.func72, Tryz.ntmps72
  go_wp2_with (first
    | (go_at_call 97; (with_reducible refine (H82.out _).mono ?_); rintro e w' ⟨rfl, hg⟩; have HG := Lib.hid hg; clear hg)
    | (go_at_call 26; (with_reducible refine (H60.out _).mono ?_); rintro e w2 ⟨rfl, hg⟩; have HG2 := Lib.hid (grown_trans HG.out hg); clear hg HG)
    | (go_at_call 41; (with_reducible refine (H83.out _).mono ?_); rintro e w' ⟨rfl, rfl⟩)
    | (go_at_call 98; (with_reducible refine (H84a.out _).mono ?_); rintro e w' ⟨rfl, rfl⟩)
    | (go_at_call 98; (with_reducible refine (H84b.out _).mono ?_); rintro e w' ⟨rfl, rfl⟩)
    | (go_at_call 98; (with_reducible refine (H84c.out _).mono ?_); rintro e w' ⟨rfl, rfl⟩)
    | (go_at_call 43; (with_reducible refine (H85.out _).mono ?_); rintro e w3 ⟨rfl, hg⟩
       have hG := grown_trans HG2.out hg
       have z0 := grown_cell hG (row_cell w zero34 23 0 (.int .i64 0) rfl)
       have z1 := grown_cell hG (row_cell w zero34 23 1 (.int .i64 0) rfl)
       have z2 := grown_cell hG (row_cell w zero34 23 2 (.int .i64 0) rfl)
       have z3 := grown_cell hG (row_cell w zero34 23 3 (.int .i64 0) rfl)
       have z4 := grown_cell hG (row_cell w zero34 23 4 (.int .i64 0) rfl)
       have y0 := new_frozen hG 0
       have y1 := new_frozen hG 1
       have y2 := new_frozen hG 2
       have y3 := new_frozen hG 3
       have y4 := new_frozen hG 4
       have HG3 := Lib.hid hG; clear hg hG HG2))
  refine bodyPost_ret (v := .tuple #[.agg #[.int .i64 k, .int .i64 A, .int .i64 B, .int .i64 C, .int .i64 T], .int .i64 0]) (by simp [results, Tryz.results72, go_sem, z0, z1, z2, z3, z4]) rfl ⟨rfl, ?_⟩
  exact (((((grown_trans ((Grown.refl w).alloc _ _) HG3.out).setCell (Nat.le_refl _) _).setCell (Nat.le_refl _) _).setCell (Nat.le_refl _) _).setCell (Nat.le_refl _) _).setCell (Nat.le_refl _) _
end Go.Proofs.YtlagdgkjpnocfaaGreatDoor
