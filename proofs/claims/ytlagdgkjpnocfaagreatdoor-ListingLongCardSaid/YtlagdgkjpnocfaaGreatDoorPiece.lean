/-
  The contracts of the pieces of an immediate: where they stand, how they are scattered over a word, how they are gathered from it.
-/
import Derived.Test.YtlagdgkjpnocfaaGreatDoorForm
namespace Go.Proofs.YtlagdgkjpnocfaaGreatDoor
open Go.RowKit
set_option linter.unusedVariables false

/-- The four pieces of a format: from, count, at. -/
def pcs (f : Int) : List (Int × Int × Int) :=
  if f = 85 then [(12, 20, 12), (0, 0, 0), (0, 0, 0), (0, 0, 0)]
  else if f = 74 then [(20, 1, 31), (1, 10, 21), (11, 1, 20), (12, 8, 12)]
  else if f = 73 then [(0, 12, 20), (0, 0, 0), (0, 0, 0), (0, 0, 0)]
  else if f = 72 then [(0, 5, 20), (0, 0, 0), (0, 0, 0), (0, 0, 0)]
  else if f = 83 then [(0, 5, 7), (5, 7, 25), (0, 0, 0), (0, 0, 0)]
  else if f = 66 then [(12, 1, 31), (5, 6, 25), (1, 4, 8), (11, 1, 7)]
  else [(0, 0, 0), (0, 0, 0), (0, 0, 0), (0, 0, 0)]
def pF (f : Int) (j : Nat) : Int := ((pcs f).getD j (0, 0, 0)).1
def pC (f : Int) (j : Nat) : Int := ((pcs f).getD j (0, 0, 0)).2.1
def pA (f : Int) (j : Nat) : Int := ((pcs f).getD j (0, 0, 0)).2.2
def pArr (f : Int) : Array Value := #[.int .i64 (pF f 0), .int .i64 (pC f 0), .int .i64 (pA f 0), .int .i64 (pF f 1), .int .i64 (pC f 1), .int .i64 (pA f 1), .int .i64 (pF f 2), .int .i64 (pC f 2), .int .i64 (pA f 2), .int .i64 (pF f 3), .int .i64 (pC f 3), .int .i64 (pA f 3)]
theorem p_in (f : Int) (hf : isForm f) (j : Nat) (hj : j < 4) : 0 ≤ pF f j ∧ pF f j ≤ 31 ∧ 0 ≤ pC f j ∧ pC f j ≤ 31 ∧ 0 ≤ pA f j ∧ pA f j ≤ 31 ∧ pC f j + pA f j ≤ 32 ∧ pC f j + pF f j ≤ 32 := by
  have a : ∀ j, j < 4 → (0 ≤ pF 85 j ∧ pF 85 j ≤ 31 ∧ 0 ≤ pC 85 j ∧ pC 85 j ≤ 31 ∧ 0 ≤ pA 85 j ∧ pA 85 j ≤ 31 ∧ pC 85 j + pA 85 j ≤ 32 ∧ pC 85 j + pF 85 j ≤ 32) := by decide
  have b : ∀ j, j < 4 → (0 ≤ pF 74 j ∧ pF 74 j ≤ 31 ∧ 0 ≤ pC 74 j ∧ pC 74 j ≤ 31 ∧ 0 ≤ pA 74 j ∧ pA 74 j ≤ 31 ∧ pC 74 j + pA 74 j ≤ 32 ∧ pC 74 j + pF 74 j ≤ 32) := by decide
  have c : ∀ j, j < 4 → (0 ≤ pF 73 j ∧ pF 73 j ≤ 31 ∧ 0 ≤ pC 73 j ∧ pC 73 j ≤ 31 ∧ 0 ≤ pA 73 j ∧ pA 73 j ≤ 31 ∧ pC 73 j + pA 73 j ≤ 32 ∧ pC 73 j + pF 73 j ≤ 32) := by decide
  have d : ∀ j, j < 4 → (0 ≤ pF 72 j ∧ pF 72 j ≤ 31 ∧ 0 ≤ pC 72 j ∧ pC 72 j ≤ 31 ∧ 0 ≤ pA 72 j ∧ pA 72 j ≤ 31 ∧ pC 72 j + pA 72 j ≤ 32 ∧ pC 72 j + pF 72 j ≤ 32) := by decide
  have e : ∀ j, j < 4 → (0 ≤ pF 83 j ∧ pF 83 j ≤ 31 ∧ 0 ≤ pC 83 j ∧ pC 83 j ≤ 31 ∧ 0 ≤ pA 83 j ∧ pA 83 j ≤ 31 ∧ pC 83 j + pA 83 j ≤ 32 ∧ pC 83 j + pF 83 j ≤ 32) := by decide
  have g : ∀ j, j < 4 → (0 ≤ pF 66 j ∧ pF 66 j ≤ 31 ∧ 0 ≤ pC 66 j ∧ pC 66 j ≤ 31 ∧ 0 ≤ pA 66 j ∧ pA 66 j ≤ 31 ∧ pC 66 j + pA 66 j ≤ 32 ∧ pC 66 j + pF 66 j ≤ 32) := by decide
  have h : ∀ j, j < 4 → (0 ≤ pF 82 j ∧ pF 82 j ≤ 31 ∧ 0 ≤ pC 82 j ∧ pC 82 j ≤ 31 ∧ 0 ≤ pA 82 j ∧ pA 82 j ≤ 31 ∧ pC 82 j + pA 82 j ≤ 32 ∧ pC 82 j + pF 82 j ≤ 32) := by decide
  have i : ∀ j, j < 4 → (0 ≤ pF 0 j ∧ pF 0 j ≤ 31 ∧ 0 ≤ pC 0 j ∧ pC 0 j ≤ 31 ∧ 0 ≤ pA 0 j ∧ pA 0 j ≤ 31 ∧ pC 0 j + pA 0 j ≤ 32 ∧ pC 0 j + pF 0 j ≤ 32) := by decide
  rcases hf with rfl | rfl | rfl | rfl | rfl | rfl | rfl | rfl
  all_goals first | exact a j hj | exact b j hj | exact c j hj | exact d j hj | exact e j hj | exact g j hj | exact h j hj | exact i j hj
set_option maxHeartbeats 4000000 in
theorem c64 (f : Int) (hf : isForm f) (w : World) :
    Calls Tryz.prog 64 #[.int .u8 f] w fun e w' => e = .returned (.agg (pArr f)) ∧ Grown w w' := by
  rcases hf with rfl | rfl | rfl | rfl | rfl | rfl | rfl | rfl
  all_goals
    go_enter Tryz.func64, Tryz.ntmps64
    go_wp2
    refine bodyPost_ret (results_cell_row rfl _ _ w.heap.size 99 _ (0, 0) _ rfl (heap_alloc_new _ _) Tryz.underlying99 rfl (by kernel_rfl)) rfl ⟨by rfl, (Grown.refl _).alloc _ _⟩
theorem index77 (x0 x1 x2 x3 x4 x5 x6 x7 x8 x9 x10 x11 : Value) (w : World) :
    (Instr.index 99 (.agg #[x0, x1, x2, x3, x4, x5, x6, x7, x8, x9, x10, x11]) (.int .i64 0)).run Tryz.prog w = .ok (.agg #[x0, x1, x2]) w ∧
    (Instr.index 99 (.agg #[x0, x1, x2, x3, x4, x5, x6, x7, x8, x9, x10, x11]) (.int .i64 1)).run Tryz.prog w = .ok (.agg #[x3, x4, x5]) w ∧
    (Instr.index 99 (.agg #[x0, x1, x2, x3, x4, x5, x6, x7, x8, x9, x10, x11]) (.int .i64 2)).run Tryz.prog w = .ok (.agg #[x6, x7, x8]) w ∧
    (Instr.index 99 (.agg #[x0, x1, x2, x3, x4, x5, x6, x7, x8, x9, x10, x11]) (.int .i64 3)).run Tryz.prog w = .ok (.agg #[x9, x10, x11]) w := ⟨by kernel_rfl, by kernel_rfl, by kernel_rfl, by kernel_rfl⟩
theorem index_pArr (f : Int) (j : Nat) (hj : j < 4) (w : World) : (Instr.index 99 (.agg (pArr f)) (.int .i64 j)).run Tryz.prog w = .ok (.agg #[.int .i64 (pF f j), .int .i64 (pC f j), .int .i64 (pA f j)]) w := by
  obtain ⟨a, b, c, d⟩ := index77 (.int .i64 (pF f 0)) (.int .i64 (pC f 0)) (.int .i64 (pA f 0)) (.int .i64 (pF f 1)) (.int .i64 (pC f 1)) (.int .i64 (pA f 1)) (.int .i64 (pF f 2)) (.int .i64 (pC f 2)) (.int .i64 (pA f 2)) (.int .i64 (pF f 3)) (.int .i64 (pC f 3)) (.int .i64 (pA f 3)) w
  have : j = 0 ∨ j = 1 ∨ j = 2 ∨ j = 3 := by omega
  rcases this with rfl | rfl | rfl | rfl
  · exact a
  · exact b
  · exact c
  · exact d
theorem keep3 {W w1 w2 : World} {b : Nat} {x y z : Value} (h : Grown W w1 ∧ w1.cell? ⟨b, 0, none⟩ = some x ∧ w1.cell? ⟨b, 1, none⟩ = some y ∧ w1.cell? ⟨b, 2, none⟩ = some z) (hg : Grown w1 w2) :
    Grown W w2 ∧ w2.cell? ⟨b, 0, none⟩ = some x ∧ w2.cell? ⟨b, 1, none⟩ = some y ∧ w2.cell? ⟨b, 2, none⟩ = some z :=
  ⟨grown_trans h.1 hg, grown_cell hg h.2.1, grown_cell hg h.2.2.1, grown_cell hg h.2.2.2⟩
theorem keepG {W w1 : World} {b : Nat} {x y z : Value} (h : Grown W w1 ∧ w1.cell? ⟨b, 0, none⟩ = some x ∧ w1.cell? ⟨b, 1, none⟩ = some y ∧ w1.cell? ⟨b, 2, none⟩ = some z) : Grown W w1 := h.1
/-- What has been scattered of a number after so many pieces. -/
def scat (f u : Int) : Nat → Int
  | 0 => 0
  | j + 1 => bits .or .u32 (scat f u j) (u / 2 ^ (pF f j).toNat % 2 ^ (pC f j).toNat * 2 ^ (pA f j).toNat % 4294967296)
set_option maxRecDepth 100000 in
set_option maxHeartbeats 4000000 in
theorem c44 (f imm : Int) (hf : isForm f) (w : World) :
    Calls Tryz.prog 44 #[.int .u8 f, .int .i64 imm] w fun e w' => e = .returned (.int .u32 (scat f (imm % 4294967296) 4)) ∧ Grown w w' := by
  go_enter Tryz.func44, Tryz.ntmps44
  go_wp2_with (go_at_call 64; (with_reducible refine (c64 _ hf _).mono ?_); rintro e w' ⟨rfl, hg⟩; have HG := Lib.hid hg; clear hg)
  go_loopw [5, 10] (fun a j wr => ∃ k : Nat, k ≤ 4 ∧ j = .int .i64 k ∧ a = .int .u32 (scat f (imm % 4294967296) k) ∧ Hid (Grown w wr)) (fun _ j _ => 4 - (intOf j).toNat)
  case atStart => exact ⟨0, by omega, rfl, rfl, HG⟩
  case round =>
    obtain ⟨k, hk, rfl, rfl, HW⟩ := hrel
    clear HG
    by_cases hlt : k < 4
    · have hix := index_pArr f k hlt
      obtain ⟨b1, b2, b3, b4, b5, b6, b7, b8⟩ := p_in f hf k hlt
      have HS : Hid (scat f (imm % 4294967296) (k + 1) = bits .or .u32 (scat f (imm % 4294967296) k) (imm % 4294967296 / 2 ^ (pF f k).toNat % 2 ^ (pC f k).toNat * 2 ^ (pA f k).toNat % 4294967296)) := Lib.hid rfl
      have u0 : 0 ≤ imm % 4294967296 := by omega
      have u1 : imm % 4294967296 < 4294967296 := by omega
      have EA := and_mask (x := imm % 4294967296 / 2 ^ (pF f k).toNat) (pC f k).toNat (Int.ediv_nonneg u0 (by have := one_le_pow2 (pF f k).toNat; omega)) (by have := Int.ediv_le_self (2 ^ (pF f k).toNat) u0; omega) (by omega)
      have HE := Lib.hid EA
      clear EA
      generalize pF f k = F at *
      generalize pC f k = C at *
      generalize pA f k = A at *
      go_wp2
      have G0 : Grown w (wr.alloc (.cells #[.int .i64 F, .int .i64 C, .int .i64 A] 98)) := HW.out.alloc _ _
      have z0 := row_cell wr #[.int .i64 F, .int .i64 C, .int .i64 A] 98 0 _ rfl
      have z1 := row_cell wr #[.int .i64 F, .int .i64 C, .int .i64 A] 98 1 _ rfl
      have z2 := row_cell wr #[.int .i64 F, .int .i64 C, .int .i64 A] 98 2 _ rfl
      clear HW
      generalize wr.alloc (.cells #[.int .i64 F, .int .i64 C, .int .i64 A] 98) = w2 at *
      generalize wr.heap.size = b at *
      go_region_held3 (fun w' => Grown w w' ∧ w'.cell? ⟨b, 0, none⟩ = some (.int .i64 F) ∧ w'.cell? ⟨b, 1, none⟩ = some (.int .i64 C) ∧ w'.cell? ⟨b, 2, none⟩ = some (.int .i64 A))
        (first | exact ⟨G0, z0, z1, z2⟩ | assumption | exact keep3 (by assumption) (by assumption))
        (first | (go_at_call 65; refine (c65 _ _ _ b3 b4 _).mono ?_; rintro e w' ⟨rfl, hg⟩))
      have HG' : Hid (Grown w w') := Lib.hid (keepG (by assumption))
      clear G0 z0 z1 z2
      go_wp2
      go_roundw
      case rel => exact ⟨k + 1, by omega, by go_num, by rw [HS.out, ← HE.out]; simp only [IntKind.wrap_u32], HG'⟩
      case measure => simp [intOf]; omega
    · have hk4 : k = 4 := by omega
      subst hk4
      go_wp2
      go_ret
      exact ⟨rfl, HW.out⟩
theorem or_in (x y : Int) : 0 ≤ bits .or .u32 x y ∧ bits .or .u32 x y ≤ 4294967295 := wf_u32 (wf_bits .or .u32 x y)
theorem signF_in {a : Int} (n : Int) (h : 0 ≤ a ∧ a ≤ 4294967295) : 0 ≤ signF a n ∧ signF a n ≤ 4294967295 := by
  unfold signF; split
  · exact h
  · exact mod_in _
/-- What has been gathered of a word after so many pieces. -/
def gath (f u : Int) : Nat → Int
  | 0 => 0
  | j + 1 => bits .or .u32 (gath f u j) (u / 2 ^ (pA f j).toNat % 2 ^ (pC f j).toNat * 2 ^ (pF f j).toNat % 4294967296)
set_option maxRecDepth 100000 in
set_option maxHeartbeats 4000000 in
theorem c43 (f u : Int) (hf : isForm f) (u0 : 0 ≤ u) (u1' : u ≤ 4294967295) (w : World) :
    Calls Tryz.prog 43 #[.int .u8 f, .int .u32 u] w fun e w' => e = .returned (.int .i64 (sg (signF (gath f u 4) (immB f)))) ∧ Grown w w' := by
  have u1 : u < 4294967296 := by omega
  go_enter Tryz.func43, Tryz.ntmps43
  go_wp2_with (go_at_call 64; (with_reducible refine (c64 _ hf _).mono ?_); rintro e w' ⟨rfl, hg⟩; have HG := Lib.hid hg; clear hg)
  go_loopw [5, 10] (fun a j wr => ∃ k : Nat, k ≤ 4 ∧ j = .int .i64 k ∧ a = .int .u32 (gath f (u) k) ∧ Hid (Grown w wr)) (fun _ j _ => 4 - (intOf j).toNat)
  case atStart => exact ⟨0, by omega, rfl, rfl, HG⟩
  case round =>
    obtain ⟨k, hk, rfl, rfl, HW⟩ := hrel
    clear HG
    by_cases hlt : k < 4
    · have hix := index_pArr f k hlt
      obtain ⟨b1, b2, b3, b4, b5, b6, b7, b8⟩ := p_in f hf k hlt
      have HS : Hid (gath f (u) (k + 1) = bits .or .u32 (gath f (u) k) (u / 2 ^ (pA f k).toNat % 2 ^ (pC f k).toNat * 2 ^ (pF f k).toNat % 4294967296)) := Lib.hid rfl
      have EA := and_mask (x := u / 2 ^ (pA f k).toNat) (pC f k).toNat (Int.ediv_nonneg u0 (by have := one_le_pow2 (pA f k).toNat; omega)) (by have := Int.ediv_le_self (2 ^ (pA f k).toNat) u0; omega) (by omega)
      have HE := Lib.hid EA
      clear EA
      generalize pF f k = F at *
      generalize pC f k = C at *
      generalize pA f k = A at *
      go_wp2
      have G0 : Grown w (wr.alloc (.cells #[.int .i64 F, .int .i64 C, .int .i64 A] 98)) := HW.out.alloc _ _
      have z0 := row_cell wr #[.int .i64 F, .int .i64 C, .int .i64 A] 98 0 _ rfl
      have z1 := row_cell wr #[.int .i64 F, .int .i64 C, .int .i64 A] 98 1 _ rfl
      have z2 := row_cell wr #[.int .i64 F, .int .i64 C, .int .i64 A] 98 2 _ rfl
      clear HW
      generalize wr.alloc (.cells #[.int .i64 F, .int .i64 C, .int .i64 A] 98) = w2 at *
      generalize wr.heap.size = b at *
      go_region_held3 (fun w' => Grown w w' ∧ w'.cell? ⟨b, 0, none⟩ = some (.int .i64 F) ∧ w'.cell? ⟨b, 1, none⟩ = some (.int .i64 C) ∧ w'.cell? ⟨b, 2, none⟩ = some (.int .i64 A))
        (first | exact ⟨G0, z0, z1, z2⟩ | assumption | exact keep3 (by assumption) (by assumption))
        (first | (go_at_call 65; refine (c65 _ _ _ b3 b4 _).mono ?_; rintro e w' ⟨rfl, hg⟩))
      have HG' : Hid (Grown w w') := Lib.hid (keepG (by assumption))
      clear G0 z0 z1 z2
      go_wp2
      go_roundw
      case rel => exact ⟨k + 1, by omega, by go_num, by rw [HS.out, ← HE.out]; simp only [IntKind.wrap_u32], HG'⟩
      case measure => simp [intOf]; omega
    · have hk4 : k = 4 := by omega
      subst hk4
      obtain ⟨q0, q1⟩ : 0 ≤ gath f u 4 ∧ gath f u 4 ≤ 4294967295 := or_in _ _
      obtain ⟨r0, r1⟩ := signF_in (immB f) ⟨q0, q1⟩
      have hsg := Lib.hid (sg_wrap r0 r1)
      go_wp2_with (first
        | (go_at_call 67; (with_reducible refine (c67 _ hf _).mono ?_); rintro e w' ⟨rfl, rfl⟩)
        | (go_at_call 66; (with_reducible refine (c66 _ _ q0 q1 _).mono ?_); rintro e w' ⟨rfl, hg⟩; have HG' := Lib.hid (grown_trans HW.out hg); clear hg))
      go_ret
      exact ⟨ret_int hsg.out, HG'.out⟩
end Go.Proofs.YtlagdgkjpnocfaaGreatDoor
