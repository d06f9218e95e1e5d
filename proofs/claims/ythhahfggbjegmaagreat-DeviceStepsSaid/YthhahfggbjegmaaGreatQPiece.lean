/-
  The contracts of the pieces of an immediate: where they stand, how they are scattered over a word, how they are gathered from it. The contracts of fixed and fits: the codes of an instruction as a word; whether the fields are such as the format has. The contracts of Right and Encode. The contract of find: the first instruction's number whose codes stand in a word, or 0. The contracts of Decode, and of the page's examples of layer 2.
-/
import Derived.Test.YthhahfggbjegmaaGreatQTab
namespace Go.Proofs.YthhahfggbjegmaaGreat
open Go.RowKit
set_option linter.unusedVariables false
set_option linter.unusedSimpArgs false

/-- The four pieces of a format: from, count, at. -/
def pcs (f : Int) : List (Int × Int × Int) :=
  if f = 85 then [(12, 20, 12), (0, 0, 0), (0, 0, 0), (0, 0, 0)]
  else if f = 74 then [(20, 1, 31), (1, 10, 21), (11, 1, 20), (12, 8, 12)]
  else if f = 73 then [(0, 12, 20), (0, 0, 0), (0, 0, 0), (0, 0, 0)]
  else if f = 72 then [(0, 5, 20), (0, 0, 0), (0, 0, 0), (0, 0, 0)]
  else if f = 83 then [(0, 5, 7), (5, 7, 25), (0, 0, 0), (0, 0, 0)]
  else if f = 66 then [(12, 1, 31), (5, 6, 25), (1, 4, 8), (11, 1, 7)]
  else [(0, 0, 0), (0, 0, 0), (0, 0, 0), (0, 0, 0)]
def pF (f : Int) (j : Nat) : Int := ((pcs f).getD j (0, 0, 0)).1
def pC (f : Int) (j : Nat) : Int := ((pcs f).getD j (0, 0, 0)).2.1
def pA (f : Int) (j : Nat) : Int := ((pcs f).getD j (0, 0, 0)).2.2
def pArr (f : Int) : Array Value := #[.int .i64 (pF f 0), .int .i64 (pC f 0), .int .i64 (pA f 0), .int .i64 (pF f 1), .int .i64 (pC f 1), .int .i64 (pA f 1), .int .i64 (pF f 2), .int .i64 (pC f 2), .int .i64 (pA f 2), .int .i64 (pF f 3), .int .i64 (pC f 3), .int .i64 (pA f 3)]
theorem p_in (f : Int) (hf : isForm f) (j : Nat) (hj : j < 4) : 0 ≤ pF f j ∧ pF f j ≤ 31 ∧ 0 ≤ pC f j ∧ pC f j ≤ 31 ∧ 0 ≤ pA f j ∧ pA f j ≤ 31 ∧ pC f j + pA f j ≤ 32 ∧ pC f j + pF f j ≤ 32 := by
  have a : ∀ j, j < 4 → (0 ≤ pF 85 j ∧ pF 85 j ≤ 31 ∧ 0 ≤ pC 85 j ∧ pC 85 j ≤ 31 ∧ 0 ≤ pA 85 j ∧ pA 85 j ≤ 31 ∧ pC 85 j + pA 85 j ≤ 32 ∧ pC 85 j + pF 85 j ≤ 32) := by decide
  have b : ∀ j, j < 4 → (0 ≤ pF 74 j ∧ pF 74 j ≤ 31 ∧ 0 ≤ pC 74 j ∧ pC 74 j ≤ 31 ∧ 0 ≤ pA 74 j ∧ pA 74 j ≤ 31 ∧ pC 74 j + pA 74 j ≤ 32 ∧ pC 74 j + pF 74 j ≤ 32) := by decide
  have c : ∀ j, j < 4 → (0 ≤ pF 73 j ∧ pF 73 j ≤ 31 ∧ 0 ≤ pC 73 j ∧ pC 73 j ≤ 31 ∧ 0 ≤ pA 73 j ∧ pA 73 j ≤ 31 ∧ pC 73 j + pA 73 j ≤ 32 ∧ pC 73 j + pF 73 j ≤ 32) := by decide
  have d : ∀ j, j < 4 → (0 ≤ pF 72 j ∧ pF 72 j ≤ 31 ∧ 0 ≤ pC 72 j ∧ pC 72 j ≤ 31 ∧ 0 ≤ pA 72 j ∧ pA 72 j ≤ 31 ∧ pC 72 j + pA 72 j ≤ 32 ∧ pC 72 j + pF 72 j ≤ 32) := by decide
  have e : ∀ j, j < 4 → (0 ≤ pF 83 j ∧ pF 83 j ≤ 31 ∧ 0 ≤ pC 83 j ∧ pC 83 j ≤ 31 ∧ 0 ≤ pA 83 j ∧ pA 83 j ≤ 31 ∧ pC 83 j + pA 83 j ≤ 32 ∧ pC 83 j + pF 83 j ≤ 32) := by decide
  have g : ∀ j, j < 4 → (0 ≤ pF 66 j ∧ pF 66 j ≤ 31 ∧ 0 ≤ pC 66 j ∧ pC 66 j ≤ 31 ∧ 0 ≤ pA 66 j ∧ pA 66 j ≤ 31 ∧ pC 66 j + pA 66 j ≤ 32 ∧ pC 66 j + pF 66 j ≤ 32) := by decide
  have h : ∀ j, j < 4 → (0 ≤ pF 82 j ∧ pF 82 j ≤ 31 ∧ 0 ≤ pC 82 j ∧ pC 82 j ≤ 31 ∧ 0 ≤ pA 82 j ∧ pA 82 j ≤ 31 ∧ pC 82 j + pA 82 j ≤ 32 ∧ pC 82 j + pF 82 j ≤ 32) := by decide
  have i : ∀ j, j < 4 → (0 ≤ pF 0 j ∧ pF 0 j ≤ 31 ∧ 0 ≤ pC 0 j ∧ pC 0 j ≤ 31 ∧ 0 ≤ pA 0 j ∧ pA 0 j ≤ 31 ∧ pC 0 j + pA 0 j ≤ 32 ∧ pC 0 j + pF 0 j ≤ 32) := by decide
  rcases hf with rfl | rfl | rfl | rfl | rfl | rfl | rfl | rfl
  all_goals first | exact a j hj | exact b j hj | exact c j hj | exact d j hj | exact e j hj | exact g j hj | exact h j hj | exact i j hj
set_option maxHeartbeats 4000000 in
theorem c83 (f : Int) (hf : isForm f) (w : World) :
    Calls Tryz.prog 83 #[.int .u8 f] w fun e w' => e = .returned (.agg (pArr f)) ∧ Grown w w' := by
  rcases hf with rfl | rfl | rfl | rfl | rfl | rfl | rfl | rfl
  all_goals
    go_enter Tryz.func83, Tryz.ntmps83
    go_wp2
    refine bodyPost_ret (results_cell_row rfl _ _ w.heap.size 105 _ (0, 0) _ rfl (heap_alloc_new _ _) Tryz.underlying105 rfl (by kernel_rfl)) rfl ⟨by rfl, (Grown.refl _).alloc _ _⟩
theorem index77 (x0 x1 x2 x3 x4 x5 x6 x7 x8 x9 x10 x11 : Value) (w : World) :
    (Instr.index 105 (.agg #[x0, x1, x2, x3, x4, x5, x6, x7, x8, x9, x10, x11]) (.int .i64 0)).run Tryz.prog w = .ok (.agg #[x0, x1, x2]) w ∧
    (Instr.index 105 (.agg #[x0, x1, x2, x3, x4, x5, x6, x7, x8, x9, x10, x11]) (.int .i64 1)).run Tryz.prog w = .ok (.agg #[x3, x4, x5]) w ∧
    (Instr.index 105 (.agg #[x0, x1, x2, x3, x4, x5, x6, x7, x8, x9, x10, x11]) (.int .i64 2)).run Tryz.prog w = .ok (.agg #[x6, x7, x8]) w ∧
    (Instr.index 105 (.agg #[x0, x1, x2, x3, x4, x5, x6, x7, x8, x9, x10, x11]) (.int .i64 3)).run Tryz.prog w = .ok (.agg #[x9, x10, x11]) w := ⟨by kernel_rfl, by kernel_rfl, by kernel_rfl, by kernel_rfl⟩
theorem index_pArr (f : Int) (j : Nat) (hj : j < 4) (w : World) : (Instr.index 105 (.agg (pArr f)) (.int .i64 j)).run Tryz.prog w = .ok (.agg #[.int .i64 (pF f j), .int .i64 (pC f j), .int .i64 (pA f j)]) w := by
  obtain ⟨a, b, c, d⟩ := index77 (.int .i64 (pF f 0)) (.int .i64 (pC f 0)) (.int .i64 (pA f 0)) (.int .i64 (pF f 1)) (.int .i64 (pC f 1)) (.int .i64 (pA f 1)) (.int .i64 (pF f 2)) (.int .i64 (pC f 2)) (.int .i64 (pA f 2)) (.int .i64 (pF f 3)) (.int .i64 (pC f 3)) (.int .i64 (pA f 3)) w
  have : j = 0 ∨ j = 1 ∨ j = 2 ∨ j = 3 := by omega
  rcases this with rfl | rfl | rfl | rfl
  · exact a
  · exact b
  · exact c
  · exact d
theorem keep3 {W w1 w2 : World} {b : Nat} {x y z : Value} (h : Grown W w1 ∧ w1.cell? ⟨b, 0, none⟩ = some x ∧ w1.cell? ⟨b, 1, none⟩ = some y ∧ w1.cell? ⟨b, 2, none⟩ = some z) (hg : Grown w1 w2) :
    Grown W w2 ∧ w2.cell? ⟨b, 0, none⟩ = some x ∧ w2.cell? ⟨b, 1, none⟩ = some y ∧ w2.cell? ⟨b, 2, none⟩ = some z :=
  ⟨grown_trans h.1 hg, grown_cell hg h.2.1, grown_cell hg h.2.2.1, grown_cell hg h.2.2.2⟩
theorem keepG {W w1 : World} {b : Nat} {x y z : Value} (h : Grown W w1 ∧ w1.cell? ⟨b, 0, none⟩ = some x ∧ w1.cell? ⟨b, 1, none⟩ = some y ∧ w1.cell? ⟨b, 2, none⟩ = some z) : Grown W w1 := h.1
/-- What has been scattered of a number after so many pieces. -/
def scat (f u : Int) : Nat → Int
  | 0 => 0
  | j + 1 => bits .or .u32 (scat f u j) (u / 2 ^ (pF f j).toNat % 2 ^ (pC f j).toNat * 2 ^ (pA f j).toNat % 4294967296)
theorem or_in (x y : Int) : 0 ≤ bits .or .u32 x y ∧ bits .or .u32 x y ≤ 4294967295 := wf_u32 (wf_bits .or .u32 x y)
theorem signF_in {a : Int} (n : Int) (h : 0 ≤ a ∧ a ≤ 4294967295) : 0 ≤ signF a n ∧ signF a n ≤ 4294967295 := by
  unfold signF; split
  · exact h
  · exact mod_in _
/-- What has been gathered of a word after so many pieces. -/
def gath (f u : Int) : Nat → Int
  | 0 => 0
  | j + 1 => bits .or .u32 (gath f u j) (u / 2 ^ (pA f j).toNat % 2 ^ (pC f j).toNat * 2 ^ (pF f j).toNat % 4294967296)
set_option maxRecDepth 100000 in
set_option maxHeartbeats 4000000 in
theorem c53 (f u : Int) (hf : isForm f) (u0 : 0 ≤ u) (u1' : u ≤ 4294967295) (w : World) :
    Calls Tryz.prog 53 #[.int .u8 f, .int .u32 u] w fun e w' => e = .returned (.int .i64 (sg (signF (gath f u 4) (immB f)))) ∧ Grown w w' := by
  have u1 : u < 4294967296 := by omega
  go_enter Tryz.func53, Tryz.ntmps53
  go_wp2_with (go_at_call 83; (with_reducible refine (c83 _ hf _).mono ?_); rintro e w' ⟨rfl, hg⟩; have HG := Lib.hid hg; clear hg)
  go_loopw [5, 10] (fun a j wr => ∃ k : Nat, k ≤ 4 ∧ j = .int .i64 k ∧ a = .int .u32 (gath f (u) k) ∧ Hid (Grown w wr)) (fun _ j _ => 4 - (intOf j).toNat)
  case atStart => exact ⟨0, by omega, rfl, rfl, HG⟩
  case round =>
    obtain ⟨k, hk, rfl, rfl, HW⟩ := hrel
    clear HG
    by_cases hlt : k < 4
    · have hix := index_pArr f k hlt
      obtain ⟨b1, b2, b3, b4, b5, b6, b7, b8⟩ := p_in f hf k hlt
      have HS : Hid (gath f (u) (k + 1) = bits .or .u32 (gath f (u) k) (u / 2 ^ (pA f k).toNat % 2 ^ (pC f k).toNat * 2 ^ (pF f k).toNat % 4294967296)) := Lib.hid rfl
      have EA := and_mask (x := u / 2 ^ (pA f k).toNat) (pC f k).toNat (Int.ediv_nonneg u0 (by have := one_le_pow2 (pA f k).toNat; omega)) (by have := Int.ediv_le_self (2 ^ (pA f k).toNat) u0; omega) (by omega)
      have HE := Lib.hid EA
      clear EA
      generalize pF f k = F at *
      generalize pC f k = C at *
      generalize pA f k = A at *
      go_wp2
      have G0 : Grown w (wr.alloc (.cells #[.int .i64 F, .int .i64 C, .int .i64 A] 104)) := HW.out.alloc _ _
      have z0 := row_cell wr #[.int .i64 F, .int .i64 C, .int .i64 A] 104 0 _ rfl
      have z1 := row_cell wr #[.int .i64 F, .int .i64 C, .int .i64 A] 104 1 _ rfl
      have z2 := row_cell wr #[.int .i64 F, .int .i64 C, .int .i64 A] 104 2 _ rfl
      clear HW
      generalize wr.alloc (.cells #[.int .i64 F, .int .i64 C, .int .i64 A] 104) = w2 at *
      generalize wr.heap.size = b at *
      go_region_held3 (fun w' => Grown w w' ∧ w'.cell? ⟨b, 0, none⟩ = some (.int .i64 F) ∧ w'.cell? ⟨b, 1, none⟩ = some (.int .i64 C) ∧ w'.cell? ⟨b, 2, none⟩ = some (.int .i64 A))
        (first | exact ⟨G0, z0, z1, z2⟩ | assumption | exact keep3 (by assumption) (by assumption))
        (first | (go_at_call 84; refine (c84 _ _ _ b3 b4 _).mono ?_; rintro e w' ⟨rfl, hg⟩))
      have HG' : Hid (Grown w w') := Lib.hid (keepG (by assumption))
      clear G0 z0 z1 z2
      go_wp2
      go_roundw
      case rel => exact ⟨k + 1, by omega, by go_num, by rw [HS.out, ← HE.out]; simp only [IntKind.wrap_u32], HG'⟩
      case measure => simp [intOf]; omega
    · have hk4 : k = 4 := by omega
      subst hk4
      obtain ⟨q0, q1⟩ : 0 ≤ gath f u 4 ∧ gath f u 4 ≤ 4294967295 := or_in _ _
      obtain ⟨r0, r1⟩ := signF_in (immB f) ⟨q0, q1⟩
      have hsg := Lib.hid (sg_wrap r0 r1)
      go_wp2_with (first
        | (go_at_call 86; (with_reducible refine (c86 _ hf _).mono ?_); rintro e w' ⟨rfl, rfl⟩)
        | (go_at_call 85; (with_reducible refine (c85 _ _ q0 q1 _).mono ?_); rintro e w' ⟨rfl, hg⟩; have HG' := Lib.hid (grown_trans HW.out hg); clear hg))
      go_ret
      exact ⟨ret_int hsg.out, HG'.out⟩

def fixF (b c d : Int) : Int := b + c * 4096 + d * 33554432
theorem c81 (s : ByteArray) (a b c d : Int) (hb : 0 ≤ b ∧ b < 128) (hc : 0 ≤ c ∧ c < 8) (hd : 0 ≤ d ∧ d < 128) (w : World) :
    Calls Tryz.prog 81 #[.agg #[.string s, .int .u8 a, .int .u8 b, .int .u8 c, .int .u8 d]] w fun e w' => e = .returned (.int .u32 (fixF b c d)) ∧ Grown w w' := by
  obtain ⟨b0, b1⟩ := hb
  obtain ⟨c0, c1⟩ := hc
  obtain ⟨d0, d1⟩ := hd
  have E1 : bits .or .u32 b (c * 4096) = b + c * 4096 := by
    have := or_field (x := b) (f := c) 12 3 b0 (by omega) c0 (by simp; omega) (by simp; omega) (by omega)
    simpa using this
  have E2 : bits .or .u32 (b + c * 4096) (d * 33554432) = b + c * 4096 + d * 33554432 := by
    have := or_field (x := b + c * 4096) (f := d) 25 7 (by omega) (by omega) d0 (by simp; omega) (by simp; omega) (by omega)
    simpa using this
  go_enter Tryz.func81, Tryz.ntmps81
  go_wp2
  go_ret
  exact ⟨rfl, (Grown.refl _).alloc _ _⟩
/-- What a word's immediate is. -/
def gathS (f u : Int) : Int := sg (signF (gath f u 4) (immB f))
def fitsB (rd r1 r2 imm f : Int) : Bool := f != 0 && regB rd (uRd f) && regB r1 (uRs1 f) && regB r2 (uRs2 f) && gathS f (scat f (imm % 4294967296) 4) == imm
theorem keep5 {W w1 w2 : World} {b : Nat} {v0 v1 v2 v3 v4 : Value} (h : Grown W w1 ∧ w1.cell? ⟨b, 0, none⟩ = some v0 ∧ w1.cell? ⟨b, 1, none⟩ = some v1 ∧ w1.cell? ⟨b, 2, none⟩ = some v2 ∧ w1.cell? ⟨b, 3, none⟩ = some v3 ∧ w1.cell? ⟨b, 4, none⟩ = some v4) (hg : Grown w1 w2) :
    Grown W w2 ∧ w2.cell? ⟨b, 0, none⟩ = some v0 ∧ w2.cell? ⟨b, 1, none⟩ = some v1 ∧ w2.cell? ⟨b, 2, none⟩ = some v2 ∧ w2.cell? ⟨b, 3, none⟩ = some v3 ∧ w2.cell? ⟨b, 4, none⟩ = some v4 :=
  ⟨grown_trans h.1 hg, grown_cell hg h.2.1, grown_cell hg h.2.2.1, grown_cell hg h.2.2.2.1, grown_cell hg h.2.2.2.2.1, grown_cell hg h.2.2.2.2.2⟩
theorem keepG5 {W w1 : World} {b : Nat} {v0 v1 v2 v3 v4 : Value} (h : Grown W w1 ∧ w1.cell? ⟨b, 0, none⟩ = some v0 ∧ w1.cell? ⟨b, 1, none⟩ = some v1 ∧ w1.cell? ⟨b, 2, none⟩ = some v2 ∧ w1.cell? ⟨b, 3, none⟩ = some v3 ∧ w1.cell? ⟨b, 4, none⟩ = some v4) : Grown W w1 := h.1

theorem oc_in : ∀ k : Nat, k < 46 → 0 ≤ oc k ∧ oc k < 128 := by decide
theorem f3_in : ∀ k : Nat, k < 46 → 0 ≤ f3 k ∧ f3 k < 8 := by decide
theorem f7_in : ∀ k : Nat, k < 46 → 0 ≤ f7 k ∧ f7 k < 128 := by decide
/-- The codes of an instruction's number as a word. -/
def fixK (k : Nat) : Int := fixF (oc k) (f3 k) (f7 k)
/-- The word of an instruction's fields. -/
def encW (op rd r1 r2 imm : Int) : Int :=
  bits .or .u32 (bits .or .u32 (fixK (ix op)) (bits .or .u32 (bits .or .u32 (rd * 128) (r1 * 32768)) (r2 * 1048576))) (scat (fm (ix op)) (imm % 4294967296) 4)
theorem reg_in {n : Int} {u : Bool} (h : regB n u = true) : 0 ≤ n ∧ n ≤ 31 := by
  unfold regB at h; split at h <;> simp at h <;> omega
theorem fits_regs {rd r1 r2 imm f : Int} (h : fitsB rd r1 r2 imm f = true) : (0 ≤ rd ∧ rd ≤ 31) ∧ (0 ≤ r1 ∧ r1 ≤ 31) ∧ (0 ≤ r2 ∧ r2 ≤ 31) := by
  unfold fitsB at h
  simp only [Bool.and_eq_true] at h
  exact ⟨reg_in h.1.1.1.2, reg_in h.1.1.2, reg_in h.1.2⟩
theorem keep6 {W w1 w2 : World} {b c : Nat} {v0 v1 v2 v3 v4 x : Value} (h : Grown W w1 ∧ w1.cell? ⟨b, 0, none⟩ = some v0 ∧ w1.cell? ⟨b, 1, none⟩ = some v1 ∧ w1.cell? ⟨b, 2, none⟩ = some v2 ∧ w1.cell? ⟨b, 3, none⟩ = some v3 ∧ w1.cell? ⟨b, 4, none⟩ = some v4 ∧ w1.cell? ⟨c, 4, none⟩ = some x) (hg : Grown w1 w2) :
    Grown W w2 ∧ w2.cell? ⟨b, 0, none⟩ = some v0 ∧ w2.cell? ⟨b, 1, none⟩ = some v1 ∧ w2.cell? ⟨b, 2, none⟩ = some v2 ∧ w2.cell? ⟨b, 3, none⟩ = some v3 ∧ w2.cell? ⟨b, 4, none⟩ = some v4 ∧ w2.cell? ⟨c, 4, none⟩ = some x :=
  ⟨grown_trans h.1 hg, grown_cell hg h.2.1, grown_cell hg h.2.2.1, grown_cell hg h.2.2.2.1, grown_cell hg h.2.2.2.2.1, grown_cell hg h.2.2.2.2.2.1, grown_cell hg h.2.2.2.2.2.2⟩
theorem keepG6 {W w1 : World} {b c : Nat} {v0 v1 v2 v3 v4 x : Value} (h : Grown W w1 ∧ w1.cell? ⟨b, 0, none⟩ = some v0 ∧ w1.cell? ⟨b, 1, none⟩ = some v1 ∧ w1.cell? ⟨b, 2, none⟩ = some v2 ∧ w1.cell? ⟨b, 3, none⟩ = some v3 ∧ w1.cell? ⟨b, 4, none⟩ = some v4 ∧ w1.cell? ⟨c, 4, none⟩ = some x) : Grown W w1 := h.1

/-- Do the codes of number k stand in the word? -/
def mB (u : Int) (k : Nat) : Bool := k != 0 && bits .and .u32 u (maskF (fm k)) == fixK k
def findI (u : Int) : Nat := ((List.range 46).find? (mB u)).getD 0
theorem find_first {u : Int} {k : Nat} (hk : k < 46) (h : ∀ j, j < k → mB u j = false) (hm : mB u k = true) : findI u = k := by
  have e : (List.range 46).find? (mB u) = some k := by
    rw [List.find?_eq_some_iff_getElem]
    refine ⟨hm, k, by simpa using hk, by simp, fun j hj => ?_⟩
    simp only [List.getElem_range]
    rw [h j hj]; rfl
  unfold findI; rw [e]; rfl
theorem find_none {u : Int} (h : ∀ j, j < 46 → mB u j = false) : findI u = 0 := by
  have e : (List.range 46).find? (mB u) = none := by
    rw [List.find?_eq_none]
    intro x hx
    rw [h x (by simpa using hx)]; simp
  unfold findI; rw [e]; rfl
set_option maxRecDepth 1000000 in
set_option maxHeartbeats 8000000 in
theorem index_codes (k : Nat) (h : k < 46) (w : World) : (Instr.index 99 (.agg codesArr) (.int .i64 k)).run Tryz.prog w = .ok (.agg #[.string (nm k), .int .u8 (fm k), .int .u8 (oc k), .int .u8 (f3 k), .int .u8 (f7 k)]) w := by
  match k, h with
  | 0, _ | 1, _ | 2, _ | 3, _ | 4, _ | 5, _ | 6, _ | 7, _ | 8, _ | 9, _ | 10, _ | 11, _ | 12, _ | 13, _ | 14, _ | 15, _ | 16, _ | 17, _ | 18, _ | 19, _ | 20, _ | 21, _ | 22, _ | 23, _ | 24, _ | 25, _ | 26, _ | 27, _ | 28, _ | 29, _ | 30, _ | 31, _ | 32, _ | 33, _ | 34, _ | 35, _ | 36, _ | 37, _ | 38, _ | 39, _ | 40, _ | 41, _ | 42, _ | 43, _ | 44, _ | 45, _ => (show _ = _; kernel_rfl)
  | n + 46, hn => exact absurd hn (by omega)
set_option maxRecDepth 100000 in
set_option maxHeartbeats 8000000 in
theorem c49 (u : Int) (h0 : 0 ≤ u) (h1 : u ≤ 4294967295) (w : World) :
    Calls Tryz.prog 49 #[.int .u32 u] w fun e w' => e = .returned (.int .i64 (findI u)) ∧ Grown w w' := by
  go_enter Tryz.func49, Tryz.ntmps49
  go_wp2_with (go_at_call 79; (with_reducible refine (c79 _).mono ?_); rintro e w' ⟨rfl, hg⟩; have HG := Lib.hid hg; clear hg)
  go_loopw [6] (fun j wr => ∃ k : Nat, k ≤ 46 ∧ j = .int .i64 k ∧ Hid (∀ i, i < k → mB u i = false) ∧ Hid (Grown w wr)) (fun j _ => 46 - (intOf j).toNat)
  case atStart => exact ⟨0, by omega, rfl, Lib.hid (fun i hi => absurd hi (by omega)), HG⟩
  case round =>
    obtain ⟨k, hk, rfl, HN, HW⟩ := hrel
    clear HG
    by_cases hlt : k < 46
    · have hix := index_codes k hlt
      have K76 : Hid (∀ w, Calls Tryz.prog 81 #[.agg #[.string (nm k), .int .u8 (fm k), .int .u8 (oc k), .int .u8 (f3 k), .int .u8 (f7 k)]] w fun e w' => e = .returned (.int .u32 (fixK k)) ∧ Grown w w') := Lib.hid (c81 (nm k) (fm k) (oc k) (f3 k) (f7 k) (oc_in k hlt) (f3_in k hlt) (f7_in k hlt))
      have K97 := Lib.hid (c80 (fm k) (fm_form' k hlt))
      by_cases hk0 : k = 0
      · have hkn : ((k : Int) != 0) = false := by simp; omega
        have HN' : Hid (∀ i, i < k + 1 → mB u i = false) := Lib.hid (fun i hi => by
          have : i = 0 := by omega
          subst this; rfl)
        have H0 := Lib.hid hk0
        clear hk0
        go_wp2
        have HG := Lib.hid (HW.out.alloc #[.string (nm k), .int .u8 (fm k), .int .u8 (oc k), .int .u8 (f3 k), .int .u8 (f7 k)] 98)
        clear HW
        generalize wr.alloc (.cells #[.string (nm k), .int .u8 (fm k), .int .u8 (oc k), .int .u8 (f3 k), .int .u8 (f7 k)] 98) = w2 at *
        go_quiet (fail)
        go_wp2
        go_roundw
        case rel => exact ⟨k + 1, by omega, by go_num, HN', Lib.hid (grown_drewN HG.out _)⟩
        case measure => simp [intOf]; omega
      · have hkn : ((k : Int) != 0) = true := by simp; omega
        cases hm : (bits BinOp.and .u32 u (maskF (fm k)) == fixK k)
        · have HN' : Hid (∀ i, i < k + 1 → mB u i = false) := Lib.hid (fun i hi => by
            by_cases hi' : i < k
            · exact HN.out i hi'
            · have : i = k := by omega
              subst this; unfold mB; rw [hm]; simp)
          go_wp2
          have G0 : Grown w (wr.alloc (.cells #[.string (nm k), .int .u8 (fm k), .int .u8 (oc k), .int .u8 (f3 k), .int .u8 (f7 k)] 98)) := HW.out.alloc _ _
          have z0 := row_cell wr #[.string (nm k), .int .u8 (fm k), .int .u8 (oc k), .int .u8 (f3 k), .int .u8 (f7 k)] 98 0 (.string (nm k)) rfl
          have z1 := row_cell wr #[.string (nm k), .int .u8 (fm k), .int .u8 (oc k), .int .u8 (f3 k), .int .u8 (f7 k)] 98 1 (.int .u8 (fm k)) rfl
          have z2 := row_cell wr #[.string (nm k), .int .u8 (fm k), .int .u8 (oc k), .int .u8 (f3 k), .int .u8 (f7 k)] 98 2 (.int .u8 (oc k)) rfl
          have z3 := row_cell wr #[.string (nm k), .int .u8 (fm k), .int .u8 (oc k), .int .u8 (f3 k), .int .u8 (f7 k)] 98 3 (.int .u8 (f3 k)) rfl
          have z4 := row_cell wr #[.string (nm k), .int .u8 (fm k), .int .u8 (oc k), .int .u8 (f3 k), .int .u8 (f7 k)] 98 4 (.int .u8 (f7 k)) rfl
          clear HW
          generalize wr.alloc (.cells #[.string (nm k), .int .u8 (fm k), .int .u8 (oc k), .int .u8 (f3 k), .int .u8 (f7 k)] 98) = w2 at *
          generalize wr.heap.size = b at *
          go_region_held3 (fun w' => Grown w w' ∧ w'.cell? ⟨b, 0, none⟩ = some (.string (nm k)) ∧ w'.cell? ⟨b, 1, none⟩ = some (.int .u8 (fm k)) ∧ w'.cell? ⟨b, 2, none⟩ = some (.int .u8 (oc k)) ∧ w'.cell? ⟨b, 3, none⟩ = some (.int .u8 (f3 k)) ∧ w'.cell? ⟨b, 4, none⟩ = some (.int .u8 (f7 k)))
            (first | exact ⟨G0, z0, z1, z2, z3, z4⟩ | assumption | exact keep5 (by assumption) (by assumption))
            (first
              | (go_at_call 80; refine (K97.out _).mono ?_; rintro e w' ⟨rfl, rfl⟩)
              | (go_at_call 81; refine (K76.out _).mono ?_; rintro e w' ⟨rfl, hg⟩))
          have HG : Hid (Grown w w') := Lib.hid (keepG5 (by assumption))
          clear G0 z0 z1 z2 z3 z4
          go_wp2
          go_roundw
          case rel => exact ⟨k + 1, by omega, by go_num, HN', HG⟩
          case measure => simp [intOf]; omega
        · have HF := Lib.hid (find_first hlt HN.out (by unfold mB; rw [hm]; simpa using hk0))
          go_wp2
          have G0 : Grown w (wr.alloc (.cells #[.string (nm k), .int .u8 (fm k), .int .u8 (oc k), .int .u8 (f3 k), .int .u8 (f7 k)] 98)) := HW.out.alloc _ _
          have z0 := row_cell wr #[.string (nm k), .int .u8 (fm k), .int .u8 (oc k), .int .u8 (f3 k), .int .u8 (f7 k)] 98 0 (.string (nm k)) rfl
          have z1 := row_cell wr #[.string (nm k), .int .u8 (fm k), .int .u8 (oc k), .int .u8 (f3 k), .int .u8 (f7 k)] 98 1 (.int .u8 (fm k)) rfl
          have z2 := row_cell wr #[.string (nm k), .int .u8 (fm k), .int .u8 (oc k), .int .u8 (f3 k), .int .u8 (f7 k)] 98 2 (.int .u8 (oc k)) rfl
          have z3 := row_cell wr #[.string (nm k), .int .u8 (fm k), .int .u8 (oc k), .int .u8 (f3 k), .int .u8 (f7 k)] 98 3 (.int .u8 (f3 k)) rfl
          have z4 := row_cell wr #[.string (nm k), .int .u8 (fm k), .int .u8 (oc k), .int .u8 (f3 k), .int .u8 (f7 k)] 98 4 (.int .u8 (f7 k)) rfl
          clear HW
          generalize wr.alloc (.cells #[.string (nm k), .int .u8 (fm k), .int .u8 (oc k), .int .u8 (f3 k), .int .u8 (f7 k)] 98) = w2 at *
          generalize wr.heap.size = b at *
          go_region_held3 (fun w' => Grown w w' ∧ w'.cell? ⟨b, 0, none⟩ = some (.string (nm k)) ∧ w'.cell? ⟨b, 1, none⟩ = some (.int .u8 (fm k)) ∧ w'.cell? ⟨b, 2, none⟩ = some (.int .u8 (oc k)) ∧ w'.cell? ⟨b, 3, none⟩ = some (.int .u8 (f3 k)) ∧ w'.cell? ⟨b, 4, none⟩ = some (.int .u8 (f7 k)))
            (first | exact ⟨G0, z0, z1, z2, z3, z4⟩ | assumption | exact keep5 (by assumption) (by assumption))
            (first
              | (go_at_call 80; refine (K97.out _).mono ?_; rintro e w' ⟨rfl, rfl⟩)
              | (go_at_call 81; refine (K76.out _).mono ?_; rintro e w' ⟨rfl, hg⟩))
          have HG : Hid (Grown w w') := Lib.hid (keepG5 (by assumption))
          clear G0 z0 z1 z2 z3 z4
          go_wp2
          go_ret
          exact ⟨by rw [HF.out]; rfl, HG.out⟩
    · have hk4 : k = 46 := by omega
      subst hk4
      have HF := Lib.hid (find_none HN.out)
      go_wp2
      go_ret
      exact ⟨by rw [HF.out]; rfl, HW.out⟩

theorem find_lt (u : Int) : findI u < 46 := by
  unfold findI
  cases h : (List.range 46).find? (mB u) with
  | none => simp
  | some x =>
    have := List.mem_of_find?_eq_some h
    simpa using this
theorem ix_nat {k : Nat} (h : k < 46) : ix (k : Int) = k := by unfold ix; rw [if_pos (by omega)]; omega
def zero34 : Array Value := #[.int .i64 0, .int .i64 0, .int .i64 0, .int .i64 0, .int .i64 0]
set_option maxRecDepth 100000 in
set_option maxHeartbeats 8000000 in
theorem c33_none (u : Int) (h0 : 0 ≤ u) (h1 : u ≤ 4294967295) (hk : findI u = 0) (w : World) :
    Calls Tryz.prog 33 #[.int .u32 u] w fun e w' => e = .returned (.tuple #[.agg #[.int .i64 0, .int .i64 0, .int .i64 0, .int .i64 0, .int .i64 0], .int .i64 3]) ∧ Grown w w' := by
  have K82 := c49 u h0 h1
  rw [hk] at K82
  have H82 : Hid (∀ w, Calls Tryz.prog 49 #[.int .u32 u] w fun e w' => e = .returned (.int .i64 0) ∧ Grown w w') := Lib.hid K82
  clear K82 hk
  go_enter Tryz.func33, Tryz.ntmps33
  go_wp2_with (go_at_call 49; (with_reducible refine (H82.out _).mono ?_); rintro e w' ⟨rfl, hg⟩
               have z0 := grown_cell hg (row_cell w zero34 70 0 (.int .i64 0) rfl)
               have z1 := grown_cell hg (row_cell w zero34 70 1 (.int .i64 0) rfl)
               have z2 := grown_cell hg (row_cell w zero34 70 2 (.int .i64 0) rfl)
               have z3 := grown_cell hg (row_cell w zero34 70 3 (.int .i64 0) rfl)
               have z4 := grown_cell hg (row_cell w zero34 70 4 (.int .i64 0) rfl)
               have y0 := new_frozen hg 0
               have y1 := new_frozen hg 1
               have y2 := new_frozen hg 2
               have y3 := new_frozen hg 3
               have y4 := new_frozen hg 4
               have HG := Lib.hid hg; clear hg)
  refine bodyPost_ret (v := .tuple #[.agg #[.int .i64 0, .int .i64 0, .int .i64 0, .int .i64 0, .int .i64 0], .int .i64 3]) (by simp [results, Tryz.results33, go_sem, z0, z1, z2, z3, z4]) rfl ⟨rfl, ?_⟩
  exact (((((grown_trans ((Grown.refl w).alloc _ _) HG.out).setCell (Nat.le_refl _) _).setCell (Nat.le_refl _) _).setCell (Nat.le_refl _) _).setCell (Nat.le_refl _) _).setCell (Nat.le_refl _) _
set_option maxRecDepth 100000 in
set_option maxHeartbeats 8000000 in
theorem c33_some (u : Int) (h0 : 0 ≤ u) (h1 : u ≤ 4294967295) (k : Nat) (hk : findI u = k) (hk0 : k ≠ 0) (w : World) :
    Calls Tryz.prog 33 #[.int .u32 u] w fun e w' => e = .returned (.tuple #[.agg #[.int .i64 k, .int .i64 (regV u 7 (uRd (fm k))), .int .i64 (regV u 15 (uRs1 (fm k))), .int .i64 (regV u 20 (uRs2 (fm k))), .int .i64 (gathS (fm k) u)], .int .i64 0]) ∧ Grown w w' := by
  have hlt : k < 46 := hk ▸ find_lt u
  have K82 := c49 u h0 h1
  rw [hk] at K82
  have K60 := c50 k
  rw [ix_nat hlt] at K60
  have hf := fm_form' k hlt
  have H82 := Lib.hid K82
  have H60 := Lib.hid K60
  have H83 := Lib.hid (c51 (fm k) hf)
  have H85 : Hid (∀ w, Calls Tryz.prog 53 #[.int .u8 (fm k), .int .u32 u] w fun e w' => e = .returned (.int .i64 (gathS (fm k) u)) ∧ Grown w w') := Lib.hid (c53 (fm k) u hf h0 h1)
  have H84a := Lib.hid (c52 u 7 (uRd (fm k)) h0 h1 (by simp))
  have H84b := Lib.hid (c52 u 15 (uRs1 (fm k)) h0 h1 (by simp))
  have H84c := Lib.hid (c52 u 20 (uRs2 (fm k)) h0 h1 (by simp))
  have hkn : ((k : Int) == 0) = false := by simp; omega
  have hkn' : ¬ (k : Int) = 0 := by omega
  clear K82 K60 hf hk hk0
  generalize fm k = f at *
  generalize gathS f u = T at *
  generalize regV u 7 (uRd f) = A at *
  generalize regV u 15 (uRs1 f) = B at *
  generalize regV u 20 (uRs2 f) = C at *
  generalize uRd f = U0 at *
  generalize uRs1 f = U1 at *
  generalize uRs2 f = U2 at *
  go_enter Tryz.func33, Tryz.ntmps33
  go_wp2_with (first
    | (go_at_call 49; (with_reducible refine (H82.out _).mono ?_); rintro e w' ⟨rfl, hg⟩; have HG := Lib.hid hg; clear hg)
    | (go_at_call 50; (with_reducible refine (H60.out _).mono ?_); rintro e w2 ⟨rfl, hg⟩; have HG2 := Lib.hid (grown_trans HG.out hg); clear hg HG)
    | (go_at_call 51; (with_reducible refine (H83.out _).mono ?_); rintro e w' ⟨rfl, rfl⟩)
    | (go_at_call 52; (with_reducible refine (H84a.out _).mono ?_); rintro e w' ⟨rfl, rfl⟩)
    | (go_at_call 52; (with_reducible refine (H84b.out _).mono ?_); rintro e w' ⟨rfl, rfl⟩)
    | (go_at_call 52; (with_reducible refine (H84c.out _).mono ?_); rintro e w' ⟨rfl, rfl⟩)
    | (go_at_call 53; (with_reducible refine (H85.out _).mono ?_); rintro e w3 ⟨rfl, hg⟩
       have hG := grown_trans HG2.out hg
       have z0 := grown_cell hG (row_cell w zero34 70 0 (.int .i64 0) rfl)
       have z1 := grown_cell hG (row_cell w zero34 70 1 (.int .i64 0) rfl)
       have z2 := grown_cell hG (row_cell w zero34 70 2 (.int .i64 0) rfl)
       have z3 := grown_cell hG (row_cell w zero34 70 3 (.int .i64 0) rfl)
       have z4 := grown_cell hG (row_cell w zero34 70 4 (.int .i64 0) rfl)
       have y0 := new_frozen hG 0
       have y1 := new_frozen hG 1
       have y2 := new_frozen hG 2
       have y3 := new_frozen hG 3
       have y4 := new_frozen hG 4
       have HG3 := Lib.hid hG; clear hg hG HG2))
  refine bodyPost_ret (v := .tuple #[.agg #[.int .i64 k, .int .i64 A, .int .i64 B, .int .i64 C, .int .i64 T], .int .i64 0]) (by simp [results, Tryz.results33, go_sem, z0, z1, z2, z3, z4]) rfl ⟨rfl, ?_⟩
  exact (((((grown_trans ((Grown.refl w).alloc _ _) HG3.out).setCell (Nat.le_refl _) _).setCell (Nat.le_refl _) _).setCell (Nat.le_refl _) _).setCell (Nat.le_refl _) _).setCell (Nat.le_refl _) _
end Go.Proofs.YthhahfggbjegmaaGreat
