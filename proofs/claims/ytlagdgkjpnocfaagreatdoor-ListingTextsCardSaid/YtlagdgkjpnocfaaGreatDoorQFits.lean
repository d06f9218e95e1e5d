/-
  The contracts of fixed and fits: the codes of an instruction as a word; whether the fields are such as the format has. The contracts of Right and Encode. The contract of find: the first instruction's number whose codes stand in a word, or 0. The contracts of Decode, and of the page's examples of layer 2.
-/
import Derived.Test.YtlagdgkjpnocfaaGreatDoorQCode
namespace Go.Proofs.YtlagdgkjpnocfaaGreatDoor
open Go.RowKit
set_option linter.unusedVariables false
set_option linter.unusedSimpArgs false

def fixF (b c d : Int) : Int := b + c * 4096 + d * 33554432
theorem c77 (s : ByteArray) (a b c d : Int) (hb : 0 ≤ b ∧ b < 128) (hc : 0 ≤ c ∧ c < 8) (hd : 0 ≤ d ∧ d < 128) (w : World) :
    Calls Tryz.prog 77 #[.agg #[.string s, .int .u8 a, .int .u8 b, .int .u8 c, .int .u8 d]] w fun e w' => e = .returned (.int .u32 (fixF b c d)) ∧ Grown w w' := by
  obtain ⟨b0, b1⟩ := hb
  obtain ⟨c0, c1⟩ := hc
  obtain ⟨d0, d1⟩ := hd
  have E1 : bits .or .u32 b (c * 4096) = b + c * 4096 := by
    have := or_field (x := b) (f := c) 12 3 b0 (by omega) c0 (by simp; omega) (by simp; omega) (by omega)
    simpa using this
  have E2 : bits .or .u32 (b + c * 4096) (d * 33554432) = b + c * 4096 + d * 33554432 := by
    have := or_field (x := b + c * 4096) (f := d) 25 7 (by omega) (by omega) d0 (by simp; omega) (by simp; omega) (by omega)
    simpa using this
  go_enter Tryz.func77, Tryz.ntmps77
  go_wp2
  go_ret
  exact ⟨rfl, (Grown.refl _).alloc _ _⟩
/-- What a word's immediate is. -/
def gathS (f u : Int) : Int := sg (signF (gath f u 4) (immB f))
def fitsB (rd r1 r2 imm f : Int) : Bool := f != 0 && regB rd (uRd f) && regB r1 (uRs1 f) && regB r2 (uRs2 f) && gathS f (scat f (imm % 4294967296) 4) == imm
theorem keep5 {W w1 w2 : World} {b : Nat} {v0 v1 v2 v3 v4 : Value} (h : Grown W w1 ∧ w1.cell? ⟨b, 0, none⟩ = some v0 ∧ w1.cell? ⟨b, 1, none⟩ = some v1 ∧ w1.cell? ⟨b, 2, none⟩ = some v2 ∧ w1.cell? ⟨b, 3, none⟩ = some v3 ∧ w1.cell? ⟨b, 4, none⟩ = some v4) (hg : Grown w1 w2) :
    Grown W w2 ∧ w2.cell? ⟨b, 0, none⟩ = some v0 ∧ w2.cell? ⟨b, 1, none⟩ = some v1 ∧ w2.cell? ⟨b, 2, none⟩ = some v2 ∧ w2.cell? ⟨b, 3, none⟩ = some v3 ∧ w2.cell? ⟨b, 4, none⟩ = some v4 :=
  ⟨grown_trans h.1 hg, grown_cell hg h.2.1, grown_cell hg h.2.2.1, grown_cell hg h.2.2.2.1, grown_cell hg h.2.2.2.2.1, grown_cell hg h.2.2.2.2.2⟩
theorem keepG5 {W w1 : World} {b : Nat} {v0 v1 v2 v3 v4 : Value} (h : Grown W w1 ∧ w1.cell? ⟨b, 0, none⟩ = some v0 ∧ w1.cell? ⟨b, 1, none⟩ = some v1 ∧ w1.cell? ⟨b, 2, none⟩ = some v2 ∧ w1.cell? ⟨b, 3, none⟩ = some v3 ∧ w1.cell? ⟨b, 4, none⟩ = some v4) : Grown W w1 := h.1
set_option maxRecDepth 100000 in
set_option maxHeartbeats 8000000 in
/-- Where all registers fit, the immediate decides. -/
theorem c25_all (op rd r1 r2 imm f S T : Int) (U0 U1 U2 : Bool) (w : World)
    (K83 : Hid (∀ w, Calls Tryz.prog 41 #[.int .u8 f] w fun e w' => e = .returned (.tuple #[.bool U0, .bool U1, .bool U2]) ∧ w = w'))
    (K77 : Hid (∀ w, Calls Tryz.prog 44 #[.int .u8 f, .int .i64 imm] w fun e w' => e = .returned (.int .u32 S) ∧ Grown w w'))
    (K85 : Hid (∀ w, Calls Tryz.prog 43 #[.int .u8 f, .int .u32 S] w fun e w' => e = .returned (.int .i64 T) ∧ Grown w w'))
    (h0 : (f != 0) = true) (hA : regB rd U0 = true) (hB : regB r1 U1 = true) (hC : regB r2 U2 = true) :
    Calls Tryz.prog 25 #[.agg #[.int .i64 op, .int .i64 rd, .int .i64 r1, .int .i64 r2, .int .i64 imm], .int .u8 f] w fun e w' => e = .returned (.bool (T == imm)) ∧ Grown w w' := by
  have Z : Hid (Grown w (w.alloc (.cells #[.int .i64 op, .int .i64 rd, .int .i64 r1, .int .i64 r2, .int .i64 imm] 23)) ∧ _) := Lib.hid (And.intro ((Grown.refl _).alloc _ _) (And.intro (row_cell w #[.int .i64 op, .int .i64 rd, .int .i64 r1, .int .i64 r2, .int .i64 imm] 23 0 (.int .i64 op) rfl) (And.intro (row_cell w #[.int .i64 op, .int .i64 rd, .int .i64 r1, .int .i64 r2, .int .i64 imm] 23 1 (.int .i64 rd) rfl) (And.intro (row_cell w #[.int .i64 op, .int .i64 rd, .int .i64 r1, .int .i64 r2, .int .i64 imm] 23 2 (.int .i64 r1) rfl) (And.intro (row_cell w #[.int .i64 op, .int .i64 rd, .int .i64 r1, .int .i64 r2, .int .i64 imm] 23 3 (.int .i64 r2) rfl) (row_cell w #[.int .i64 op, .int .i64 rd, .int .i64 r1, .int .i64 r2, .int .i64 imm] 23 4 (.int .i64 imm) rfl))))))
  go_enter Tryz.func25, Tryz.ntmps25
  go_wp2_with (go_at_call 41; (with_reducible refine (K83.out _).mono ?_); rintro e w' ⟨rfl, rfl⟩)
  generalize w.alloc (.cells #[.int .i64 op, .int .i64 rd, .int .i64 r1, .int .i64 r2, .int .i64 imm] 23) = w2 at *
  generalize w.heap.size = b at *
  obtain ⟨G0, z0, z1, z2, z3, z4⟩ := Z.out
  clear Z
  go_region_held3 (fun w' => Grown w w' ∧ w'.cell? ⟨b, 0, none⟩ = some (.int .i64 op) ∧ w'.cell? ⟨b, 1, none⟩ = some (.int .i64 rd) ∧ w'.cell? ⟨b, 2, none⟩ = some (.int .i64 r1) ∧ w'.cell? ⟨b, 3, none⟩ = some (.int .i64 r2) ∧ w'.cell? ⟨b, 4, none⟩ = some (.int .i64 imm))
      (first | exact ⟨G0, z0, z1, z2, z3, z4⟩ | assumption | exact keep5 (by assumption) (by assumption))
      (first
        | (go_at_call 42; refine (c42 _ _ _).mono ?_; rintro e w' ⟨rfl, rfl⟩)
        | (go_at_call 44; refine (K77.out _).mono ?_; rintro e w' ⟨rfl, hg⟩)
        | (go_at_call 43; refine (K85.out _).mono ?_; rintro e w' ⟨rfl, hg⟩))
  have HG : Hid (Grown w w') := Lib.hid (keepG5 (by assumption))
  clear G0 z0 z1 z2 z3 z4
  go_wp2
  go_ret
  exact ⟨rfl, HG.out⟩

set_option maxRecDepth 100000 in
set_option maxHeartbeats 8000000 in
/-- Where there is no format, or a register does not fit: no. -/
theorem c25_not (op rd r1 r2 imm f : Int) (U0 U1 U2 : Bool) (w : World)
    (K83 : Hid (∀ w, Calls Tryz.prog 41 #[.int .u8 f] w fun e w' => e = .returned (.tuple #[.bool U0, .bool U1, .bool U2]) ∧ w = w'))
    (hcase : (f != 0) = false ∨ ((f != 0) = true ∧ regB rd U0 = false) ∨ ((f != 0) = true ∧ regB rd U0 = true ∧ regB r1 U1 = false) ∨ ((f != 0) = true ∧ regB rd U0 = true ∧ regB r1 U1 = true ∧ regB r2 U2 = false)) :
    Calls Tryz.prog 25 #[.agg #[.int .i64 op, .int .i64 rd, .int .i64 r1, .int .i64 r2, .int .i64 imm], .int .u8 f] w fun e w' => e = .returned (.bool false) ∧ Grown w w' := by
  have Z : Hid (Grown w (w.alloc (.cells #[.int .i64 op, .int .i64 rd, .int .i64 r1, .int .i64 r2, .int .i64 imm] 23)) ∧ _) := Lib.hid (And.intro ((Grown.refl _).alloc _ _) (And.intro (row_cell w #[.int .i64 op, .int .i64 rd, .int .i64 r1, .int .i64 r2, .int .i64 imm] 23 0 (.int .i64 op) rfl) (And.intro (row_cell w #[.int .i64 op, .int .i64 rd, .int .i64 r1, .int .i64 r2, .int .i64 imm] 23 1 (.int .i64 rd) rfl) (And.intro (row_cell w #[.int .i64 op, .int .i64 rd, .int .i64 r1, .int .i64 r2, .int .i64 imm] 23 2 (.int .i64 r1) rfl) (And.intro (row_cell w #[.int .i64 op, .int .i64 rd, .int .i64 r1, .int .i64 r2, .int .i64 imm] 23 3 (.int .i64 r2) rfl) (row_cell w #[.int .i64 op, .int .i64 rd, .int .i64 r1, .int .i64 r2, .int .i64 imm] 23 4 (.int .i64 imm) rfl))))))
  rcases hcase with h0 | ⟨h0, hA⟩ | ⟨h0, hA, hB⟩ | ⟨h0, hA, hB, hC⟩
  all_goals
    go_enter Tryz.func25, Tryz.ntmps25
    go_wp2_with (go_at_call 41; (with_reducible refine (K83.out _).mono ?_); rintro e w' ⟨rfl, rfl⟩)
    generalize w.alloc (.cells #[.int .i64 op, .int .i64 rd, .int .i64 r1, .int .i64 r2, .int .i64 imm] 23) = w2 at *
    generalize w.heap.size = b at *
    obtain ⟨G0, z0, z1, z2, z3, z4⟩ := Z.out
    clear Z
    go_quiet ((go_at_call 42; exact Calls.quiet_of_same (quiet_sym (c42 _ _ _))))
    go_wp2
    go_ret
    exact ⟨rfl, grown_drewN G0 _⟩
theorem c25 (op rd r1 r2 imm f : Int) (hf : isForm f) (w : World) :
    Calls Tryz.prog 25 #[.agg #[.int .i64 op, .int .i64 rd, .int .i64 r1, .int .i64 r2, .int .i64 imm], .int .u8 f] w fun e w' => e = .returned (.bool (fitsB rd r1 r2 imm f)) ∧ Grown w w' := by
  have sc : 0 ≤ scat f (imm % 4294967296) 4 ∧ scat f (imm % 4294967296) 4 ≤ 4294967295 := or_in _ _
  have hcase : ((f != 0) = false ∨ ((f != 0) = true ∧ regB rd (uRd f) = false) ∨ ((f != 0) = true ∧ regB rd (uRd f) = true ∧ regB r1 (uRs1 f) = false) ∨ ((f != 0) = true ∧ regB rd (uRd f) = true ∧ regB r1 (uRs1 f) = true ∧ regB r2 (uRs2 f) = false)) ∨ ((f != 0) = true ∧ regB rd (uRd f) = true ∧ regB r1 (uRs1 f) = true ∧ regB r2 (uRs2 f) = true) := by
    cases (f != 0) <;> cases regB rd (uRd f) <;> cases regB r1 (uRs1 f) <;> cases regB r2 (uRs2 f) <;> simp
  rcases hcase with h | ⟨h0, hA, hB, hC⟩
  · have e : fitsB rd r1 r2 imm f = false := by
      unfold fitsB
      rcases h with h | ⟨h, h5⟩ | ⟨h, h5, h6⟩ | ⟨h, h5, h6, h7⟩ <;> simp [*]
    rw [e]
    exact c25_not op rd r1 r2 imm f _ _ _ w (Lib.hid (c41 f hf)) h
  · have e : fitsB rd r1 r2 imm f = (gathS f (scat f (imm % 4294967296) 4) == imm) := by
      unfold fitsB
      rw [h0, hA, hB, hC]; simp
    rw [e]
    exact c25_all op rd r1 r2 imm f _ _ _ _ _ w (Lib.hid (c41 f hf)) (Lib.hid (c44 f imm hf)) (Lib.hid (c43 f _ hf sc.1 sc.2)) h0 hA hB hC

set_option maxRecDepth 100000 in
set_option maxHeartbeats 8000000 in
theorem c13 (op rd r1 r2 imm : Int) (w : World) :
    Calls Tryz.prog 13 #[.agg #[.int .i64 op, .int .i64 rd, .int .i64 r1, .int .i64 r2, .int .i64 imm]] w fun e w' => e = .returned (.bool (fitsB rd r1 r2 imm (fm (ix op)))) ∧ Grown w w' := by
  have G0 : Grown w (w.alloc (.cells #[.int .i64 op, .int .i64 rd, .int .i64 r1, .int .i64 r2, .int .i64 imm] 23)) := (Grown.refl _).alloc _ _
  have z0 := row_cell w #[.int .i64 op, .int .i64 rd, .int .i64 r1, .int .i64 r2, .int .i64 imm] 23 0 (.int .i64 op) rfl
  have z1 := row_cell w #[.int .i64 op, .int .i64 rd, .int .i64 r1, .int .i64 r2, .int .i64 imm] 23 1 (.int .i64 rd) rfl
  have z2 := row_cell w #[.int .i64 op, .int .i64 rd, .int .i64 r1, .int .i64 r2, .int .i64 imm] 23 2 (.int .i64 r1) rfl
  have z3 := row_cell w #[.int .i64 op, .int .i64 rd, .int .i64 r1, .int .i64 r2, .int .i64 imm] 23 3 (.int .i64 r2) rfl
  have z4 := row_cell w #[.int .i64 op, .int .i64 rd, .int .i64 r1, .int .i64 r2, .int .i64 imm] 23 4 (.int .i64 imm) rfl
  have hf := Lib.hid (fm_form op)
  go_enter Tryz.func13, Tryz.ntmps13
  go_wp2
  generalize w.alloc (.cells #[.int .i64 op, .int .i64 rd, .int .i64 r1, .int .i64 r2, .int .i64 imm] 23) = w2 at *
  generalize w.heap.size = b at *
  go_region_held3 (fun w' => Grown w w' ∧ w'.cell? ⟨b, 0, none⟩ = some (.int .i64 op) ∧ w'.cell? ⟨b, 1, none⟩ = some (.int .i64 rd) ∧ w'.cell? ⟨b, 2, none⟩ = some (.int .i64 r1) ∧ w'.cell? ⟨b, 3, none⟩ = some (.int .i64 r2) ∧ w'.cell? ⟨b, 4, none⟩ = some (.int .i64 imm))
      (first | exact ⟨G0, z0, z1, z2, z3, z4⟩ | assumption | exact keep5 (by assumption) (by assumption))
      (first
        | (go_at_call 26; refine (c26 _ _).mono ?_; rintro e w' ⟨rfl, hg⟩)
        | (go_at_call 25; refine (c25 _ _ _ _ _ _ hf.out _).mono ?_; rintro e w' ⟨rfl, hg⟩))
  have HG : Hid (Grown w w') := Lib.hid (keepG5 (by assumption))
  clear G0 z0 z1 z2 z3 z4
  go_wp2
  go_ret
  exact ⟨rfl, HG.out⟩
theorem oc_in : ∀ k : Nat, k < 46 → 0 ≤ oc k ∧ oc k < 128 := by decide
theorem f3_in : ∀ k : Nat, k < 46 → 0 ≤ f3 k ∧ f3 k < 8 := by decide
theorem f7_in : ∀ k : Nat, k < 46 → 0 ≤ f7 k ∧ f7 k < 128 := by decide
/-- The codes of an instruction's number as a word. -/
def fixK (k : Nat) : Int := fixF (oc k) (f3 k) (f7 k)
/-- The word of an instruction's fields. -/
def encW (op rd r1 r2 imm : Int) : Int :=
  bits .or .u32 (bits .or .u32 (fixK (ix op)) (bits .or .u32 (bits .or .u32 (rd * 128) (r1 * 32768)) (r2 * 1048576))) (scat (fm (ix op)) (imm % 4294967296) 4)
theorem reg_in {n : Int} {u : Bool} (h : regB n u = true) : 0 ≤ n ∧ n ≤ 31 := by
  unfold regB at h; split at h <;> simp at h <;> omega
theorem fits_regs {rd r1 r2 imm f : Int} (h : fitsB rd r1 r2 imm f = true) : (0 ≤ rd ∧ rd ≤ 31) ∧ (0 ≤ r1 ∧ r1 ≤ 31) ∧ (0 ≤ r2 ∧ r2 ≤ 31) := by
  unfold fitsB at h
  simp only [Bool.and_eq_true] at h
  exact ⟨reg_in h.1.1.1.2, reg_in h.1.1.2, reg_in h.1.2⟩
theorem keep6 {W w1 w2 : World} {b c : Nat} {v0 v1 v2 v3 v4 x : Value} (h : Grown W w1 ∧ w1.cell? ⟨b, 0, none⟩ = some v0 ∧ w1.cell? ⟨b, 1, none⟩ = some v1 ∧ w1.cell? ⟨b, 2, none⟩ = some v2 ∧ w1.cell? ⟨b, 3, none⟩ = some v3 ∧ w1.cell? ⟨b, 4, none⟩ = some v4 ∧ w1.cell? ⟨c, 4, none⟩ = some x) (hg : Grown w1 w2) :
    Grown W w2 ∧ w2.cell? ⟨b, 0, none⟩ = some v0 ∧ w2.cell? ⟨b, 1, none⟩ = some v1 ∧ w2.cell? ⟨b, 2, none⟩ = some v2 ∧ w2.cell? ⟨b, 3, none⟩ = some v3 ∧ w2.cell? ⟨b, 4, none⟩ = some v4 ∧ w2.cell? ⟨c, 4, none⟩ = some x :=
  ⟨grown_trans h.1 hg, grown_cell hg h.2.1, grown_cell hg h.2.2.1, grown_cell hg h.2.2.2.1, grown_cell hg h.2.2.2.2.1, grown_cell hg h.2.2.2.2.2.1, grown_cell hg h.2.2.2.2.2.2⟩
theorem keepG6 {W w1 : World} {b c : Nat} {v0 v1 v2 v3 v4 x : Value} (h : Grown W w1 ∧ w1.cell? ⟨b, 0, none⟩ = some v0 ∧ w1.cell? ⟨b, 1, none⟩ = some v1 ∧ w1.cell? ⟨b, 2, none⟩ = some v2 ∧ w1.cell? ⟨b, 3, none⟩ = some v3 ∧ w1.cell? ⟨b, 4, none⟩ = some v4 ∧ w1.cell? ⟨c, 4, none⟩ = some x) : Grown W w1 := h.1
set_option maxRecDepth 100000 in
set_option maxHeartbeats 8000000 in
theorem c52 (op rd r1 r2 imm : Int) (w : World) (R : Bool) (hR : fitsB rd r1 r2 imm (fm (ix op)) = R) :
    Calls Tryz.prog 52 #[.agg #[.int .i64 op, .int .i64 rd, .int .i64 r1, .int .i64 r2, .int .i64 imm]] w fun e w' => e = .returned (if R = true then .tuple #[.int .u32 (encW op rd r1 r2 imm), .int .i64 0] else .tuple #[.int .u32 0, .int .i64 1]) ∧ Grown w w' := by
  have z0 := row_cell w #[.int .i64 op, .int .i64 rd, .int .i64 r1, .int .i64 r2, .int .i64 imm] 23 0 (.int .i64 op) rfl
  have z1 := row_cell w #[.int .i64 op, .int .i64 rd, .int .i64 r1, .int .i64 r2, .int .i64 imm] 23 1 (.int .i64 rd) rfl
  have z2 := row_cell w #[.int .i64 op, .int .i64 rd, .int .i64 r1, .int .i64 r2, .int .i64 imm] 23 2 (.int .i64 r1) rfl
  have z3 := row_cell w #[.int .i64 op, .int .i64 rd, .int .i64 r1, .int .i64 r2, .int .i64 imm] 23 3 (.int .i64 r2) rfl
  have z4 := row_cell w #[.int .i64 op, .int .i64 rd, .int .i64 r1, .int .i64 r2, .int .i64 imm] 23 4 (.int .i64 imm) rfl
  have Z := Lib.hid (And.intro z0 (And.intro z1 (And.intro z2 (And.intro z3 z4))))
  clear z0 z1 z2 z3 z4
  have hf := Lib.hid (fm_form op)
  have K76 : Hid (∀ w, Calls Tryz.prog 77 #[.agg #[.string (nm (ix op)), .int .u8 (fm (ix op)), .int .u8 (oc (ix op)), .int .u8 (f3 (ix op)), .int .u8 (f7 (ix op))]] w fun e w' => e = .returned (.int .u32 (fixK (ix op))) ∧ Grown w w') := Lib.hid (c77 (nm (ix op)) (fm (ix op)) (oc (ix op)) (f3 (ix op)) (f7 (ix op)) (oc_in _ (ix_lt op)) (f3_in _ (ix_lt op)) (f7_in _ (ix_lt op)))
  have K75 := Lib.hid (c25 op rd r1 r2 imm (fm (ix op)) (fm_form op))
  rw [hR] at K75
  have K77 := Lib.hid (c44 (fm (ix op)) imm (fm_form op))
  cases R
  · go_enter Tryz.func52, Tryz.ntmps52
    go_wp2_with (first
      | (go_at_call 45; (with_reducible refine (c45 _ _).mono ?_); rintro e w' ⟨rfl, hg⟩
         have hz0 := grown_cell hg Z.out.1
         have hz1 := grown_cell hg Z.out.2.1
         have hz2 := grown_cell hg Z.out.2.2.1
         have hz3 := grown_cell hg Z.out.2.2.2.1
         have hz4 := grown_cell hg Z.out.2.2.2.2
         have hs : w.heap.size < w'.heap.size := Nat.lt_of_lt_of_le (by simp) hg.2.2
         have hs' : w.heap.size ≠ w'.heap.size := by omega
         have HG := Lib.hid (grown_trans ((Grown.refl w).alloc _ _) hg); clear hg)
      | (go_at_call 25; (with_reducible refine (K75.out _).mono ?_); rintro e w3 ⟨rfl, hg⟩
         have a0 := grown_cell hg (grown_cell ((Grown.refl w').alloc #[.string (nm (ix op)), .int .u8 (fm (ix op)), .int .u8 (oc (ix op)), .int .u8 (f3 (ix op)), .int .u8 (f7 (ix op))] 80) hz0)
         have a1 := grown_cell hg (grown_cell ((Grown.refl w').alloc #[.string (nm (ix op)), .int .u8 (fm (ix op)), .int .u8 (oc (ix op)), .int .u8 (f3 (ix op)), .int .u8 (f7 (ix op))] 80) hz1)
         have a2 := grown_cell hg (grown_cell ((Grown.refl w').alloc #[.string (nm (ix op)), .int .u8 (fm (ix op)), .int .u8 (oc (ix op)), .int .u8 (f3 (ix op)), .int .u8 (f7 (ix op))] 80) hz2)
         have a3 := grown_cell hg (grown_cell ((Grown.refl w').alloc #[.string (nm (ix op)), .int .u8 (fm (ix op)), .int .u8 (oc (ix op)), .int .u8 (f3 (ix op)), .int .u8 (f7 (ix op))] 80) hz3)
         have a4 := grown_cell hg (grown_cell ((Grown.refl w').alloc #[.string (nm (ix op)), .int .u8 (fm (ix op)), .int .u8 (oc (ix op)), .int .u8 (f3 (ix op)), .int .u8 (f7 (ix op))] 80) hz4)
         have c0 := grown_cell hg (row_cell w' #[.string (nm (ix op)), .int .u8 (fm (ix op)), .int .u8 (oc (ix op)), .int .u8 (f3 (ix op)), .int .u8 (f7 (ix op))] 80 0 (.string (nm (ix op))) rfl)
         have c1 := grown_cell hg (row_cell w' #[.string (nm (ix op)), .int .u8 (fm (ix op)), .int .u8 (oc (ix op)), .int .u8 (f3 (ix op)), .int .u8 (f7 (ix op))] 80 1 (.int .u8 (fm (ix op))) rfl)
         have c2 := grown_cell hg (row_cell w' #[.string (nm (ix op)), .int .u8 (fm (ix op)), .int .u8 (oc (ix op)), .int .u8 (f3 (ix op)), .int .u8 (f7 (ix op))] 80 2 (.int .u8 (oc (ix op))) rfl)
         have c3 := grown_cell hg (row_cell w' #[.string (nm (ix op)), .int .u8 (fm (ix op)), .int .u8 (oc (ix op)), .int .u8 (f3 (ix op)), .int .u8 (f7 (ix op))] 80 3 (.int .u8 (f3 (ix op))) rfl)
         have c4 := grown_cell hg (row_cell w' #[.string (nm (ix op)), .int .u8 (fm (ix op)), .int .u8 (oc (ix op)), .int .u8 (f3 (ix op)), .int .u8 (f7 (ix op))] 80 4 (.int .u8 (f7 (ix op))) rfl)
         have HG2 := Lib.hid (grown_trans (HG.out.alloc _ _) hg)
         clear hg hz0 hz1 hz2 hz3 hz4 hs hs'))
    go_ret2
    exact ⟨rfl, HG2.out⟩
  · obtain ⟨⟨d0, d1⟩, ⟨d2, d3⟩, d4, d5⟩ := fits_regs hR
    go_enter Tryz.func52, Tryz.ntmps52
    go_wp2_with (first
      | (go_at_call 45; (with_reducible refine (c45 _ _).mono ?_); rintro e w' ⟨rfl, hg⟩
         have hz0 := grown_cell hg Z.out.1
         have hz1 := grown_cell hg Z.out.2.1
         have hz2 := grown_cell hg Z.out.2.2.1
         have hz3 := grown_cell hg Z.out.2.2.2.1
         have hz4 := grown_cell hg Z.out.2.2.2.2
         have hs : w.heap.size < w'.heap.size := Nat.lt_of_lt_of_le (by simp) hg.2.2
         have hs' : w.heap.size ≠ w'.heap.size := by omega
         have HG := Lib.hid (grown_trans ((Grown.refl w).alloc _ _) hg); clear hg)
      | (go_at_call 25; (with_reducible refine (K75.out _).mono ?_); rintro e w3 ⟨rfl, hg⟩
         have a0 := grown_cell hg (grown_cell ((Grown.refl w').alloc #[.string (nm (ix op)), .int .u8 (fm (ix op)), .int .u8 (oc (ix op)), .int .u8 (f3 (ix op)), .int .u8 (f7 (ix op))] 80) hz0)
         have a1 := grown_cell hg (grown_cell ((Grown.refl w').alloc #[.string (nm (ix op)), .int .u8 (fm (ix op)), .int .u8 (oc (ix op)), .int .u8 (f3 (ix op)), .int .u8 (f7 (ix op))] 80) hz1)
         have a2 := grown_cell hg (grown_cell ((Grown.refl w').alloc #[.string (nm (ix op)), .int .u8 (fm (ix op)), .int .u8 (oc (ix op)), .int .u8 (f3 (ix op)), .int .u8 (f7 (ix op))] 80) hz2)
         have a3 := grown_cell hg (grown_cell ((Grown.refl w').alloc #[.string (nm (ix op)), .int .u8 (fm (ix op)), .int .u8 (oc (ix op)), .int .u8 (f3 (ix op)), .int .u8 (f7 (ix op))] 80) hz3)
         have a4 := grown_cell hg (grown_cell ((Grown.refl w').alloc #[.string (nm (ix op)), .int .u8 (fm (ix op)), .int .u8 (oc (ix op)), .int .u8 (f3 (ix op)), .int .u8 (f7 (ix op))] 80) hz4)
         have c0 := grown_cell hg (row_cell w' #[.string (nm (ix op)), .int .u8 (fm (ix op)), .int .u8 (oc (ix op)), .int .u8 (f3 (ix op)), .int .u8 (f7 (ix op))] 80 0 (.string (nm (ix op))) rfl)
         have c1 := grown_cell hg (row_cell w' #[.string (nm (ix op)), .int .u8 (fm (ix op)), .int .u8 (oc (ix op)), .int .u8 (f3 (ix op)), .int .u8 (f7 (ix op))] 80 1 (.int .u8 (fm (ix op))) rfl)
         have c2 := grown_cell hg (row_cell w' #[.string (nm (ix op)), .int .u8 (fm (ix op)), .int .u8 (oc (ix op)), .int .u8 (f3 (ix op)), .int .u8 (f7 (ix op))] 80 2 (.int .u8 (oc (ix op))) rfl)
         have c3 := grown_cell hg (row_cell w' #[.string (nm (ix op)), .int .u8 (fm (ix op)), .int .u8 (oc (ix op)), .int .u8 (f3 (ix op)), .int .u8 (f7 (ix op))] 80 3 (.int .u8 (f3 (ix op))) rfl)
         have c4 := grown_cell hg (row_cell w' #[.string (nm (ix op)), .int .u8 (fm (ix op)), .int .u8 (oc (ix op)), .int .u8 (f3 (ix op)), .int .u8 (f7 (ix op))] 80 4 (.int .u8 (f7 (ix op))) rfl)
         have HG2 := Lib.hid (grown_trans (HG.out.alloc _ _) hg)
         clear hg hz0 hz1 hz2 hz3 hz4 hs hs'))
    have G0 := HG2.out
    clear HG2 HG Z a0 a1 a2 a3
    generalize w.heap.size = b at *
    generalize w'.heap.size = c at *
    go_region_held3 (fun w4 => Grown w w4 ∧ w4.cell? ⟨c, 0, none⟩ = some (.string (nm (ix op))) ∧ w4.cell? ⟨c, 1, none⟩ = some (.int .u8 (fm (ix op))) ∧ w4.cell? ⟨c, 2, none⟩ = some (.int .u8 (oc (ix op))) ∧ w4.cell? ⟨c, 3, none⟩ = some (.int .u8 (f3 (ix op))) ∧ w4.cell? ⟨c, 4, none⟩ = some (.int .u8 (f7 (ix op))) ∧ w4.cell? ⟨b, 4, none⟩ = some (.int .i64 imm))
      (first | exact ⟨G0, c0, c1, c2, c3, c4, a4⟩ | assumption | exact keep6 (by assumption) (by assumption))
      (first
        | (go_at_call 77; refine (K76.out _).mono ?_; rintro e w5 ⟨rfl, hg⟩)
        | (go_at_call 44; refine (K77.out _).mono ?_; rintro e w5 ⟨rfl, hg⟩))
    have HG3 : Hid (Grown w w5) := Lib.hid (keepG6 (by assumption))
    clear G0 c0 c1 c2 c3 c4 a4
    go_wp2
    go_ret2
    exact ⟨rfl, HG3.out⟩

/-- Do the codes of number k stand in the word? -/
def mB (u : Int) (k : Nat) : Bool := k != 0 && bits .and .u32 u (maskF (fm k)) == fixK k
def findI (u : Int) : Nat := ((List.range 46).find? (mB u)).getD 0
theorem find_first {u : Int} {k : Nat} (hk : k < 46) (h : ∀ j, j < k → mB u j = false) (hm : mB u k = true) : findI u = k := by
  have e : (List.range 46).find? (mB u) = some k := by
    rw [List.find?_eq_some_iff_getElem]
    refine ⟨hm, k, by simpa using hk, by simp, fun j hj => ?_⟩
    simp only [List.getElem_range]
    rw [h j hj]; rfl
  unfold findI; rw [e]; rfl
theorem find_none {u : Int} (h : ∀ j, j < 46 → mB u j = false) : findI u = 0 := by
  have e : (List.range 46).find? (mB u) = none := by
    rw [List.find?_eq_none]
    intro x hx
    rw [h x (by simpa using hx)]; simp
  unfold findI; rw [e]; rfl
set_option maxRecDepth 1000000 in
set_option maxHeartbeats 8000000 in
theorem index_codes (k : Nat) (h : k < 46) (w : World) : (Instr.index 104 (.agg codesArr) (.int .i64 k)).run Tryz.prog w = .ok (.agg #[.string (nm k), .int .u8 (fm k), .int .u8 (oc k), .int .u8 (f3 k), .int .u8 (f7 k)]) w := by
  match k, h with
  | 0, _ | 1, _ | 2, _ | 3, _ | 4, _ | 5, _ | 6, _ | 7, _ | 8, _ | 9, _ | 10, _ | 11, _ | 12, _ | 13, _ | 14, _ | 15, _ | 16, _ | 17, _ | 18, _ | 19, _ | 20, _ | 21, _ | 22, _ | 23, _ | 24, _ | 25, _ | 26, _ | 27, _ | 28, _ | 29, _ | 30, _ | 31, _ | 32, _ | 33, _ | 34, _ | 35, _ | 36, _ | 37, _ | 38, _ | 39, _ | 40, _ | 41, _ | 42, _ | 43, _ | 44, _ | 45, _ => (show _ = _; kernel_rfl)
  | n + 46, hn => exact absurd hn (by omega)
set_option maxRecDepth 100000 in
set_option maxHeartbeats 8000000 in
theorem c97 (u : Int) (h0 : 0 ≤ u) (h1 : u ≤ 4294967295) (w : World) :
    Calls Tryz.prog 97 #[.int .u32 u] w fun e w' => e = .returned (.int .i64 (findI u)) ∧ Grown w w' := by
  go_enter Tryz.func97, Tryz.ntmps97
  go_wp2_with (go_at_call 68; (with_reducible refine (c68 _).mono ?_); rintro e w' ⟨rfl, hg⟩; have HG := Lib.hid hg; clear hg)
  go_loopw [6] (fun j wr => ∃ k : Nat, k ≤ 46 ∧ j = .int .i64 k ∧ Hid (∀ i, i < k → mB u i = false) ∧ Hid (Grown w wr)) (fun j _ => 46 - (intOf j).toNat)
  case atStart => exact ⟨0, by omega, rfl, Lib.hid (fun i hi => absurd hi (by omega)), HG⟩
  case round =>
    obtain ⟨k, hk, rfl, HN, HW⟩ := hrel
    clear HG
    by_cases hlt : k < 46
    · have hix := index_codes k hlt
      have K76 : Hid (∀ w, Calls Tryz.prog 77 #[.agg #[.string (nm k), .int .u8 (fm k), .int .u8 (oc k), .int .u8 (f3 k), .int .u8 (f7 k)]] w fun e w' => e = .returned (.int .u32 (fixK k)) ∧ Grown w w') := Lib.hid (c77 (nm k) (fm k) (oc k) (f3 k) (f7 k) (oc_in k hlt) (f3_in k hlt) (f7_in k hlt))
      have K97 := Lib.hid (c125 (fm k) (fm_form' k hlt))
      by_cases hk0 : k = 0
      · have hkn : ((k : Int) != 0) = false := by simp; omega
        have HN' : Hid (∀ i, i < k + 1 → mB u i = false) := Lib.hid (fun i hi => by
          have : i = 0 := by omega
          subst this; rfl)
        have H0 := Lib.hid hk0
        clear hk0
        go_wp2
        have HG := Lib.hid (HW.out.alloc #[.string (nm k), .int .u8 (fm k), .int .u8 (oc k), .int .u8 (f3 k), .int .u8 (f7 k)] 80)
        clear HW
        generalize wr.alloc (.cells #[.string (nm k), .int .u8 (fm k), .int .u8 (oc k), .int .u8 (f3 k), .int .u8 (f7 k)] 80) = w2 at *
        go_quiet (fail)
        go_wp2
        go_roundw
        case rel => exact ⟨k + 1, by omega, by go_num, HN', Lib.hid (grown_drewN HG.out _)⟩
        case measure => simp [intOf]; omega
      · have hkn : ((k : Int) != 0) = true := by simp; omega
        cases hm : (bits BinOp.and .u32 u (maskF (fm k)) == fixK k)
        · have HN' : Hid (∀ i, i < k + 1 → mB u i = false) := Lib.hid (fun i hi => by
            by_cases hi' : i < k
            · exact HN.out i hi'
            · have : i = k := by omega
              subst this; unfold mB; rw [hm]; simp)
          go_wp2
          have G0 : Grown w (wr.alloc (.cells #[.string (nm k), .int .u8 (fm k), .int .u8 (oc k), .int .u8 (f3 k), .int .u8 (f7 k)] 80)) := HW.out.alloc _ _
          have z0 := row_cell wr #[.string (nm k), .int .u8 (fm k), .int .u8 (oc k), .int .u8 (f3 k), .int .u8 (f7 k)] 80 0 (.string (nm k)) rfl
          have z1 := row_cell wr #[.string (nm k), .int .u8 (fm k), .int .u8 (oc k), .int .u8 (f3 k), .int .u8 (f7 k)] 80 1 (.int .u8 (fm k)) rfl
          have z2 := row_cell wr #[.string (nm k), .int .u8 (fm k), .int .u8 (oc k), .int .u8 (f3 k), .int .u8 (f7 k)] 80 2 (.int .u8 (oc k)) rfl
          have z3 := row_cell wr #[.string (nm k), .int .u8 (fm k), .int .u8 (oc k), .int .u8 (f3 k), .int .u8 (f7 k)] 80 3 (.int .u8 (f3 k)) rfl
          have z4 := row_cell wr #[.string (nm k), .int .u8 (fm k), .int .u8 (oc k), .int .u8 (f3 k), .int .u8 (f7 k)] 80 4 (.int .u8 (f7 k)) rfl
          clear HW
          generalize wr.alloc (.cells #[.string (nm k), .int .u8 (fm k), .int .u8 (oc k), .int .u8 (f3 k), .int .u8 (f7 k)] 80) = w2 at *
          generalize wr.heap.size = b at *
          go_region_held3 (fun w' => Grown w w' ∧ w'.cell? ⟨b, 0, none⟩ = some (.string (nm k)) ∧ w'.cell? ⟨b, 1, none⟩ = some (.int .u8 (fm k)) ∧ w'.cell? ⟨b, 2, none⟩ = some (.int .u8 (oc k)) ∧ w'.cell? ⟨b, 3, none⟩ = some (.int .u8 (f3 k)) ∧ w'.cell? ⟨b, 4, none⟩ = some (.int .u8 (f7 k)))
            (first | exact ⟨G0, z0, z1, z2, z3, z4⟩ | assumption | exact keep5 (by assumption) (by assumption))
            (first
              | (go_at_call 125; refine (K97.out _).mono ?_; rintro e w' ⟨rfl, rfl⟩)
              | (go_at_call 77; refine (K76.out _).mono ?_; rintro e w' ⟨rfl, hg⟩))
          have HG : Hid (Grown w w') := Lib.hid (keepG5 (by assumption))
          clear G0 z0 z1 z2 z3 z4
          go_wp2
          go_roundw
          case rel => exact ⟨k + 1, by omega, by go_num, HN', HG⟩
          case measure => simp [intOf]; omega
        · have HF := Lib.hid (find_first hlt HN.out (by unfold mB; rw [hm]; simpa using hk0))
          go_wp2
          have G0 : Grown w (wr.alloc (.cells #[.string (nm k), .int .u8 (fm k), .int .u8 (oc k), .int .u8 (f3 k), .int .u8 (f7 k)] 80)) := HW.out.alloc _ _
          have z0 := row_cell wr #[.string (nm k), .int .u8 (fm k), .int .u8 (oc k), .int .u8 (f3 k), .int .u8 (f7 k)] 80 0 (.string (nm k)) rfl
          have z1 := row_cell wr #[.string (nm k), .int .u8 (fm k), .int .u8 (oc k), .int .u8 (f3 k), .int .u8 (f7 k)] 80 1 (.int .u8 (fm k)) rfl
          have z2 := row_cell wr #[.string (nm k), .int .u8 (fm k), .int .u8 (oc k), .int .u8 (f3 k), .int .u8 (f7 k)] 80 2 (.int .u8 (oc k)) rfl
          have z3 := row_cell wr #[.string (nm k), .int .u8 (fm k), .int .u8 (oc k), .int .u8 (f3 k), .int .u8 (f7 k)] 80 3 (.int .u8 (f3 k)) rfl
          have z4 := row_cell wr #[.string (nm k), .int .u8 (fm k), .int .u8 (oc k), .int .u8 (f3 k), .int .u8 (f7 k)] 80 4 (.int .u8 (f7 k)) rfl
          clear HW
          generalize wr.alloc (.cells #[.string (nm k), .int .u8 (fm k), .int .u8 (oc k), .int .u8 (f3 k), .int .u8 (f7 k)] 80) = w2 at *
          generalize wr.heap.size = b at *
          go_region_held3 (fun w' => Grown w w' ∧ w'.cell? ⟨b, 0, none⟩ = some (.string (nm k)) ∧ w'.cell? ⟨b, 1, none⟩ = some (.int .u8 (fm k)) ∧ w'.cell? ⟨b, 2, none⟩ = some (.int .u8 (oc k)) ∧ w'.cell? ⟨b, 3, none⟩ = some (.int .u8 (f3 k)) ∧ w'.cell? ⟨b, 4, none⟩ = some (.int .u8 (f7 k)))
            (first | exact ⟨G0, z0, z1, z2, z3, z4⟩ | assumption | exact keep5 (by assumption) (by assumption))
            (first
              | (go_at_call 125; refine (K97.out _).mono ?_; rintro e w' ⟨rfl, rfl⟩)
              | (go_at_call 77; refine (K76.out _).mono ?_; rintro e w' ⟨rfl, hg⟩))
          have HG : Hid (Grown w w') := Lib.hid (keepG5 (by assumption))
          clear G0 z0 z1 z2 z3 z4
          go_wp2
          go_ret
          exact ⟨by rw [HF.out]; rfl, HG.out⟩
    · have hk4 : k = 46 := by omega
      subst hk4
      have HF := Lib.hid (find_none HN.out)
      go_wp2
      go_ret
      exact ⟨by rw [HF.out]; rfl, HW.out⟩

theorem find_lt (u : Int) : findI u < 46 := by
  unfold findI
  cases h : (List.range 46).find? (mB u) with
  | none => simp
  | some x =>
    have := List.mem_of_find?_eq_some h
    simpa using this
theorem ix_nat {k : Nat} (h : k < 46) : ix (k : Int) = k := by unfold ix; rw [if_pos (by omega)]; omega
def zero34 : Array Value := #[.int .i64 0, .int .i64 0, .int .i64 0, .int .i64 0, .int .i64 0]
set_option maxRecDepth 100000 in
set_option maxHeartbeats 8000000 in
theorem c72_none (u : Int) (h0 : 0 ≤ u) (h1 : u ≤ 4294967295) (hk : findI u = 0) (w : World) :
    Calls Tryz.prog 72 #[.int .u32 u] w fun e w' => e = .returned (.tuple #[.agg #[.int .i64 0, .int .i64 0, .int .i64 0, .int .i64 0, .int .i64 0], .int .i64 3]) ∧ Grown w w' := by
  have K82 := c97 u h0 h1
  rw [hk] at K82
  have H82 : Hid (∀ w, Calls Tryz.prog 97 #[.int .u32 u] w fun e w' => e = .returned (.int .i64 0) ∧ Grown w w') := Lib.hid K82
  clear K82 hk
  go_enter Tryz.func72, Tryz.ntmps72
  go_wp2_with (go_at_call 97; (with_reducible refine (H82.out _).mono ?_); rintro e w' ⟨rfl, hg⟩
               have z0 := grown_cell hg (row_cell w zero34 23 0 (.int .i64 0) rfl)
               have z1 := grown_cell hg (row_cell w zero34 23 1 (.int .i64 0) rfl)
               have z2 := grown_cell hg (row_cell w zero34 23 2 (.int .i64 0) rfl)
               have z3 := grown_cell hg (row_cell w zero34 23 3 (.int .i64 0) rfl)
               have z4 := grown_cell hg (row_cell w zero34 23 4 (.int .i64 0) rfl)
               have y0 := new_frozen hg 0
               have y1 := new_frozen hg 1
               have y2 := new_frozen hg 2
               have y3 := new_frozen hg 3
               have y4 := new_frozen hg 4
               have HG := Lib.hid hg; clear hg)
  refine bodyPost_ret (v := .tuple #[.agg #[.int .i64 0, .int .i64 0, .int .i64 0, .int .i64 0, .int .i64 0], .int .i64 3]) (by simp [results, Tryz.results72, go_sem, z0, z1, z2, z3, z4]) rfl ⟨rfl, ?_⟩
  exact (((((grown_trans ((Grown.refl w).alloc _ _) HG.out).setCell (Nat.le_refl _) _).setCell (Nat.le_refl _) _).setCell (Nat.le_refl _) _).setCell (Nat.le_refl _) _).setCell (Nat.le_refl _) _
set_option maxRecDepth 100000 in
set_option maxHeartbeats 8000000 in
theorem c72_some (u : Int) (h0 : 0 ≤ u) (h1 : u ≤ 4294967295) (k : Nat) (hk : findI u = k) (hk0 : k ≠ 0) (w : World) :
    Calls Tryz.prog 72 #[.int .u32 u] w fun e w' => e = .returned (.tuple #[.agg #[.int .i64 k, .int .i64 (regV u 7 (uRd (fm k))), .int .i64 (regV u 15 (uRs1 (fm k))), .int .i64 (regV u 20 (uRs2 (fm k))), .int .i64 (gathS (fm k) u)], .int .i64 0]) ∧ Grown w w' := by
  have hlt : k < 46 := hk ▸ find_lt u
  have K82 := c97 u h0 h1
  rw [hk] at K82
  have K60 := c26 k
  rw [ix_nat hlt] at K60
  have hf := fm_form' k hlt
  have H82 := Lib.hid K82
  have H60 := Lib.hid K60
  have H83 := Lib.hid (c41 (fm k) hf)
  have H85 : Hid (∀ w, Calls Tryz.prog 43 #[.int .u8 (fm k), .int .u32 u] w fun e w' => e = .returned (.int .i64 (gathS (fm k) u)) ∧ Grown w w') := Lib.hid (c43 (fm k) u hf h0 h1)
  have H84a := Lib.hid (c98 u 7 (uRd (fm k)) h0 h1 (by simp))
  have H84b := Lib.hid (c98 u 15 (uRs1 (fm k)) h0 h1 (by simp))
  have H84c := Lib.hid (c98 u 20 (uRs2 (fm k)) h0 h1 (by simp))
  have hkn : ((k : Int) == 0) = false := by simp; omega
  have hkn' : ¬ (k : Int) = 0 := by omega
  clear K82 K60 hf hk hk0
  generalize fm k = f at *
  generalize gathS f u = T at *
  generalize regV u 7 (uRd f) = A at *
  generalize regV u 15 (uRs1 f) = B at *
  generalize regV u 20 (uRs2 f) = C at *
  generalize uRd f = U0 at *
  generalize uRs1 f = U1 at *
  generalize uRs2 f = U2 at *
  go_enter Tryz.func72, Tryz.ntmps72
  go_wp2_with (first
    | (go_at_call 97; (with_reducible refine (H82.out _).mono ?_); rintro e w' ⟨rfl, hg⟩; have HG := Lib.hid hg; clear hg)
    | (go_at_call 26; (with_reducible refine (H60.out _).mono ?_); rintro e w2 ⟨rfl, hg⟩; have HG2 := Lib.hid (grown_trans HG.out hg); clear hg HG)
    | (go_at_call 41; (with_reducible refine (H83.out _).mono ?_); rintro e w' ⟨rfl, rfl⟩)
    | (go_at_call 98; (with_reducible refine (H84a.out _).mono ?_); rintro e w' ⟨rfl, rfl⟩)
    | (go_at_call 98; (with_reducible refine (H84b.out _).mono ?_); rintro e w' ⟨rfl, rfl⟩)
    | (go_at_call 98; (with_reducible refine (H84c.out _).mono ?_); rintro e w' ⟨rfl, rfl⟩)
    | (go_at_call 43; (with_reducible refine (H85.out _).mono ?_); rintro e w3 ⟨rfl, hg⟩
       have hG := grown_trans HG2.out hg
       have z0 := grown_cell hG (row_cell w zero34 23 0 (.int .i64 0) rfl)
       have z1 := grown_cell hG (row_cell w zero34 23 1 (.int .i64 0) rfl)
       have z2 := grown_cell hG (row_cell w zero34 23 2 (.int .i64 0) rfl)
       have z3 := grown_cell hG (row_cell w zero34 23 3 (.int .i64 0) rfl)
       have z4 := grown_cell hG (row_cell w zero34 23 4 (.int .i64 0) rfl)
       have y0 := new_frozen hG 0
       have y1 := new_frozen hG 1
       have y2 := new_frozen hG 2
       have y3 := new_frozen hG 3
       have y4 := new_frozen hG 4
       have HG3 := Lib.hid hG; clear hg hG HG2))
  refine bodyPost_ret (v := .tuple #[.agg #[.int .i64 k, .int .i64 A, .int .i64 B, .int .i64 C, .int .i64 T], .int .i64 0]) (by simp [results, Tryz.results72, go_sem, z0, z1, z2, z3, z4]) rfl ⟨rfl, ?_⟩
  exact (((((grown_trans ((Grown.refl w).alloc _ _) HG3.out).setCell (Nat.le_refl _) _).setCell (Nat.le_refl _) _).setCell (Nat.le_refl _) _).setCell (Nat.le_refl _) _).setCell (Nat.le_refl _) _
end Go.Proofs.YtlagdgkjpnocfaaGreatDoor
