/-
  The contracts of fixed and fits: the codes of an instruction as a word; whether the fields are such as the format has.
-/
import Derived.Test.YtlagdgkjpnocfaaGreatDoorPiece
namespace Go.Proofs.YtlagdgkjpnocfaaGreatDoor
open Go.RowKit
set_option linter.unusedVariables false

def fixF (b c d : Int) : Int := b + c * 4096 + d * 33554432
theorem c77 (s : ByteArray) (a b c d : Int) (hb : 0 ≤ b ∧ b < 128) (hc : 0 ≤ c ∧ c < 8) (hd : 0 ≤ d ∧ d < 128) (w : World) :
    Calls Tryz.prog 77 #[.agg #[.string s, .int .u8 a, .int .u8 b, .int .u8 c, .int .u8 d]] w fun e w' => e = .returned (.int .u32 (fixF b c d)) ∧ Grown w w' := by
  obtain ⟨b0, b1⟩ := hb
  obtain ⟨c0, c1⟩ := hc
  obtain ⟨d0, d1⟩ := hd
  have E1 : bits .or .u32 b (c * 4096) = b + c * 4096 := by
    have := or_field (x := b) (f := c) 12 3 b0 (by omega) c0 (by simp; omega) (by simp; omega) (by omega)
    simpa using this
  have E2 : bits .or .u32 (b + c * 4096) (d * 33554432) = b + c * 4096 + d * 33554432 := by
    have := or_field (x := b + c * 4096) (f := d) 25 7 (by omega) (by omega) d0 (by simp; omega) (by simp; omega) (by omega)
    simpa using this
  go_enter Tryz.func77, Tryz.ntmps77
  go_wp2
  go_ret
  exact ⟨rfl, (Grown.refl _).alloc _ _⟩
/-- What a word's immediate is. -/
def gathS (f u : Int) : Int := sg (signF (gath f u 4) (immB f))
def fitsB (rd r1 r2 imm f : Int) : Bool := f != 0 && regB rd (uRd f) && regB r1 (uRs1 f) && regB r2 (uRs2 f) && gathS f (scat f (imm % 4294967296) 4) == imm
theorem keep5 {W w1 w2 : World} {b : Nat} {v0 v1 v2 v3 v4 : Value} (h : Grown W w1 ∧ w1.cell? ⟨b, 0, none⟩ = some v0 ∧ w1.cell? ⟨b, 1, none⟩ = some v1 ∧ w1.cell? ⟨b, 2, none⟩ = some v2 ∧ w1.cell? ⟨b, 3, none⟩ = some v3 ∧ w1.cell? ⟨b, 4, none⟩ = some v4) (hg : Grown w1 w2) :
    Grown W w2 ∧ w2.cell? ⟨b, 0, none⟩ = some v0 ∧ w2.cell? ⟨b, 1, none⟩ = some v1 ∧ w2.cell? ⟨b, 2, none⟩ = some v2 ∧ w2.cell? ⟨b, 3, none⟩ = some v3 ∧ w2.cell? ⟨b, 4, none⟩ = some v4 :=
  ⟨grown_trans h.1 hg, grown_cell hg h.2.1, grown_cell hg h.2.2.1, grown_cell hg h.2.2.2.1, grown_cell hg h.2.2.2.2.1, grown_cell hg h.2.2.2.2.2⟩
theorem keepG5 {W w1 : World} {b : Nat} {v0 v1 v2 v3 v4 : Value} (h : Grown W w1 ∧ w1.cell? ⟨b, 0, none⟩ = some v0 ∧ w1.cell? ⟨b, 1, none⟩ = some v1 ∧ w1.cell? ⟨b, 2, none⟩ = some v2 ∧ w1.cell? ⟨b, 3, none⟩ = some v3 ∧ w1.cell? ⟨b, 4, none⟩ = some v4) : Grown W w1 := h.1
set_option maxRecDepth 100000 in
set_option maxHeartbeats 8000000 in
/-- Where all registers fit, the immediate decides. -/
theorem c25_all (op rd r1 r2 imm f S T : Int) (U0 U1 U2 : Bool) (w : World)
    (K83 : Hid (∀ w, Calls Tryz.prog 41 #[.int .u8 f] w fun e w' => e = .returned (.tuple #[.bool U0, .bool U1, .bool U2]) ∧ w = w'))
    (K77 : Hid (∀ w, Calls Tryz.prog 44 #[.int .u8 f, .int .i64 imm] w fun e w' => e = .returned (.int .u32 S) ∧ Grown w w'))
    (K85 : Hid (∀ w, Calls Tryz.prog 43 #[.int .u8 f, .int .u32 S] w fun e w' => e = .returned (.int .i64 T) ∧ Grown w w'))
    (h0 : (f != 0) = true) (hA : regB rd U0 = true) (hB : regB r1 U1 = true) (hC : regB r2 U2 = true) :
    Calls Tryz.prog 25 #[.agg #[.int .i64 op, .int .i64 rd, .int .i64 r1, .int .i64 r2, .int .i64 imm], .int .u8 f] w fun e w' => e = .returned (.bool (T == imm)) ∧ Grown w w' := by
  have Z : Hid (Grown w (w.alloc (.cells #[.int .i64 op, .int .i64 rd, .int .i64 r1, .int .i64 r2, .int .i64 imm] 23)) ∧ _) := Lib.hid (And.intro ((Grown.refl _).alloc _ _) (And.intro (row_cell w #[.int .i64 op, .int .i64 rd, .int .i64 r1, .int .i64 r2, .int .i64 imm] 23 0 (.int .i64 op) rfl) (And.intro (row_cell w #[.int .i64 op, .int .i64 rd, .int .i64 r1, .int .i64 r2, .int .i64 imm] 23 1 (.int .i64 rd) rfl) (And.intro (row_cell w #[.int .i64 op, .int .i64 rd, .int .i64 r1, .int .i64 r2, .int .i64 imm] 23 2 (.int .i64 r1) rfl) (And.intro (row_cell w #[.int .i64 op, .int .i64 rd, .int .i64 r1, .int .i64 r2, .int .i64 imm] 23 3 (.int .i64 r2) rfl) (row_cell w #[.int .i64 op, .int .i64 rd, .int .i64 r1, .int .i64 r2, .int .i64 imm] 23 4 (.int .i64 imm) rfl))))))
  go_enter Tryz.func25, Tryz.ntmps25
  go_wp2_with (go_at_call 41; (with_reducible refine (K83.out _).mono ?_); rintro e w' ⟨rfl, rfl⟩)
  generalize w.alloc (.cells #[.int .i64 op, .int .i64 rd, .int .i64 r1, .int .i64 r2, .int .i64 imm] 23) = w2 at *
  generalize w.heap.size = b at *
  obtain ⟨G0, z0, z1, z2, z3, z4⟩ := Z.out
  clear Z
  go_region_held3 (fun w' => Grown w w' ∧ w'.cell? ⟨b, 0, none⟩ = some (.int .i64 op) ∧ w'.cell? ⟨b, 1, none⟩ = some (.int .i64 rd) ∧ w'.cell? ⟨b, 2, none⟩ = some (.int .i64 r1) ∧ w'.cell? ⟨b, 3, none⟩ = some (.int .i64 r2) ∧ w'.cell? ⟨b, 4, none⟩ = some (.int .i64 imm))
      (first | exact ⟨G0, z0, z1, z2, z3, z4⟩ | assumption | exact keep5 (by assumption) (by assumption))
      (first
        | (go_at_call 42; refine (c42 _ _ _).mono ?_; rintro e w' ⟨rfl, rfl⟩)
        | (go_at_call 44; refine (K77.out _).mono ?_; rintro e w' ⟨rfl, hg⟩)
        | (go_at_call 43; refine (K85.out _).mono ?_; rintro e w' ⟨rfl, hg⟩))
  have HG : Hid (Grown w w') := Lib.hid (keepG5 (by assumption))
  clear G0 z0 z1 z2 z3 z4
  go_wp2
  go_ret
  exact ⟨rfl, HG.out⟩

set_option maxRecDepth 100000 in
set_option maxHeartbeats 8000000 in
/-- Where there is no format, or a register does not fit: no. -/
theorem c25_not (op rd r1 r2 imm f : Int) (U0 U1 U2 : Bool) (w : World)
    (K83 : Hid (∀ w, Calls Tryz.prog 41 #[.int .u8 f] w fun e w' => e = .returned (.tuple #[.bool U0, .bool U1, .bool U2]) ∧ w = w'))
    (hcase : (f != 0) = false ∨ ((f != 0) = true ∧ regB rd U0 = false) ∨ ((f != 0) = true ∧ regB rd U0 = true ∧ regB r1 U1 = false) ∨ ((f != 0) = true ∧ regB rd U0 = true ∧ regB r1 U1 = true ∧ regB r2 U2 = false)) :
    Calls Tryz.prog 25 #[.agg #[.int .i64 op, .int .i64 rd, .int .i64 r1, .int .i64 r2, .int .i64 imm], .int .u8 f] w fun e w' => e = .returned (.bool false) ∧ Grown w w' := by
  have Z : Hid (Grown w (w.alloc (.cells #[.int .i64 op, .int .i64 rd, .int .i64 r1, .int .i64 r2, .int .i64 imm] 23)) ∧ _) := Lib.hid (And.intro ((Grown.refl _).alloc _ _) (And.intro (row_cell w #[.int .i64 op, .int .i64 rd, .int .i64 r1, .int .i64 r2, .int .i64 imm] 23 0 (.int .i64 op) rfl) (And.intro (row_cell w #[.int .i64 op, .int .i64 rd, .int .i64 r1, .int .i64 r2, .int .i64 imm] 23 1 (.int .i64 rd) rfl) (And.intro (row_cell w #[.int .i64 op, .int .i64 rd, .int .i64 r1, .int .i64 r2, .int .i64 imm] 23 2 (.int .i64 r1) rfl) (And.intro (row_cell w #[.int .i64 op, .int .i64 rd, .int .i64 r1, .int .i64 r2, .int .i64 imm] 23 3 (.int .i64 r2) rfl) (row_cell w #[.int .i64 op, .int .i64 rd, .int .i64 r1, .int .i64 r2, .int .i64 imm] 23 4 (.int .i64 imm) rfl))))))
  rcases hcase with h0 | ⟨h0, hA⟩ | ⟨h0, hA, hB⟩ | ⟨h0, hA, hB, hC⟩
  all_goals
    go_enter Tryz.func25, Tryz.ntmps25
    go_wp2_with (go_at_call 41; (with_reducible refine (K83.out _).mono ?_); rintro e w' ⟨rfl, rfl⟩)
    generalize w.alloc (.cells #[.int .i64 op, .int .i64 rd, .int .i64 r1, .int .i64 r2, .int .i64 imm] 23) = w2 at *
    generalize w.heap.size = b at *
    obtain ⟨G0, z0, z1, z2, z3, z4⟩ := Z.out
    clear Z
    go_quiet ((go_at_call 42; exact Calls.quiet_of_same (quiet_sym (c42 _ _ _))))
    go_wp2
    go_ret
    exact ⟨rfl, grown_drewN G0 _⟩
theorem c25 (op rd r1 r2 imm f : Int) (hf : isForm f) (w : World) :
    Calls Tryz.prog 25 #[.agg #[.int .i64 op, .int .i64 rd, .int .i64 r1, .int .i64 r2, .int .i64 imm], .int .u8 f] w fun e w' => e = .returned (.bool (fitsB rd r1 r2 imm f)) ∧ Grown w w' := by
  have sc : 0 ≤ scat f (imm % 4294967296) 4 ∧ scat f (imm % 4294967296) 4 ≤ 4294967295 := or_in _ _
  have hcase : ((f != 0) = false ∨ ((f != 0) = true ∧ regB rd (uRd f) = false) ∨ ((f != 0) = true ∧ regB rd (uRd f) = true ∧ regB r1 (uRs1 f) = false) ∨ ((f != 0) = true ∧ regB rd (uRd f) = true ∧ regB r1 (uRs1 f) = true ∧ regB r2 (uRs2 f) = false)) ∨ ((f != 0) = true ∧ regB rd (uRd f) = true ∧ regB r1 (uRs1 f) = true ∧ regB r2 (uRs2 f) = true) := by
    cases (f != 0) <;> cases regB rd (uRd f) <;> cases regB r1 (uRs1 f) <;> cases regB r2 (uRs2 f) <;> simp
  rcases hcase with h | ⟨h0, hA, hB, hC⟩
  · have e : fitsB rd r1 r2 imm f = false := by
      unfold fitsB
      rcases h with h | ⟨h, h5⟩ | ⟨h, h5, h6⟩ | ⟨h, h5, h6, h7⟩ <;> simp [*]
    rw [e]
    exact c25_not op rd r1 r2 imm f _ _ _ w (Lib.hid (c41 f hf)) h
  · have e : fitsB rd r1 r2 imm f = (gathS f (scat f (imm % 4294967296) 4) == imm) := by
      unfold fitsB
      rw [h0, hA, hB, hC]; simp
    rw [e]
    exact c25_all op rd r1 r2 imm f _ _ _ _ _ w (Lib.hid (c41 f hf)) (Lib.hid (c44 f imm hf)) (Lib.hid (c43 f _ hf sc.1 sc.2)) h0 hA hB hC
end Go.Proofs.YtlagdgkjpnocfaaGreatDoor
