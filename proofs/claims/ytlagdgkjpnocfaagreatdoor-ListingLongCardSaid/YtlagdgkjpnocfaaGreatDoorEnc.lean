/-
  The contracts of Right and Encode.
-/
import Derived.Test.YtlagdgkjpnocfaaGreatDoorFits
namespace Go.Proofs.YtlagdgkjpnocfaaGreatDoor
open Go.RowKit
set_option linter.unusedVariables false

set_option maxRecDepth 100000 in
set_option maxHeartbeats 8000000 in
theorem c13 (op rd r1 r2 imm : Int) (w : World) :
    Calls Tryz.prog 13 #[.agg #[.int .i64 op, .int .i64 rd, .int .i64 r1, .int .i64 r2, .int .i64 imm]] w fun e w' => e = .returned (.bool (fitsB rd r1 r2 imm (fm (ix op)))) ∧ Grown w w' := by
  have G0 : Grown w (w.alloc (.cells #[.int .i64 op, .int .i64 rd, .int .i64 r1, .int .i64 r2, .int .i64 imm] 23)) := (Grown.refl _).alloc _ _
  have z0 := row_cell w #[.int .i64 op, .int .i64 rd, .int .i64 r1, .int .i64 r2, .int .i64 imm] 23 0 (.int .i64 op) rfl
  have z1 := row_cell w #[.int .i64 op, .int .i64 rd, .int .i64 r1, .int .i64 r2, .int .i64 imm] 23 1 (.int .i64 rd) rfl
  have z2 := row_cell w #[.int .i64 op, .int .i64 rd, .int .i64 r1, .int .i64 r2, .int .i64 imm] 23 2 (.int .i64 r1) rfl
  have z3 := row_cell w #[.int .i64 op, .int .i64 rd, .int .i64 r1, .int .i64 r2, .int .i64 imm] 23 3 (.int .i64 r2) rfl
  have z4 := row_cell w #[.int .i64 op, .int .i64 rd, .int .i64 r1, .int .i64 r2, .int .i64 imm] 23 4 (.int .i64 imm) rfl
  have hf := Lib.hid (fm_form op)
  go_enter Tryz.func13, Tryz.ntmps13
  go_wp2
  generalize w.alloc (.cells #[.int .i64 op, .int .i64 rd, .int .i64 r1, .int .i64 r2, .int .i64 imm] 23) = w2 at *
  generalize w.heap.size = b at *
  go_region_held3 (fun w' => Grown w w' ∧ w'.cell? ⟨b, 0, none⟩ = some (.int .i64 op) ∧ w'.cell? ⟨b, 1, none⟩ = some (.int .i64 rd) ∧ w'.cell? ⟨b, 2, none⟩ = some (.int .i64 r1) ∧ w'.cell? ⟨b, 3, none⟩ = some (.int .i64 r2) ∧ w'.cell? ⟨b, 4, none⟩ = some (.int .i64 imm))
      (first | exact ⟨G0, z0, z1, z2, z3, z4⟩ | assumption | exact keep5 (by assumption) (by assumption))
      (first
        | (go_at_call 26; refine (c26 _ _).mono ?_; rintro e w' ⟨rfl, hg⟩)
        | (go_at_call 25; refine (c25 _ _ _ _ _ _ hf.out _).mono ?_; rintro e w' ⟨rfl, hg⟩))
  have HG : Hid (Grown w w') := Lib.hid (keepG5 (by assumption))
  clear G0 z0 z1 z2 z3 z4
  go_wp2
  go_ret
  exact ⟨rfl, HG.out⟩
theorem oc_in : ∀ k : Nat, k < 46 → 0 ≤ oc k ∧ oc k < 128 := by decide
theorem f3_in : ∀ k : Nat, k < 46 → 0 ≤ f3 k ∧ f3 k < 8 := by decide
theorem f7_in : ∀ k : Nat, k < 46 → 0 ≤ f7 k ∧ f7 k < 128 := by decide
/-- The codes of an instruction's number as a word. -/
def fixK (k : Nat) : Int := fixF (oc k) (f3 k) (f7 k)
/-- The word of an instruction's fields. -/
def encW (op rd r1 r2 imm : Int) : Int :=
  bits .or .u32 (bits .or .u32 (fixK (ix op)) (bits .or .u32 (bits .or .u32 (rd * 128) (r1 * 32768)) (r2 * 1048576))) (scat (fm (ix op)) (imm % 4294967296) 4)
theorem reg_in {n : Int} {u : Bool} (h : regB n u = true) : 0 ≤ n ∧ n ≤ 31 := by
  unfold regB at h; split at h <;> simp at h <;> omega
theorem fits_regs {rd r1 r2 imm f : Int} (h : fitsB rd r1 r2 imm f = true) : (0 ≤ rd ∧ rd ≤ 31) ∧ (0 ≤ r1 ∧ r1 ≤ 31) ∧ (0 ≤ r2 ∧ r2 ≤ 31) := by
  unfold fitsB at h
  simp only [Bool.and_eq_true] at h
  exact ⟨reg_in h.1.1.1.2, reg_in h.1.1.2, reg_in h.1.2⟩
theorem keep6 {W w1 w2 : World} {b c : Nat} {v0 v1 v2 v3 v4 x : Value} (h : Grown W w1 ∧ w1.cell? ⟨b, 0, none⟩ = some v0 ∧ w1.cell? ⟨b, 1, none⟩ = some v1 ∧ w1.cell? ⟨b, 2, none⟩ = some v2 ∧ w1.cell? ⟨b, 3, none⟩ = some v3 ∧ w1.cell? ⟨b, 4, none⟩ = some v4 ∧ w1.cell? ⟨c, 4, none⟩ = some x) (hg : Grown w1 w2) :
    Grown W w2 ∧ w2.cell? ⟨b, 0, none⟩ = some v0 ∧ w2.cell? ⟨b, 1, none⟩ = some v1 ∧ w2.cell? ⟨b, 2, none⟩ = some v2 ∧ w2.cell? ⟨b, 3, none⟩ = some v3 ∧ w2.cell? ⟨b, 4, none⟩ = some v4 ∧ w2.cell? ⟨c, 4, none⟩ = some x :=
  ⟨grown_trans h.1 hg, grown_cell hg h.2.1, grown_cell hg h.2.2.1, grown_cell hg h.2.2.2.1, grown_cell hg h.2.2.2.2.1, grown_cell hg h.2.2.2.2.2.1, grown_cell hg h.2.2.2.2.2.2⟩
theorem keepG6 {W w1 : World} {b c : Nat} {v0 v1 v2 v3 v4 x : Value} (h : Grown W w1 ∧ w1.cell? ⟨b, 0, none⟩ = some v0 ∧ w1.cell? ⟨b, 1, none⟩ = some v1 ∧ w1.cell? ⟨b, 2, none⟩ = some v2 ∧ w1.cell? ⟨b, 3, none⟩ = some v3 ∧ w1.cell? ⟨b, 4, none⟩ = some v4 ∧ w1.cell? ⟨c, 4, none⟩ = some x) : Grown W w1 := h.1
set_option maxRecDepth 100000 in
set_option maxHeartbeats 8000000 in
theorem c52 (op rd r1 r2 imm : Int) (w : World) (R : Bool) (hR : fitsB rd r1 r2 imm (fm (ix op)) = R) :
    Calls Tryz.prog 52 #[.agg #[.int .i64 op, .int .i64 rd, .int .i64 r1, .int .i64 r2, .int .i64 imm]] w fun e w' => e = .returned (if R = true then .tuple #[.int .u32 (encW op rd r1 r2 imm), .int .i64 0] else .tuple #[.int .u32 0, .int .i64 1]) ∧ Grown w w' := by
  have z0 := row_cell w #[.int .i64 op, .int .i64 rd, .int .i64 r1, .int .i64 r2, .int .i64 imm] 23 0 (.int .i64 op) rfl
  have z1 := row_cell w #[.int .i64 op, .int .i64 rd, .int .i64 r1, .int .i64 r2, .int .i64 imm] 23 1 (.int .i64 rd) rfl
  have z2 := row_cell w #[.int .i64 op, .int .i64 rd, .int .i64 r1, .int .i64 r2, .int .i64 imm] 23 2 (.int .i64 r1) rfl
  have z3 := row_cell w #[.int .i64 op, .int .i64 rd, .int .i64 r1, .int .i64 r2, .int .i64 imm] 23 3 (.int .i64 r2) rfl
  have z4 := row_cell w #[.int .i64 op, .int .i64 rd, .int .i64 r1, .int .i64 r2, .int .i64 imm] 23 4 (.int .i64 imm) rfl
  have Z := Lib.hid (And.intro z0 (And.intro z1 (And.intro z2 (And.intro z3 z4))))
  clear z0 z1 z2 z3 z4
  have hf := Lib.hid (fm_form op)
  have K76 : Hid (∀ w, Calls Tryz.prog 77 #[.agg #[.string (nm (ix op)), .int .u8 (fm (ix op)), .int .u8 (oc (ix op)), .int .u8 (f3 (ix op)), .int .u8 (f7 (ix op))]] w fun e w' => e = .returned (.int .u32 (fixK (ix op))) ∧ Grown w w') := Lib.hid (c77 (nm (ix op)) (fm (ix op)) (oc (ix op)) (f3 (ix op)) (f7 (ix op)) (oc_in _ (ix_lt op)) (f3_in _ (ix_lt op)) (f7_in _ (ix_lt op)))
  have K75 := Lib.hid (c25 op rd r1 r2 imm (fm (ix op)) (fm_form op))
  rw [hR] at K75
  have K77 := Lib.hid (c44 (fm (ix op)) imm (fm_form op))
  cases R
  · go_enter Tryz.func52, Tryz.ntmps52
    go_wp2_with (first
      | (go_at_call 45; (with_reducible refine (c45 _ _).mono ?_); rintro e w' ⟨rfl, hg⟩
         have hz0 := grown_cell hg Z.out.1
         have hz1 := grown_cell hg Z.out.2.1
         have hz2 := grown_cell hg Z.out.2.2.1
         have hz3 := grown_cell hg Z.out.2.2.2.1
         have hz4 := grown_cell hg Z.out.2.2.2.2
         have hs : w.heap.size < w'.heap.size := Nat.lt_of_lt_of_le (by simp) hg.2.2
         have hs' : w.heap.size ≠ w'.heap.size := by omega
         have HG := Lib.hid (grown_trans ((Grown.refl w).alloc _ _) hg); clear hg)
      | (go_at_call 25; (with_reducible refine (K75.out _).mono ?_); rintro e w3 ⟨rfl, hg⟩
         have a0 := grown_cell hg (grown_cell ((Grown.refl w').alloc #[.string (nm (ix op)), .int .u8 (fm (ix op)), .int .u8 (oc (ix op)), .int .u8 (f3 (ix op)), .int .u8 (f7 (ix op))] 80) hz0)
         have a1 := grown_cell hg (grown_cell ((Grown.refl w').alloc #[.string (nm (ix op)), .int .u8 (fm (ix op)), .int .u8 (oc (ix op)), .int .u8 (f3 (ix op)), .int .u8 (f7 (ix op))] 80) hz1)
         have a2 := grown_cell hg (grown_cell ((Grown.refl w').alloc #[.string (nm (ix op)), .int .u8 (fm (ix op)), .int .u8 (oc (ix op)), .int .u8 (f3 (ix op)), .int .u8 (f7 (ix op))] 80) hz2)
         have a3 := grown_cell hg (grown_cell ((Grown.refl w').alloc #[.string (nm (ix op)), .int .u8 (fm (ix op)), .int .u8 (oc (ix op)), .int .u8 (f3 (ix op)), .int .u8 (f7 (ix op))] 80) hz3)
         have a4 := grown_cell hg (grown_cell ((Grown.refl w').alloc #[.string (nm (ix op)), .int .u8 (fm (ix op)), .int .u8 (oc (ix op)), .int .u8 (f3 (ix op)), .int .u8 (f7 (ix op))] 80) hz4)
         have c0 := grown_cell hg (row_cell w' #[.string (nm (ix op)), .int .u8 (fm (ix op)), .int .u8 (oc (ix op)), .int .u8 (f3 (ix op)), .int .u8 (f7 (ix op))] 80 0 (.string (nm (ix op))) rfl)
         have c1 := grown_cell hg (row_cell w' #[.string (nm (ix op)), .int .u8 (fm (ix op)), .int .u8 (oc (ix op)), .int .u8 (f3 (ix op)), .int .u8 (f7 (ix op))] 80 1 (.int .u8 (fm (ix op))) rfl)
         have c2 := grown_cell hg (row_cell w' #[.string (nm (ix op)), .int .u8 (fm (ix op)), .int .u8 (oc (ix op)), .int .u8 (f3 (ix op)), .int .u8 (f7 (ix op))] 80 2 (.int .u8 (oc (ix op))) rfl)
         have c3 := grown_cell hg (row_cell w' #[.string (nm (ix op)), .int .u8 (fm (ix op)), .int .u8 (oc (ix op)), .int .u8 (f3 (ix op)), .int .u8 (f7 (ix op))] 80 3 (.int .u8 (f3 (ix op))) rfl)
         have c4 := grown_cell hg (row_cell w' #[.string (nm (ix op)), .int .u8 (fm (ix op)), .int .u8 (oc (ix op)), .int .u8 (f3 (ix op)), .int .u8 (f7 (ix op))] 80 4 (.int .u8 (f7 (ix op))) rfl)
         have HG2 := Lib.hid (grown_trans (HG.out.alloc _ _) hg)
         clear hg hz0 hz1 hz2 hz3 hz4 hs hs'))
    go_ret2
    exact ⟨rfl, HG2.out⟩
  · obtain ⟨⟨d0, d1⟩, ⟨d2, d3⟩, d4, d5⟩ := fits_regs hR
    go_enter Tryz.func52, Tryz.ntmps52
    go_wp2_with (first
      | (go_at_call 45; (with_reducible refine (c45 _ _).mono ?_); rintro e w' ⟨rfl, hg⟩
         have hz0 := grown_cell hg Z.out.1
         have hz1 := grown_cell hg Z.out.2.1
         have hz2 := grown_cell hg Z.out.2.2.1
         have hz3 := grown_cell hg Z.out.2.2.2.1
         have hz4 := grown_cell hg Z.out.2.2.2.2
         have hs : w.heap.size < w'.heap.size := Nat.lt_of_lt_of_le (by simp) hg.2.2
         have hs' : w.heap.size ≠ w'.heap.size := by omega
         have HG := Lib.hid (grown_trans ((Grown.refl w).alloc _ _) hg); clear hg)
      | (go_at_call 25; (with_reducible refine (K75.out _).mono ?_); rintro e w3 ⟨rfl, hg⟩
         have a0 := grown_cell hg (grown_cell ((Grown.refl w').alloc #[.string (nm (ix op)), .int .u8 (fm (ix op)), .int .u8 (oc (ix op)), .int .u8 (f3 (ix op)), .int .u8 (f7 (ix op))] 80) hz0)
         have a1 := grown_cell hg (grown_cell ((Grown.refl w').alloc #[.string (nm (ix op)), .int .u8 (fm (ix op)), .int .u8 (oc (ix op)), .int .u8 (f3 (ix op)), .int .u8 (f7 (ix op))] 80) hz1)
         have a2 := grown_cell hg (grown_cell ((Grown.refl w').alloc #[.string (nm (ix op)), .int .u8 (fm (ix op)), .int .u8 (oc (ix op)), .int .u8 (f3 (ix op)), .int .u8 (f7 (ix op))] 80) hz2)
         have a3 := grown_cell hg (grown_cell ((Grown.refl w').alloc #[.string (nm (ix op)), .int .u8 (fm (ix op)), .int .u8 (oc (ix op)), .int .u8 (f3 (ix op)), .int .u8 (f7 (ix op))] 80) hz3)
         have a4 := grown_cell hg (grown_cell ((Grown.refl w').alloc #[.string (nm (ix op)), .int .u8 (fm (ix op)), .int .u8 (oc (ix op)), .int .u8 (f3 (ix op)), .int .u8 (f7 (ix op))] 80) hz4)
         have c0 := grown_cell hg (row_cell w' #[.string (nm (ix op)), .int .u8 (fm (ix op)), .int .u8 (oc (ix op)), .int .u8 (f3 (ix op)), .int .u8 (f7 (ix op))] 80 0 (.string (nm (ix op))) rfl)
         have c1 := grown_cell hg (row_cell w' #[.string (nm (ix op)), .int .u8 (fm (ix op)), .int .u8 (oc (ix op)), .int .u8 (f3 (ix op)), .int .u8 (f7 (ix op))] 80 1 (.int .u8 (fm (ix op))) rfl)
         have c2 := grown_cell hg (row_cell w' #[.string (nm (ix op)), .int .u8 (fm (ix op)), .int .u8 (oc (ix op)), .int .u8 (f3 (ix op)), .int .u8 (f7 (ix op))] 80 2 (.int .u8 (oc (ix op))) rfl)
         have c3 := grown_cell hg (row_cell w' #[.string (nm (ix op)), .int .u8 (fm (ix op)), .int .u8 (oc (ix op)), .int .u8 (f3 (ix op)), .int .u8 (f7 (ix op))] 80 3 (.int .u8 (f3 (ix op))) rfl)
         have c4 := grown_cell hg (row_cell w' #[.string (nm (ix op)), .int .u8 (fm (ix op)), .int .u8 (oc (ix op)), .int .u8 (f3 (ix op)), .int .u8 (f7 (ix op))] 80 4 (.int .u8 (f7 (ix op))) rfl)
         have HG2 := Lib.hid (grown_trans (HG.out.alloc _ _) hg)
         clear hg hz0 hz1 hz2 hz3 hz4 hs hs'))
    have G0 := HG2.out
    clear HG2 HG Z a0 a1 a2 a3
    generalize w.heap.size = b at *
    generalize w'.heap.size = c at *
    go_region_held3 (fun w4 => Grown w w4 ∧ w4.cell? ⟨c, 0, none⟩ = some (.string (nm (ix op))) ∧ w4.cell? ⟨c, 1, none⟩ = some (.int .u8 (fm (ix op))) ∧ w4.cell? ⟨c, 2, none⟩ = some (.int .u8 (oc (ix op))) ∧ w4.cell? ⟨c, 3, none⟩ = some (.int .u8 (f3 (ix op))) ∧ w4.cell? ⟨c, 4, none⟩ = some (.int .u8 (f7 (ix op))) ∧ w4.cell? ⟨b, 4, none⟩ = some (.int .i64 imm))
      (first | exact ⟨G0, c0, c1, c2, c3, c4, a4⟩ | assumption | exact keep6 (by assumption) (by assumption))
      (first
        | (go_at_call 77; refine (K76.out _).mono ?_; rintro e w5 ⟨rfl, hg⟩)
        | (go_at_call 44; refine (K77.out _).mono ?_; rintro e w5 ⟨rfl, hg⟩))
    have HG3 : Hid (Grown w w5) := Lib.hid (keepG6 (by assumption))
    clear G0 c0 c1 c2 c3 c4 a4
    go_wp2
    go_ret2
    exact ⟨rfl, HG3.out⟩
end Go.Proofs.YtlagdgkjpnocfaaGreatDoor
