/-
  The contracts of the document's own Word and Encode.
-/
import Derived.Test.YtnjlcimeaoedcaaQRefD
namespace Go.Proofs.Ytnjlcimeaoedcaa
open Go.RowKit
set_option linter.unusedVariables false
set_option linter.unusedSimpArgs false

theorem imm_in {f imm : Int} (hf : isForm f) (hn : f ≠ 0) (h : roomB f imm = true) : -2147483648 ≤ imm ∧ imm ≤ 2147479552 := by
  rcases hf with rfl | rfl | rfl | rfl | rfl | rfl | rfl | rfl <;> simp [roomB] at h <;> omega
theorem rvg73 (f n : Int) (hf : isForm f) (n0 : -2147483648 ≤ n) (n1 : n ≤ 4294967295) (w : World) :
    Calls Try.prog 55 #[.int .u8 f, .int .i64 n] w fun e w' => e = .returned (.int .i64 (scat f (n % 4294967296) 4)) ∧ Grown w w' :=
  (rv73 f n hf n0 n1 w).mono fun _ _ ⟨he, hd⟩ => ⟨he, drw_grown (Grown.refl _) hd⟩
theorem word_val {o t s rd r1 r2 c : Int} (o0 : 0 ≤ o) (o1 : o < 128) (t0 : 0 ≤ t) (t1 : t < 8) (s0 : 0 ≤ s) (s1 : s < 128) (d0 : 0 ≤ rd) (d1 : rd ≤ 31) (d2 : 0 ≤ r1) (d3 : r1 ≤ 31) (d4 : 0 ≤ r2) (d5 : r2 ≤ 31) (c0 : 0 ≤ c) (c1 : c ≤ 4294967295)
    (h : o + t * 4096 + s * 33554432 + rd * 128 + r1 * 32768 + r2 * 1048576 + c ≤ 4294967295) :
    IntKind.u32.wrap (IntKind.i64.wrap (IntKind.i64.wrap (IntKind.i64.wrap (IntKind.i64.wrap (IntKind.i64.wrap (IntKind.i64.wrap (o + IntKind.i64.wrap (rd * 128)) + IntKind.i64.wrap (t * 4096)) + IntKind.i64.wrap (r1 * 32768)) + IntKind.i64.wrap (r2 * 1048576)) + IntKind.i64.wrap (s * 33554432)) + c)) =
      o + t * 4096 + s * 33554432 + rd * 128 + r1 * 32768 + r2 * 1048576 + c := by
  rw [IntWalk.i64_in (rd * 128) (by omega), IntWalk.i64_in (t * 4096) (by omega), IntWalk.i64_in (r1 * 32768) (by omega), IntWalk.i64_in (r2 * 1048576) (by omega), IntWalk.i64_in (s * 33554432) (by omega),
    IntWalk.i64_in (o + rd * 128) (by omega), IntWalk.i64_in (o + rd * 128 + t * 4096) (by omega), IntWalk.i64_in (o + rd * 128 + t * 4096 + r1 * 32768) (by omega), IntWalk.i64_in (o + rd * 128 + t * 4096 + r1 * 32768 + r2 * 1048576) (by omega),
    IntWalk.i64_in (o + rd * 128 + t * 4096 + r1 * 32768 + r2 * 1048576 + s * 33554432) (by omega), IntWalk.i64_in (o + rd * 128 + t * 4096 + r1 * 32768 + r2 * 1048576 + s * 33554432 + c) (by omega), IntKind.wrap_u32]
  omega
set_option maxRecDepth 100000 in
set_option maxHeartbeats 8000000 in
theorem rv43 (k : Nat) (hk : k < 46) (k0 : k ≠ 0) (rd r1 r2 imm : Int) (h : fitsB rd r1 r2 imm (fm k) = true) (w : World) :
    Calls Try.prog 28 #[.agg #[.int .i64 k, .int .i64 rd, .int .i64 r1, .int .i64 r2, .int .i64 imm]] w fun e w' => e = .returned (.int .u32 (sumW k rd r1 r2 imm)) ∧ Grown w w' := by
  obtain ⟨⟨d0, d1⟩, ⟨d2, d3⟩, ⟨d4, d5⟩⟩ := fits_regs h
  have hf := fm_form' k hk
  have hn := fm_pos k hk k0
  have hr : roomB (fm k) imm = true := by
    unfold fitsB at h
    simp only [Bool.and_eq_true] at h
    rw [← room_all hf hn imm]; exact h.2
  obtain ⟨i0, i1⟩ := imm_in hf hn hr
  have HS := Lib.hid (sumW_in hk h)
  have HE : Hid (sumW k rd r1 r2 imm = oc k + f3 k * 4096 + f7 k * 33554432 + rd * 128 + r1 * 32768 + r2 * 1048576 + scat (fm k) (imm % 4294967296) 4) := Lib.hid rfl
  have K45 : Hid (∀ w, Calls Try.prog 50 #[.int .i64 k] w fun e w' => e = .returned (.int .u8 (fm k)) ∧ w = w') := Lib.hid (fun w => by have := c50 (k : Int) w; rwa [ix_nat hk] at this)
  have K69 := Lib.hid (rv69 k hk k0)
  have K71 := Lib.hid (rv71 k hk)
  have K72 := Lib.hid (rv72 k hk k0)
  have K73 := Lib.hid (rvg73 (fm k) imm hf i0 (by omega))
  have G0 : Grown w (w.alloc (.cells #[.int .i64 k, .int .i64 rd, .int .i64 r1, .int .i64 r2, .int .i64 imm] 68)) := (Grown.refl _).alloc _ _
  have z0 := row_cell w #[.int .i64 k, .int .i64 rd, .int .i64 r1, .int .i64 r2, .int .i64 imm] 68 0 (.int .i64 k) rfl
  have z1 := row_cell w #[.int .i64 k, .int .i64 rd, .int .i64 r1, .int .i64 r2, .int .i64 imm] 68 1 (.int .i64 rd) rfl
  have z2 := row_cell w #[.int .i64 k, .int .i64 rd, .int .i64 r1, .int .i64 r2, .int .i64 imm] 68 2 (.int .i64 r1) rfl
  have z3 := row_cell w #[.int .i64 k, .int .i64 rd, .int .i64 r1, .int .i64 r2, .int .i64 imm] 68 3 (.int .i64 r2) rfl
  have z4 := row_cell w #[.int .i64 k, .int .i64 rd, .int .i64 r1, .int .i64 r2, .int .i64 imm] 68 4 (.int .i64 imm) rfl
  have oi := oc_in k hk
  have ti := f3_in k hk
  have si := f7_in k hk
  have ci := scat_in (fm k) (imm % 4294967296)
  obtain ⟨o0, o1⟩ := oi
  obtain ⟨t0, t1⟩ := ti
  obtain ⟨s0, s1⟩ := si
  obtain ⟨c0, c1⟩ := ci
  clear h hf hn hr hk k0
  generalize sumW k rd r1 r2 imm = S at *
  generalize fm k = f at *
  generalize oc k = o at *
  generalize f3 k = t at *
  generalize f7 k = s at *
  generalize scat f (imm % 4294967296) 4 = c at *
  go_enter Try.func28, Try.ntmps28
  go_wp2_with (go_at_call 50; (with_reducible refine (K45.out _).mono ?_); rintro e w' ⟨rfl, rfl⟩)
  generalize w.alloc (.cells #[.int .i64 k, .int .i64 rd, .int .i64 r1, .int .i64 r2, .int .i64 imm] 68) = w2 at *
  generalize w.heap.size = b at *
  go_region_held3 (fun w' => Grown w w' ∧ w'.cell? ⟨b, 0, none⟩ = some (.int .i64 k) ∧ w'.cell? ⟨b, 1, none⟩ = some (.int .i64 rd) ∧ w'.cell? ⟨b, 2, none⟩ = some (.int .i64 r1) ∧ w'.cell? ⟨b, 3, none⟩ = some (.int .i64 r2) ∧ w'.cell? ⟨b, 4, none⟩ = some (.int .i64 imm))
      (first | exact ⟨G0, z0, z1, z2, z3, z4⟩ | assumption | exact keep5 (by assumption) (by assumption))
      (first
        | (go_at_call 51; refine (K69.out _).mono ?_; rintro e w' ⟨rfl, rfl⟩)
        | (go_at_call 52; refine (rv70 _ (by decide) (by decide) _).mono ?_; rintro e w' ⟨rfl, rfl⟩)
        | (go_at_call 53; refine (K71.out _).mono ?_; rintro e w' ⟨rfl, hg⟩)
        | (go_at_call 54; refine (K72.out _).mono ?_; rintro e w' ⟨rfl, rfl⟩)
        | (go_at_call 55; refine (K73.out _).mono ?_; rintro e w' ⟨rfl, hg⟩))
  have HG : Hid (Grown w w') := Lib.hid (keepG5 (by assumption))
  clear G0 z0 z1 z2 z3 z4
  go_wp2
  go_ret
  exact ⟨ret_int ((word_val o0 o1 t0 t1 s0 s1 d0 d1 d2 d3 d4 d5 c0 c1 (by have := HS.out; have := HE.out; omega)).trans HE.out.symm), HG.out⟩
end Go.Proofs.Ytnjlcimeaoedcaa
