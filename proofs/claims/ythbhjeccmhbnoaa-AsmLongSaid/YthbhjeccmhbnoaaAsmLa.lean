/-
  Items (layer 5): the walk of the law on too many items.
-/
import Derived.Test.YthbhjeccmhbnoaaAsmAw
namespace Go.Proofs.Ythbhjeccmhbnoaa.asmLong
open Go.RowKit
set_option linter.unusedVariables false
set_option linter.unusedSimpArgs false
theorem infoIt : (Try.prog.info? 25).map (fun i => (i.zero, i.size, i.bytes)) = some (some (.agg #[.int .i64 0, .int .i64 0, .int .i64 0, .int .i64 0, .int .i64 0, .int .i64 0, .int .i64 0]), 7, 56) := by kernel_rfl
set_option maxRecDepth 100000 in
set_option maxHeartbeats 4000000 in
theorem walk (a0 : Int) (w0 : (Lit.int .i64 a0).wf = true) (w : World) :
    Calls Try.prog 7 #[.int .i64 a0] w fun e w' => e = .returned (.bool true) ∧ Fr (fun _ => False) w w' := by
  obtain ⟨i0, hi, hz0, hz1, hz2⟩ := info_parts infoIt
  obtain ⟨h0, h1⟩ := wf_i64 w0
  clear w0
  have t0 : -1000 < a0.tmod 1000 ∧ a0.tmod 1000 < 1000 := ⟨by have := Int.lt_tmod_of_pos a0 (b := 1000) (by omega); omega, Int.tmod_lt_of_pos a0 (by omega)⟩
  obtain ⟨t1, t2⟩ := t0
  obtain ⟨m, hm⟩ : ∃ m : Nat, 32769 + a0.tmod 1000 % 1000 = (m : Int) := ⟨(32769 + a0.tmod 1000 % 1000).toNat, by omega⟩
  have m1 : 32768 < m := by omega
  have m2 : m ≤ 33768 := by omega
  have b2 : i0.bytes * m ≤ 281474976710656 := by rw [hz2]; omega
  have b3 : m ≤ maxLen := by unfold maxLen; omega
  have HI := Lib.hid hi
  have HZ0 := Lib.hid hz0
  have HZ1 := Lib.hid hz1
  have HM := Lib.hid hm
  clear hi hz0 hz1 hz2 hm
  go_enter Try.func7, Try.ntmps7
  go_wp2_with (first
    | (at_make; refine wpList_make_full _ rfl _ _ 37 rfl w.heap.size 25 i0 _ 7 Try.underlying37 HI.out HZ0.out HZ1.out .i64 .i64 (32769 + a0.tmod 1000 % 1000) (32769 + a0.tmod 1000 % 1000) m (by rfl) (by rfl) HM.out HM.out b2 b3 (Nat.le_refl _) ?_; intro w1 hown hg; have F1 : Hid (Fr (fun _ => False) w w1) := Lib.hid (Fr.of_by0 hg); clear hown hg)
    | (go_at_call 20; (with_reducible refine (asm_long _ _ _ m1 _).mono ?_); rintro e w2 ⟨rfl, rfl⟩)
    | (go_at_call 9; (with_reducible refine (c9 _).mono ?_); rintro e w3 ⟨rfl, hf⟩; have F3 := Lib.hid (F1.out.trans hf); clear hf))
  go_ret
  exact ⟨rfl, F3.out⟩
end Go.Proofs.Ythbhjeccmhbnoaa.asmLong
