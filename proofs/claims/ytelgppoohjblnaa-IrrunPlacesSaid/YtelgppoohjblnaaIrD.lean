/-
  Modules (layer 13): the tests of a procedure's view.
-/
import Derived.Test.YtelgppoohjblnaaIrC
namespace Go.Proofs.Ytelgppoohjblnaa
open Go.RowKit
set_option linter.unusedVariables false
set_option linter.unusedSimpArgs false
theorem fld0 (x0 x1 x2 x3 x4 x5 x6 x7 x8 x9 x10 : Value) (w : World) : (Instr.field 107 (.agg #[x0, x1, x2, x3, x4, x5, x6, x7, x8, x9, x10]) 0).run Try.prog w = .ok x0 w := by kernel_rfl
theorem fld1 (x0 x1 x2 x3 x4 x5 x6 x7 x8 x9 x10 : Value) (w : World) : (Instr.field 107 (.agg #[x0, x1, x2, x3, x4, x5, x6, x7, x8, x9, x10]) 1).run Try.prog w = .ok x1 w := by kernel_rfl
theorem fld2 (x0 x1 x2 x3 x4 x5 x6 x7 x8 x9 x10 : Value) (w : World) : (Instr.field 107 (.agg #[x0, x1, x2, x3, x4, x5, x6, x7, x8, x9, x10]) 2).run Try.prog w = .ok x2 w := by kernel_rfl
theorem fld3 (x0 x1 x2 x3 x4 x5 x6 x7 x8 x9 x10 : Value) (w : World) : (Instr.field 107 (.agg #[x0, x1, x2, x3, x4, x5, x6, x7, x8, x9, x10]) 3).run Try.prog w = .ok x3 w := by kernel_rfl
theorem fld4 (x0 x1 x2 x3 x4 x5 x6 x7 x8 x9 x10 : Value) (w : World) : (Instr.field 107 (.agg #[x0, x1, x2, x3, x4, x5, x6, x7, x8, x9, x10]) 4).run Try.prog w = .ok x4 w := by kernel_rfl
theorem fld5 (x0 x1 x2 x3 x4 x5 x6 x7 x8 x9 x10 : Value) (w : World) : (Instr.field 107 (.agg #[x0, x1, x2, x3, x4, x5, x6, x7, x8, x9, x10]) 5).run Try.prog w = .ok x5 w := by kernel_rfl
theorem fld6 (x0 x1 x2 x3 x4 x5 x6 x7 x8 x9 x10 : Value) (w : World) : (Instr.field 107 (.agg #[x0, x1, x2, x3, x4, x5, x6, x7, x8, x9, x10]) 6).run Try.prog w = .ok x6 w := by kernel_rfl
theorem fld7 (x0 x1 x2 x3 x4 x5 x6 x7 x8 x9 x10 : Value) (w : World) : (Instr.field 107 (.agg #[x0, x1, x2, x3, x4, x5, x6, x7, x8, x9, x10]) 7).run Try.prog w = .ok x7 w := by kernel_rfl
theorem fld8 (x0 x1 x2 x3 x4 x5 x6 x7 x8 x9 x10 : Value) (w : World) : (Instr.field 107 (.agg #[x0, x1, x2, x3, x4, x5, x6, x7, x8, x9, x10]) 8).run Try.prog w = .ok x8 w := by kernel_rfl
theorem fld9 (x0 x1 x2 x3 x4 x5 x6 x7 x8 x9 x10 : Value) (w : World) : (Instr.field 107 (.agg #[x0, x1, x2, x3, x4, x5, x6, x7, x8, x9, x10]) 9).run Try.prog w = .ok x9 w := by kernel_rfl
theorem fld10 (x0 x1 x2 x3 x4 x5 x6 x7 x8 x9 x10 : Value) (w : World) : (Instr.field 107 (.agg #[x0, x1, x2, x3, x4, x5, x6, x7, x8, x9, x10]) 10).run Try.prog w = .ok x10 w := by kernel_rfl
set_option maxRecDepth 100000 in
set_option maxHeartbeats 4000000 in
theorem is_register (g d p m nm vd pa ob bl : Value) (R : Int) (r : Int) (w : World) : Calls Try.prog 85 #[.agg #[g, d, p, m, nm, vd, pa, .int .i64 R, ob, bl], .int .i64 r] w fun e w' => e = .returned (.bool (decide (0 ≤ r) && decide (r < R))) ∧ Fr (fun _ => False) w w' := by
  go_enter Try.func85, Try.ntmps85
  go_wp2_with (go_at_call 52; (with_reducible refine (c52 _ _ _).mono ?_); rintro e w2 ⟨rfl, rfl⟩)
  go_ret
  exact ⟨rfl, fr_al (Fr.refl _ _) _⟩
set_option maxRecDepth 100000 in
set_option maxHeartbeats 4000000 in
theorem register_un (g d p m nm vd pa ob bl : Value) (R : Int) (r : Int) (w : World) : Calls Try.prog 76 #[.agg #[g, d, p, m, nm, vd, pa, .int .i64 R, ob, bl], .int .i64 r, .bool false] w fun e w' => e = .returned (.bool (r == -1)) ∧ Fr (fun _ => False) w w' := by
  go_enter Try.func76, Try.ntmps76
  go_wp2
  go_ret
  exact ⟨rfl, fr_al (Fr.refl _ _) _⟩
set_option maxRecDepth 100000 in
set_option maxHeartbeats 4000000 in
theorem register_used (g d p m nm vd pa ob bl : Value) (R : Int) (r : Int) (w : World) : Calls Try.prog 76 #[.agg #[g, d, p, m, nm, vd, pa, .int .i64 R, ob, bl], .int .i64 r, .bool true] w fun e w' => e = .returned (.bool (decide (0 ≤ r) && decide (r < R))) ∧ Fr (fun _ => False) w w' := by
  go_enter Try.func76, Try.ntmps76
  go_wp2_with (go_at_call 85; (with_reducible refine (is_register _ _ _ _ _ _ _ _ _ _ _ _).mono ?_); rintro e w2 ⟨rfl, hf⟩; have HF := Lib.hid hf; clear hf)
  go_ret
  exact ⟨rfl, (fr_al (Fr.refl _ _) _).trans HF.out⟩
set_option maxRecDepth 100000 in
set_option maxHeartbeats 4000000 in
theorem def_in (g d p m nm vd pa ob bl : Value) (R : Int)  (w : World) : Calls Try.prog 83 #[.agg #[.int .i64 11, .int .i64 0, .int .i64 (-1), .int .i64 (-1), .int .i64 0, .int .i64 0, .int .i64 0, .int .i64 0, .int .u32 0, .slice none 0 0, .bool false]] w fun e w' => e = .returned (.int .i64 0) ∧ Fr (fun _ => False) w w' := by
  have hfi := fld1
  go_enter Try.func83, Try.ntmps83
  go_wp2_with (go_at_call 79; (with_reducible refine (fields_in _).mono ?_); rintro e w2 ⟨rfl, hf⟩; have HF := Lib.hid hf; have k1 := hf.cell (fcell w _ _ 1 _ rfl) id; clear hf)
  go_ret
  exact ⟨rfl, (fr_al (Fr.refl _ _) _).trans HF.out⟩
set_option maxRecDepth 100000 in
set_option maxHeartbeats 4000000 in
theorem void_in (g d p m nm vd pa ob bl : Value) (R : Int)  (w : World) : Calls Try.prog 81 #[.agg #[g, d, p, m, nm, vd, pa, .int .i64 R, ob, bl], .agg #[.int .i64 11, .int .i64 0, .int .i64 (-1), .int .i64 (-1), .int .i64 0, .int .i64 0, .int .i64 0, .int .i64 0, .int .u32 0, .slice none 0 0, .bool false]] w fun e w' => e = .returned (.bool false) ∧ Fr (fun _ => False) w w' := by
  go_enter Try.func81, Try.ntmps81
  go_wp2
  go_ret
  exact ⟨rfl, fr_al (fr_al (Fr.refl _ _) _) _⟩
set_option maxRecDepth 100000 in
set_option maxHeartbeats 4000000 in
theorem args_in (g d p m nm vd pa ob bl : Value) (R : Int)  (w : World) : Calls Try.prog 82 #[.agg #[g, d, p, m, nm, vd, pa, .int .i64 R, ob, bl], .agg #[.int .i64 11, .int .i64 0, .int .i64 (-1), .int .i64 (-1), .int .i64 0, .int .i64 0, .int .i64 0, .int .i64 0, .int .u32 0, .slice none 0 0, .bool false], .bool false] w fun e w' => e = .returned (.bool true) ∧ Fr (fun _ => False) w w' := by
  go_enter Try.func82, Try.ntmps82
  go_wp2
  go_ret
  exact ⟨rfl, fr_al (fr_al (Fr.refl _ _) _) _⟩
set_option maxRecDepth 100000 in
set_option maxHeartbeats 4000000 in
theorem def_out (g d p m nm vd pa ob bl : Value) (R : Int)  (w : World) : Calls Try.prog 83 #[.agg #[.int .i64 10, .int .i64 (-1), .int .i64 0, .int .i64 (-1), .int .i64 0, .int .i64 0, .int .i64 0, .int .i64 0, .int .u32 0, .slice none 0 0, .bool false]] w fun e w' => e = .returned (.int .i64 (-1)) ∧ Fr (fun _ => False) w w' := by
  have hfi := fld1
  go_enter Try.func83, Try.ntmps83
  go_wp2_with (go_at_call 79; (with_reducible refine (fields_out _).mono ?_); rintro e w2 ⟨rfl, hf⟩; have HF := Lib.hid hf; have k1 := hf.cell (fcell w _ _ 1 _ rfl) id; clear hf)
  go_ret
  exact ⟨rfl, (fr_al (Fr.refl _ _) _).trans HF.out⟩
set_option maxRecDepth 100000 in
set_option maxHeartbeats 4000000 in
theorem void_out (g d p m nm vd pa ob bl : Value) (R : Int)  (w : World) : Calls Try.prog 81 #[.agg #[g, d, p, m, nm, vd, pa, .int .i64 R, ob, bl], .agg #[.int .i64 10, .int .i64 (-1), .int .i64 0, .int .i64 (-1), .int .i64 0, .int .i64 0, .int .i64 0, .int .i64 0, .int .u32 0, .slice none 0 0, .bool false]] w fun e w' => e = .returned (.bool false) ∧ Fr (fun _ => False) w w' := by
  go_enter Try.func81, Try.ntmps81
  go_wp2
  go_ret
  exact ⟨rfl, fr_al (fr_al (Fr.refl _ _) _) _⟩
set_option maxRecDepth 100000 in
set_option maxHeartbeats 4000000 in
theorem args_out (g d p m nm vd pa ob bl : Value) (R : Int)  (w : World) : Calls Try.prog 82 #[.agg #[g, d, p, m, nm, vd, pa, .int .i64 R, ob, bl], .agg #[.int .i64 10, .int .i64 (-1), .int .i64 0, .int .i64 (-1), .int .i64 0, .int .i64 0, .int .i64 0, .int .i64 0, .int .u32 0, .slice none 0 0, .bool false], .bool false] w fun e w' => e = .returned (.bool true) ∧ Fr (fun _ => False) w w' := by
  go_enter Try.func82, Try.ntmps82
  go_wp2
  go_ret
  exact ⟨rfl, fr_al (fr_al (Fr.refl _ _) _) _⟩
end Go.Proofs.Ytelgppoohjblnaa
