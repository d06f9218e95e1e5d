/-
  Modules (layer 13): the tests of a procedure's view.
-/
import Derived.Test.YtnhdchagoabjeaaDoorIrC
namespace Go.Proofs.YtnhdchagoabjeaaDoor
open Go.RowKit
set_option linter.unusedVariables false
set_option linter.unusedSimpArgs false
set_option maxRecDepth 100000 in
set_option maxHeartbeats 4000000 in
theorem fields_con (w : World) : Calls Tryd.prog 33 #[.int .i64 1] w fun e w' => e = .returned (.agg #[.bool true, .bool true, .bool false, .bool false, .bool false, .bool false, .bool false, .bool false, .bool false, .bool true, .bool false]) ∧ Fr (fun _ => False) w w' := by
  go_enter Tryd.func33, Tryd.ntmps33
  go_wp2
  exact bodyPost_ret (v := .agg #[.bool true, .bool true, .bool false, .bool false, .bool false, .bool false, .bool false, .bool false, .bool false, .bool true, .bool false]) (by simp [results, Tryd.results33, go_sem]) rfl ⟨rfl, fr_al (fr_al (Fr.refl _ _) _) _⟩
theorem fld0 (x0 x1 x2 x3 x4 x5 x6 x7 x8 x9 x10 : Value) (w : World) : (Instr.field 66 (.agg #[x0, x1, x2, x3, x4, x5, x6, x7, x8, x9, x10]) 0).run Tryd.prog w = .ok x0 w := by kernel_rfl
theorem fld1 (x0 x1 x2 x3 x4 x5 x6 x7 x8 x9 x10 : Value) (w : World) : (Instr.field 66 (.agg #[x0, x1, x2, x3, x4, x5, x6, x7, x8, x9, x10]) 1).run Tryd.prog w = .ok x1 w := by kernel_rfl
theorem fld2 (x0 x1 x2 x3 x4 x5 x6 x7 x8 x9 x10 : Value) (w : World) : (Instr.field 66 (.agg #[x0, x1, x2, x3, x4, x5, x6, x7, x8, x9, x10]) 2).run Tryd.prog w = .ok x2 w := by kernel_rfl
theorem fld3 (x0 x1 x2 x3 x4 x5 x6 x7 x8 x9 x10 : Value) (w : World) : (Instr.field 66 (.agg #[x0, x1, x2, x3, x4, x5, x6, x7, x8, x9, x10]) 3).run Tryd.prog w = .ok x3 w := by kernel_rfl
theorem fld4 (x0 x1 x2 x3 x4 x5 x6 x7 x8 x9 x10 : Value) (w : World) : (Instr.field 66 (.agg #[x0, x1, x2, x3, x4, x5, x6, x7, x8, x9, x10]) 4).run Tryd.prog w = .ok x4 w := by kernel_rfl
theorem fld5 (x0 x1 x2 x3 x4 x5 x6 x7 x8 x9 x10 : Value) (w : World) : (Instr.field 66 (.agg #[x0, x1, x2, x3, x4, x5, x6, x7, x8, x9, x10]) 5).run Tryd.prog w = .ok x5 w := by kernel_rfl
theorem fld6 (x0 x1 x2 x3 x4 x5 x6 x7 x8 x9 x10 : Value) (w : World) : (Instr.field 66 (.agg #[x0, x1, x2, x3, x4, x5, x6, x7, x8, x9, x10]) 6).run Tryd.prog w = .ok x6 w := by kernel_rfl
theorem fld7 (x0 x1 x2 x3 x4 x5 x6 x7 x8 x9 x10 : Value) (w : World) : (Instr.field 66 (.agg #[x0, x1, x2, x3, x4, x5, x6, x7, x8, x9, x10]) 7).run Tryd.prog w = .ok x7 w := by kernel_rfl
theorem fld8 (x0 x1 x2 x3 x4 x5 x6 x7 x8 x9 x10 : Value) (w : World) : (Instr.field 66 (.agg #[x0, x1, x2, x3, x4, x5, x6, x7, x8, x9, x10]) 8).run Tryd.prog w = .ok x8 w := by kernel_rfl
theorem fld9 (x0 x1 x2 x3 x4 x5 x6 x7 x8 x9 x10 : Value) (w : World) : (Instr.field 66 (.agg #[x0, x1, x2, x3, x4, x5, x6, x7, x8, x9, x10]) 9).run Tryd.prog w = .ok x9 w := by kernel_rfl
theorem fld10 (x0 x1 x2 x3 x4 x5 x6 x7 x8 x9 x10 : Value) (w : World) : (Instr.field 66 (.agg #[x0, x1, x2, x3, x4, x5, x6, x7, x8, x9, x10]) 10).run Tryd.prog w = .ok x10 w := by kernel_rfl
set_option maxRecDepth 100000 in
set_option maxHeartbeats 4000000 in
theorem is_register (g d p m nm vd pa ob bl : Value) (R : Int) (r : Int) (w : World) : Calls Tryd.prog 71 #[.agg #[g, d, p, m, nm, vd, pa, .int .i64 R, ob, bl], .int .i64 r] w fun e w' => e = .returned (.bool (decide (0 ≤ r) && decide (r < R))) ∧ Fr (fun _ => False) w w' := by
  go_enter Tryd.func71, Tryd.ntmps71
  go_wp2_with (go_at_call 26; (with_reducible refine (c26 _ _ _).mono ?_); rintro e w2 ⟨rfl, rfl⟩)
  go_ret
  exact ⟨rfl, fr_al (Fr.refl _ _) _⟩
set_option maxRecDepth 100000 in
set_option maxHeartbeats 4000000 in
theorem register_un (g d p m nm vd pa ob bl : Value) (R : Int) (r : Int) (w : World) : Calls Tryd.prog 60 #[.agg #[g, d, p, m, nm, vd, pa, .int .i64 R, ob, bl], .int .i64 r, .bool false] w fun e w' => e = .returned (.bool (r == -1)) ∧ Fr (fun _ => False) w w' := by
  go_enter Tryd.func60, Tryd.ntmps60
  go_wp2
  go_ret
  exact ⟨rfl, fr_al (Fr.refl _ _) _⟩
set_option maxRecDepth 100000 in
set_option maxHeartbeats 4000000 in
theorem register_used (g d p m nm vd pa ob bl : Value) (R : Int) (r : Int) (w : World) : Calls Tryd.prog 60 #[.agg #[g, d, p, m, nm, vd, pa, .int .i64 R, ob, bl], .int .i64 r, .bool true] w fun e w' => e = .returned (.bool (decide (0 ≤ r) && decide (r < R))) ∧ Fr (fun _ => False) w w' := by
  go_enter Tryd.func60, Tryd.ntmps60
  go_wp2_with (go_at_call 71; (with_reducible refine (is_register _ _ _ _ _ _ _ _ _ _ _ _).mono ?_); rintro e w2 ⟨rfl, hf⟩; have HF := Lib.hid hf; clear hf)
  go_ret
  exact ⟨rfl, (fr_al (Fr.refl _ _) _).trans HF.out⟩
set_option maxRecDepth 100000 in
set_option maxHeartbeats 4000000 in
theorem def_con (g d p m nm vd pa ob bl : Value) (R : Int)  (w : World) : Calls Tryd.prog 13 #[.agg #[.int .i64 1, .int .i64 0, .int .i64 (-1), .int .i64 (-1), .int .i64 0, .int .i64 0, .int .i64 0, .int .i64 0, .int .u32 7, .slice none 0 0, .bool false]] w fun e w' => e = .returned (.int .i64 0) ∧ Fr (fun _ => False) w w' := by
  have hfi := fld1
  go_enter Tryd.func13, Tryd.ntmps13
  go_wp2_with (go_at_call 33; (with_reducible refine (fields_con _).mono ?_); rintro e w2 ⟨rfl, hf⟩; have HF := Lib.hid hf; have k1 := hf.cell (fcell w _ _ 1 _ rfl) id; clear hf)
  go_ret
  exact ⟨rfl, (fr_al (Fr.refl _ _) _).trans HF.out⟩
set_option maxRecDepth 100000 in
set_option maxHeartbeats 4000000 in
theorem void_con (g d p m nm vd pa ob bl : Value) (R : Int)  (w : World) : Calls Tryd.prog 64 #[.agg #[g, d, p, m, nm, vd, pa, .int .i64 R, ob, bl], .agg #[.int .i64 1, .int .i64 0, .int .i64 (-1), .int .i64 (-1), .int .i64 0, .int .i64 0, .int .i64 0, .int .i64 0, .int .u32 7, .slice none 0 0, .bool false]] w fun e w' => e = .returned (.bool false) ∧ Fr (fun _ => False) w w' := by
  go_enter Tryd.func64, Tryd.ntmps64
  go_wp2
  go_ret
  exact ⟨rfl, fr_al (fr_al (Fr.refl _ _) _) _⟩
set_option maxRecDepth 100000 in
set_option maxHeartbeats 4000000 in
theorem args_con (g d p m nm vd pa ob bl : Value) (R : Int)  (w : World) : Calls Tryd.prog 65 #[.agg #[g, d, p, m, nm, vd, pa, .int .i64 R, ob, bl], .agg #[.int .i64 1, .int .i64 0, .int .i64 (-1), .int .i64 (-1), .int .i64 0, .int .i64 0, .int .i64 0, .int .i64 0, .int .u32 7, .slice none 0 0, .bool false], .bool false] w fun e w' => e = .returned (.bool true) ∧ Fr (fun _ => False) w w' := by
  go_enter Tryd.func65, Tryd.ntmps65
  go_wp2
  go_ret
  exact ⟨rfl, fr_al (fr_al (Fr.refl _ _) _) _⟩
end Go.Proofs.YtnhdchagoabjeaaDoor
