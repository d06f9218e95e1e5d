/-
  What an instruction sets (layer 13): the program's and the document's own.
-/
import Derived.Test.YteghojgdljlplaaDoorTelE
namespace Go.Proofs.YteghojgdljlplaaDoor
open Go.RowKit
set_option linter.unusedVariables false
set_option linter.unusedSimpArgs false
def defI (op d : Int) : Int := if hasD op = true then d else -1
set_option maxRecDepth 100000 in
set_option maxHeartbeats 4000000 in
theorem def_any (op d : Int) (y2 y3 y4 y5 y6 y7 y8 y9 y10 : Value) (w : World) : Calls Tryd.prog 13 #[.agg #[.int .i64 op, .int .i64 d, y2, y3, y4, y5, y6, y7, y8, y9, y10]] w fun e w' => e = .returned (.int .i64 (defI op d)) ∧ Fr (fun _ => False) w w' := by
  have hfi := fld1
  have HFO := fo_any op
  by_cases h : hasD op = true
  · have HN := Lib.hid (show defI op d = d by unfold defI; rw [if_pos h])
    simp only [h] at HFO
    clear h
    have HFO := Lib.hid HFO
    go_enter Tryd.func13, Tryd.ntmps13
    go_wp2_with (go_at_call 33; (with_reducible refine (HFO.out _).mono ?_); rintro e w2 ⟨⟨z0, z5, z6, z7, z8, z9, z10, rfl⟩, hf⟩; have HF := Lib.hid hf; have k1 := hf.cell (fcell w _ _ 1 _ rfl) id; clear hf)
    go_ret
    exact ⟨by rw [HN.out]; rfl, (fr_al (Fr.refl _ _) _).trans HF.out⟩
  · have HN := Lib.hid (show defI op d = -1 by unfold defI; rw [if_neg h])
    have h' : hasD op = false := by simpa using h
    simp only [h'] at HFO
    clear h h'
    have HFO := Lib.hid HFO
    go_enter Tryd.func13, Tryd.ntmps13
    go_wp2_with (go_at_call 33; (with_reducible refine (HFO.out _).mono ?_); rintro e w2 ⟨⟨z0, z5, z6, z7, z8, z9, z10, rfl⟩, hf⟩; have HF := Lib.hid hf; have k1 := hf.cell (fcell w _ _ 1 _ rfl) id; clear hf)
    go_ret
    exact ⟨by rw [HN.out]; rfl, (fr_al (Fr.refl _ _) _).trans HF.out⟩
set_option maxRecDepth 100000 in
set_option maxHeartbeats 4000000 in
theorem rdef_any (op d : Int) (y2 y3 y4 y5 y6 y7 y8 y9 y10 : Value) (w : World) : Calls Tryd.prog 14 #[.agg #[.int .i64 op, .int .i64 d, y2, y3, y4, y5, y6, y7, y8, y9, y10]] w fun e w' => e = .returned (.int .i64 (defI op d)) ∧ Fr (fun _ => False) w w' := by
  by_cases hr : op < 1 ∨ 12 < op
  · have HN := Lib.hid (show defI op d = -1 by unfold defI; rw [(no_op hr).1]; rfl)
    have HFO := Lib.hid (rf_no op hr)
    clear hr
    go_enter Tryd.func14, Tryd.ntmps14
    go_wp2_with (go_at_call 34; (with_reducible refine (HFO.out _).mono ?_); rintro e w2 ⟨rfl, hf⟩; have HF := Lib.hid hf; have k1 := hf.cell (fcell w _ _ 1 _ rfl) id; clear hf)
    go_ret
    exact ⟨by rw [HN.out]; rfl, (fr_al (Fr.refl _ _) _).trans HF.out⟩
  have HFO := Lib.hid (rf_any op (by omega))
  clear hr
  by_cases h : hasD op = true
  · have HN := Lib.hid (show defI op d = d by unfold defI; rw [if_pos h])
    have HH := Lib.hid h
    clear h
    go_enter Tryd.func14, Tryd.ntmps14
    go_wp2_with (go_at_call 34; (with_reducible refine (HFO.out _).mono ?_); rintro e w2 ⟨⟨g, rfl, hw⟩, hf⟩; have HF := Lib.hid hf; have k1 := hf.cell (fcell w _ _ 1 _ rfl) id; have k2 := hw.d; rw [HH.out] at k2; clear hf hw)
    go_ret
    exact ⟨by rw [HN.out]; rfl, (fr_al (Fr.refl _ _) _).trans HF.out⟩
  · have HN := Lib.hid (show defI op d = -1 by unfold defI; rw [if_neg h])
    have HH := Lib.hid (show hasD op = false by simpa using h)
    clear h
    go_enter Tryd.func14, Tryd.ntmps14
    go_wp2_with (go_at_call 34; (with_reducible refine (HFO.out _).mono ?_); rintro e w2 ⟨⟨g, rfl, hw⟩, hf⟩; have HF := Lib.hid hf; have k1 := hf.cell (fcell w _ _ 1 _ rfl) id; have k2 := hw.d; rw [HH.out] at k2; clear hf hw)
    go_ret
    exact ⟨by rw [HN.out]; rfl, (fr_al (Fr.refl _ _) _).trans HF.out⟩
end Go.Proofs.YteghojgdljlplaaDoor
