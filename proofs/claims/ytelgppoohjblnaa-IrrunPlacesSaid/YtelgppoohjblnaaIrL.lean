/-
  Runs (layer 14): the machine's read, execute at an input, leave, end.
-/
import Derived.Test.YtelgppoohjblnaaIrK
namespace Go.Proofs.Ytelgppoohjblnaa
open Go.RowKit
set_option linter.unusedVariables false
set_option linter.unusedSimpArgs false
def ReadP (mb bx : Nat) (o ex e gl da pr mn fu me at_ fl fr ca : Value) (w : World) (en : Ending) (w' : World) : Prop := en = .returned (.int .u32 300) ∧ RW w' mb (mch o (.int .i64 1) ex e gl da pr mn (.slice (some ⟨bx, 0, none⟩) 1 1) fu me at_ fl fr ca) ∧ Fr (fun k => k = mb) w w'
set_option maxRecDepth 100000 in
set_option maxHeartbeats 2000000 in
theorem read_ok (mb bx : Nat) (o ex e gl da pr mn fu me at_ fl fr ca : Value) (w : World) (h : RW w mb (mch o (.int .i64 0) ex e gl da pr mn (.slice (some ⟨bx, 0, none⟩) 1 1) fu me at_ fl fr ca)) (hx : w.cell? ⟨bx, 0, none⟩ = some (.int .u32 300)) (hne : bx ≠ mb) : Calls Try.prog 64 #[.pointer (some ⟨mb, 0, none⟩)] w (ReadP mb bx o ex e gl da pr mn fu me at_ fl fr ca w) := by
  have c1 : w.cell? ⟨mb, 1, none⟩ = some (.int .i64 0) := h.1 1 _ rfl
  have zc1 : w.frozen? ⟨mb, 1, none⟩ = false := h.2 1 (by show 1 < 15; decide)
  have c8 : w.cell? ⟨mb, 8, none⟩ = some (.slice (some ⟨bx, 0, none⟩) 1 1) := h.1 8 _ rfl
  have zc8 : w.frozen? ⟨mb, 8, none⟩ = false := h.2 8 (by show 8 < 15; decide)
  have HH := Lib.hid h
  have HR := Lib.hid (show ReadP mb bx o ex e gl da pr mn fu me at_ fl fr ca w (.returned (.int .u32 300)) (w.setCell ⟨mb, 1, none⟩ (.int .i64 1)) from ⟨rfl, h.set (i := 1) (by show 1 < 15; decide), Fr.setCell (F := fun k => k = mb) _ _ _ rfl⟩)
  have HS := Lib.hid (h.set (i := 1) (v := .int .i64 1) (by show 1 < 15; decide))
  have hx1 : (w.setCell ⟨mb, 1, none⟩ (.int .i64 1)).cell? ⟨bx, 0, none⟩ = some (.int .u32 300) := (Fr.setCell (F := fun k => k = mb) w ⟨mb, 1, none⟩ (.int .i64 1) rfl).cell hx hne
  clear h hx
  go_enter Try.func64, Try.ntmps64
  go_wp2
  generalize w.setCell ⟨mb, 1, none⟩ (.int .i64 1) = W at *
  have d1 : W.cell? ⟨mb, 1, none⟩ = some (.int .i64 1) := HS.out.1 1 _ rfl
  have d8 : W.cell? ⟨mb, 8, none⟩ = some (.slice (some ⟨bx, 0, none⟩) 1 1) := HS.out.1 8 _ rfl
  clear c1 zc1 c8 zc8
  go_quiet (fail)
  go_wp2
  go_quiet (fail)
  go_wp2
  go_ret
  exact ⟨rfl, (HR.out.2.1.drew _).drew _, (HR.out.2.2.drewN _).drewN _⟩
def ExInP (mb bx cb rb bb : Nat) (o ex e gl da pr mn fu me at_ fl fr ca nx : Value) (w : World) (en : Ending) (w' : World) : Prop := en = .returned (.tuple #[]) ∧ RW w' mb (mch o (.int .i64 1) ex e gl da pr mn (.slice (some ⟨bx, 0, none⟩) 1 1) fu me at_ fl fr ca) ∧ RW w' cb (cll (.slice (some ⟨rb, 0, none⟩) 1 1) (.int .i64 0) (.pointer (some ⟨bb, 0, none⟩)) nx (.int .i64 65536) (.int .i64 (-1))) ∧ RW w' rb #[.int .u32 300] ∧ Fr (fun k => k = mb ∨ k = rb) w w'
set_option maxRecDepth 100000 in
set_option maxHeartbeats 4000000 in
theorem exec_in (mb bx cb rb bb bi : Nat) (o ex e gl da pr mn fu me at_ fl fr ca nx : Value) (w : World) (h : RW w mb (mch o (.int .i64 0) ex e gl da pr mn (.slice (some ⟨bx, 0, none⟩) 1 1) fu me at_ fl fr ca)) (hc : RW w cb (cll (.slice (some ⟨rb, 0, none⟩) 1 1) (.int .i64 0) (.pointer (some ⟨bb, 0, none⟩)) nx (.int .i64 65536) (.int .i64 (-1)))) (hr : RW w rb #[.int .u32 0]) (hi : Row w bi ins22) (hx : w.cell? ⟨bx, 0, none⟩ = some (.int .u32 300)) (n1 : bx ≠ mb) (n2 : cb ≠ mb) (n3 : rb ≠ mb) (n4 : bi ≠ mb) (n5 : cb ≠ rb) : Calls Try.prog 47 #[.pointer (some ⟨mb, 0, none⟩), .pointer (some ⟨cb, 0, none⟩), .pointer (some ⟨bi, 0, none⟩)] w (ExInP mb bx cb rb bb o ex e gl da pr mn fu me at_ fl fr ca nx w) := by
  have c0 : w.cell? ⟨cb, 0, none⟩ = some (.slice (some ⟨rb, 0, none⟩) 1 1) := hc.1 0 _ rfl
  have i0 : w.cell? ⟨bi, 0, none⟩ = some (.int .i64 11) := hi 0 _ rfl
  have i1 : w.cell? ⟨bi, 1, none⟩ = some (.int .i64 0) := hi 1 _ rfl
  have HH := Lib.hid h
  have HC := Lib.hid hc
  have HR := Lib.hid hr
  have HI := Lib.hid hi
  have HX := Lib.hid hx
  clear h hc hr hi hx
  go_enter Try.func47, Try.ntmps47
  go_wp2
  have HH1 : Hid (RW w.drew mb (mch o (.int .i64 0) ex e gl da pr mn (.slice (some ⟨bx, 0, none⟩) 1 1) fu me at_ fl fr ca)) := Lib.hid (HH.out.drew 1)
  have HX1 : Hid (w.drew.cell? ⟨bx, 0, none⟩ = some (.int .u32 300)) := Lib.hid HX.out
  go_region_with (go_at_call 64; (with_reducible refine (read_ok mb bx o ex e gl da pr mn fu me at_ fl fr ca _ HH1.out HX1.out n1).mono ?_); rintro en w2 ⟨rfl, hm, hf⟩; have HM2 := Lib.hid hm; have HF2 : Hid (Fr (fun k => k = mb) w w2) := Lib.hid (((Fr.refl _ w).drewN 1).trans hf); have q1 : w2.cell? ⟨bi, 1, none⟩ = some (.int .i64 0) := hf.cell i1 n4; have q0 : w2.cell? ⟨rb, 0, none⟩ = some (.int .u32 0) := hf.cell (HR.out.1 0 _ rfl) n3; have y0 : w2.frozen? ⟨rb, 0, none⟩ = false := (HR.out.fr HF2.out n3).2 0 (by show 0 < 1; decide); clear hm hf)
  all_goals go_wp2
  all_goals go_end0
  all_goals exact ⟨rfl, HM2.out.set' n3.symm, (HC.out.fr HF2.out n2).set' n5, (HR.out.fr HF2.out n3).set (i := 0) (by show 0 < 1; decide), (HF2.out.mono (fun _ _ x => Or.inl x)).trans (Fr.setCell (F := fun k => k = mb ∨ k = rb) _ _ _ (Or.inr rfl))⟩
def LeaveP (mb cb rb bb bi cap : Nat) (o ns ex e gl da pr mn inp fu me at_ fl fr : Value) (w : World) (en : Ending) (w' : World) : Prop := en = .returned (.tuple #[]) ∧ RW w' mb (mch o ns (.int .u32 44) e gl da pr mn inp fu me at_ fl fr (.slice (some ⟨cb, 0, none⟩) 0 cap)) ∧ Fr (fun k => k = mb) w w'
set_option maxRecDepth 100000 in
set_option maxHeartbeats 4000000 in
theorem leave_ok (mb cb rb bb bi cap : Nat) (o ns ex e gl da pr mn inp fu me at_ fl fr : Value) (w : World) (h : RW w mb (mch o ns ex e gl da pr mn inp fu me at_ fl fr (.slice (some ⟨cb, 0, none⟩) 1 cap))) (hc : RW w cb (cll (.slice (some ⟨rb, 0, none⟩) 1 1) (.int .i64 0) (.pointer (some ⟨bb, 0, none⟩)) (.int .i64 2) (.int .i64 65536) (.int .i64 (-1)))) (hr : RW w rb #[.int .u32 300]) (hb : Row w bb #[.slice (some ⟨bi, 0, none⟩) 2 2, .int .i64 3, .int .i64 0, .int .i64 0, .int .i64 0]) (n2 : cb ≠ mb) (n3 : rb ≠ mb) (n4 : bb ≠ mb) : Calls Try.prog 66 #[.pointer (some ⟨mb, 0, none⟩), .pointer (some ⟨cb, 0, none⟩)] w (LeaveP mb cb rb bb bi cap o ns ex e gl da pr mn inp fu me at_ fl fr w) := by
  have c0 : w.cell? ⟨cb, 0, none⟩ = some (.slice (some ⟨rb, 0, none⟩) 1 1) := hc.1 0 _ rfl
  have c2 : w.cell? ⟨cb, 2, none⟩ = some (.pointer (some ⟨bb, 0, none⟩)) := hc.1 2 _ rfl
  have c5 : w.cell? ⟨cb, 5, none⟩ = some (.int .i64 (-1)) := hc.1 5 _ rfl
  have b2 : w.cell? ⟨bb, 2, none⟩ = some (.int .i64 0) := hb 2 _ rfl
  have r0 : w.cell? ⟨rb, 0, none⟩ = some (.int .u32 300) := hr.1 0 _ rfl
  have m2 : w.cell? ⟨mb, 2, none⟩ = some (ex) := h.1 2 _ rfl
  have zm2 : w.frozen? ⟨mb, 2, none⟩ = false := h.2 2 (by show 2 < 15; decide)
  have m14 : w.cell? ⟨mb, 14, none⟩ = some (.slice (some ⟨cb, 0, none⟩) 1 cap) := h.1 14 _ rfl
  have zm14 : w.frozen? ⟨mb, 14, none⟩ = false := h.2 14 (by show 14 < 15; decide)
  have HH := Lib.hid h
  clear h hc hr hb
  go_enter Try.func66, Try.ntmps66
  go_wp2
  go_quiet (fail)
  go_wp2
  go_region
  all_goals go_wp2
  all_goals go_end0
  all_goals exact ⟨rfl, ((HH.out.drew _).set (i := 14) (by show 14 < 15; decide)).set (i := 2) (by show 2 < 15; decide), (((Fr.refl _ w).drewN _).trans (Fr.setCell (F := fun k => k = mb) _ _ _ rfl)).trans (Fr.setCell (F := fun k => k = mb) _ _ _ rfl)⟩
set_option maxRecDepth 100000 in
set_option maxHeartbeats 4000000 in
theorem end_ok2 (mb cb rb bb bi cap : Nat) (o ns ex e gl da pr mn inp fu me at_ fl fr : Value) (w : World) (h : RW w mb (mch o ns ex e gl da pr mn inp fu me at_ fl fr (.slice (some ⟨cb, 0, none⟩) 1 cap))) (hc : RW w cb (cll (.slice (some ⟨rb, 0, none⟩) 1 1) (.int .i64 0) (.pointer (some ⟨bb, 0, none⟩)) (.int .i64 2) (.int .i64 65536) (.int .i64 (-1)))) (hr : RW w rb #[.int .u32 300]) (hb : Row w bb #[.slice (some ⟨bi, 0, none⟩) 2 2, .int .i64 3, .int .i64 0, .int .i64 0, .int .i64 0]) (n2 : cb ≠ mb) (n3 : rb ≠ mb) (n4 : bb ≠ mb) : Calls Try.prog 48 #[.pointer (some ⟨mb, 0, none⟩), .pointer (some ⟨cb, 0, none⟩)] w (LeaveP mb cb rb bb bi cap o ns ex e gl da pr mn inp fu me at_ fl fr w) := by
  have c2 : w.cell? ⟨cb, 2, none⟩ = some (.pointer (some ⟨bb, 0, none⟩)) := hc.1 2 _ rfl
  have b1 : w.cell? ⟨bb, 1, none⟩ = some (.int .i64 3) := hb 1 _ rfl
  have HL := Lib.hid (leave_ok mb cb rb bb bi cap o ns ex e gl da pr mn inp fu me at_ fl fr w h hc hr hb n2 n3 n4)
  clear h hc hr hb
  go_enter Try.func48, Try.ntmps48
  go_wp2_with (go_at_call 66; (with_reducible refine HL.out.mono ?_); rintro en w2 ⟨rfl, hm, hf⟩; have HM := Lib.hid hm; have HF := Lib.hid hf; clear hm hf)
  go_end0
  exact ⟨rfl, HM.out, HF.out⟩
end Go.Proofs.Ytelgppoohjblnaa
