/-
  What instructions set, read and do (layer 13): the fields of an operation, the program's and the document's own.
-/
import Derived.Test.YthdkmjbeemfbbaaQIqE
namespace Go.Proofs.Ythdkmjbeemfbbaa
open Go.RowKit
set_option linter.unusedVariables false
set_option linter.unusedSimpArgs false
/-- Which fields an operation has: D, A, B, Args. -/
def hasD (op : Int) : Bool := op == 1 || op == 2 || op == 3 || op == 4 || op == 5 || op == 7 || op == 8 || op == 9 || op == 11
def hasA (op : Int) : Bool := op == 2 || op == 3 || op == 4 || op == 5 || op == 6 || op == 10
def hasB (op : Int) : Bool := op == 3 || op == 6
def hasG (op : Int) : Bool := op == 9
def inO (op : Int) : Bool := decide (1 ≤ op) && decide (op ≤ 12)
theorem op_cases (op : Int) : op = 1 ∨ op = 2 ∨ op = 3 ∨ op = 4 ∨ op = 5 ∨ op = 6 ∨ op = 7 ∨ op = 8 ∨ op = 9 ∨ op = 10 ∨ op = 11 ∨ op = 12 ∨ (op < 1 ∨ 12 < op) := by omega
theorem no_op {op : Int} (h : op < 1 ∨ 12 < op) : hasD op = false ∧ hasA op = false ∧ hasB op = false ∧ hasG op = false ∧ inO op = false := by
  unfold hasD hasA hasB hasG inO
  simp; omega
set_option maxRecDepth 100000 in
set_option maxHeartbeats 4000000 in
theorem fo_1 (w : World) : Calls Try.prog 60 #[.int .i64 1] w fun e w' => e = .returned (.agg #[.bool true, .bool true, .bool false, .bool false, .bool false, .bool false, .bool false, .bool false, .bool false, .bool true, .bool false]) ∧ Fr (fun _ => False) w w' := by
  go_enter Try.func60, Try.ntmps60
  go_wp2
  exact bodyPost_ret (v := .agg #[.bool true, .bool true, .bool false, .bool false, .bool false, .bool false, .bool false, .bool false, .bool false, .bool true, .bool false]) (by simp [results, Try.results60, go_sem]) rfl ⟨rfl, fr_al (fr_al (Fr.refl _ _) _) _⟩
set_option maxRecDepth 100000 in
set_option maxHeartbeats 4000000 in
theorem fo_2 (w : World) : Calls Try.prog 60 #[.int .i64 2] w fun e w' => e = .returned (.agg #[.bool true, .bool true, .bool true, .bool false, .bool false, .bool false, .bool false, .bool false, .bool false, .bool false, .bool false]) ∧ Fr (fun _ => False) w w' := by
  go_enter Try.func60, Try.ntmps60
  go_wp2
  exact bodyPost_ret (v := .agg #[.bool true, .bool true, .bool true, .bool false, .bool false, .bool false, .bool false, .bool false, .bool false, .bool false, .bool false]) (by simp [results, Try.results60, go_sem]) rfl ⟨rfl, fr_al (fr_al (Fr.refl _ _) _) _⟩
set_option maxRecDepth 100000 in
set_option maxHeartbeats 4000000 in
theorem fo_3 (w : World) : Calls Try.prog 60 #[.int .i64 3] w fun e w' => e = .returned (.agg #[.bool true, .bool true, .bool true, .bool true, .bool false, .bool true, .bool false, .bool false, .bool false, .bool false, .bool false]) ∧ Fr (fun _ => False) w w' := by
  go_enter Try.func60, Try.ntmps60
  go_wp2
  exact bodyPost_ret (v := .agg #[.bool true, .bool true, .bool true, .bool true, .bool false, .bool true, .bool false, .bool false, .bool false, .bool false, .bool false]) (by simp [results, Try.results60, go_sem]) rfl ⟨rfl, fr_al (fr_al (Fr.refl _ _) _) _⟩
set_option maxRecDepth 100000 in
set_option maxHeartbeats 4000000 in
theorem fo_4 (w : World) : Calls Try.prog 60 #[.int .i64 4] w fun e w' => e = .returned (.agg #[.bool true, .bool true, .bool true, .bool false, .bool false, .bool true, .bool false, .bool false, .bool false, .bool false, .bool false]) ∧ Fr (fun _ => False) w w' := by
  go_enter Try.func60, Try.ntmps60
  go_wp2
  exact bodyPost_ret (v := .agg #[.bool true, .bool true, .bool true, .bool false, .bool false, .bool true, .bool false, .bool false, .bool false, .bool false, .bool false]) (by simp [results, Try.results60, go_sem]) rfl ⟨rfl, fr_al (fr_al (Fr.refl _ _) _) _⟩
set_option maxRecDepth 100000 in
set_option maxHeartbeats 4000000 in
theorem fo_5 (w : World) : Calls Try.prog 60 #[.int .i64 5] w fun e w' => e = .returned (.agg #[.bool true, .bool true, .bool true, .bool false, .bool false, .bool false, .bool false, .bool true, .bool true, .bool false, .bool false]) ∧ Fr (fun _ => False) w w' := by
  go_enter Try.func60, Try.ntmps60
  go_wp2
  exact bodyPost_ret (v := .agg #[.bool true, .bool true, .bool true, .bool false, .bool false, .bool false, .bool false, .bool true, .bool true, .bool false, .bool false]) (by simp [results, Try.results60, go_sem]) rfl ⟨rfl, fr_al (fr_al (Fr.refl _ _) _) _⟩
set_option maxRecDepth 100000 in
set_option maxHeartbeats 4000000 in
theorem fo_6 (w : World) : Calls Try.prog 60 #[.int .i64 6] w fun e w' => e = .returned (.agg #[.bool true, .bool false, .bool true, .bool true, .bool false, .bool false, .bool false, .bool true, .bool true, .bool false, .bool true]) ∧ Fr (fun _ => False) w w' := by
  go_enter Try.func60, Try.ntmps60
  go_wp2
  exact bodyPost_ret (v := .agg #[.bool true, .bool false, .bool true, .bool true, .bool false, .bool false, .bool false, .bool true, .bool true, .bool false, .bool true]) (by simp [results, Try.results60, go_sem]) rfl ⟨rfl, fr_al (fr_al (Fr.refl _ _) _) _⟩
set_option maxRecDepth 100000 in
set_option maxHeartbeats 4000000 in
theorem fo_7 (w : World) : Calls Try.prog 60 #[.int .i64 7] w fun e w' => e = .returned (.agg #[.bool true, .bool true, .bool false, .bool false, .bool false, .bool false, .bool true, .bool true, .bool false, .bool false, .bool false]) ∧ Fr (fun _ => False) w w' := by
  go_enter Try.func60, Try.ntmps60
  go_wp2
  exact bodyPost_ret (v := .agg #[.bool true, .bool true, .bool false, .bool false, .bool false, .bool false, .bool true, .bool true, .bool false, .bool false, .bool false]) (by simp [results, Try.results60, go_sem]) rfl ⟨rfl, fr_al (fr_al (Fr.refl _ _) _) _⟩
set_option maxRecDepth 100000 in
set_option maxHeartbeats 4000000 in
theorem fo_8 (w : World) : Calls Try.prog 60 #[.int .i64 8] w fun e w' => e = .returned (.agg #[.bool true, .bool true, .bool false, .bool false, .bool false, .bool false, .bool true, .bool true, .bool false, .bool false, .bool false]) ∧ Fr (fun _ => False) w w' := by
  go_enter Try.func60, Try.ntmps60
  go_wp2
  exact bodyPost_ret (v := .agg #[.bool true, .bool true, .bool false, .bool false, .bool false, .bool false, .bool true, .bool true, .bool false, .bool false, .bool false]) (by simp [results, Try.results60, go_sem]) rfl ⟨rfl, fr_al (fr_al (Fr.refl _ _) _) _⟩
set_option maxRecDepth 100000 in
set_option maxHeartbeats 4000000 in
theorem fo_9 (w : World) : Calls Try.prog 60 #[.int .i64 9] w fun e w' => e = .returned (.agg #[.bool true, .bool true, .bool false, .bool false, .bool true, .bool false, .bool true, .bool false, .bool false, .bool false, .bool false]) ∧ Fr (fun _ => False) w w' := by
  go_enter Try.func60, Try.ntmps60
  go_wp2
  exact bodyPost_ret (v := .agg #[.bool true, .bool true, .bool false, .bool false, .bool true, .bool false, .bool true, .bool false, .bool false, .bool false, .bool false]) (by simp [results, Try.results60, go_sem]) rfl ⟨rfl, fr_al (fr_al (Fr.refl _ _) _) _⟩
set_option maxRecDepth 100000 in
set_option maxHeartbeats 4000000 in
theorem fo_10 (w : World) : Calls Try.prog 60 #[.int .i64 10] w fun e w' => e = .returned (.agg #[.bool true, .bool false, .bool true, .bool false, .bool false, .bool false, .bool false, .bool false, .bool false, .bool false, .bool false]) ∧ Fr (fun _ => False) w w' := by
  go_enter Try.func60, Try.ntmps60
  go_wp2
  exact bodyPost_ret (v := .agg #[.bool true, .bool false, .bool true, .bool false, .bool false, .bool false, .bool false, .bool false, .bool false, .bool false, .bool false]) (by simp [results, Try.results60, go_sem]) rfl ⟨rfl, fr_al (fr_al (Fr.refl _ _) _) _⟩
set_option maxRecDepth 100000 in
set_option maxHeartbeats 4000000 in
theorem fo_11 (w : World) : Calls Try.prog 60 #[.int .i64 11] w fun e w' => e = .returned (.agg #[.bool true, .bool true, .bool false, .bool false, .bool false, .bool false, .bool false, .bool false, .bool false, .bool false, .bool false]) ∧ Fr (fun _ => False) w w' := by
  go_enter Try.func60, Try.ntmps60
  go_wp2
  exact bodyPost_ret (v := .agg #[.bool true, .bool true, .bool false, .bool false, .bool false, .bool false, .bool false, .bool false, .bool false, .bool false, .bool false]) (by simp [results, Try.results60, go_sem]) rfl ⟨rfl, fr_al (fr_al (Fr.refl _ _) _) _⟩
set_option maxRecDepth 100000 in
set_option maxHeartbeats 4000000 in
theorem fo_12 (w : World) : Calls Try.prog 60 #[.int .i64 12] w fun e w' => e = .returned (.agg #[.bool true, .bool false, .bool false, .bool false, .bool false, .bool false, .bool false, .bool false, .bool false, .bool false, .bool false]) ∧ Fr (fun _ => False) w w' := by
  go_enter Try.func60, Try.ntmps60
  go_wp2
  exact bodyPost_ret (v := .agg #[.bool true, .bool false, .bool false, .bool false, .bool false, .bool false, .bool false, .bool false, .bool false, .bool false, .bool false]) (by simp [results, Try.results60, go_sem]) rfl ⟨rfl, fr_al (fr_al (Fr.refl _ _) _) _⟩
set_option maxRecDepth 100000 in
set_option maxHeartbeats 8000000 in
theorem fo_no (op : Int) (h : op < 1 ∨ 12 < op) (w : World) : Calls Try.prog 60 #[.int .i64 op] w fun e w' => e = .returned (.agg #[.bool false, .bool false, .bool false, .bool false, .bool false, .bool false, .bool false, .bool false, .bool false, .bool false, .bool false]) ∧ Fr (fun _ => False) w w' := by
  have e1 : (op == 1) = false := by simp; omega
  have e2 : (op == 2) = false := by simp; omega
  have e3 : (op == 3) = false := by simp; omega
  have e4 : (op == 4) = false := by simp; omega
  have e5 : (op == 5) = false := by simp; omega
  have e6 : (op == 6) = false := by simp; omega
  have e7 : (op == 7) = false := by simp; omega
  have e8 : (op == 8) = false := by simp; omega
  have e9 : (op == 9) = false := by simp; omega
  have e10 : (op == 10) = false := by simp; omega
  have e11 : (op == 11) = false := by simp; omega
  have e12 : (op == 12) = false := by simp; omega
  clear h
  go_enter Try.func60, Try.ntmps60
  go_wp2
  exact bodyPost_ret (v := .agg #[.bool false, .bool false, .bool false, .bool false, .bool false, .bool false, .bool false, .bool false, .bool false, .bool false, .bool false]) (by simp [results, Try.results60, go_sem]) rfl ⟨rfl, fr_al (fr_al (Fr.refl _ _) _) _⟩
/-- The first five of an operation's fields. -/
theorem fo_any (op : Int) (w : World) : Calls Try.prog 60 #[.int .i64 op] w fun e w' => (∃ y0 y5 y6 y7 y8 y9 y10, e = .returned (.agg #[y0, .bool (hasD op), .bool (hasA op), .bool (hasB op), .bool (hasG op), y5, y6, y7, y8, y9, y10])) ∧ Fr (fun _ => False) w w' := by
  rcases op_cases op with rfl | rfl | rfl | rfl | rfl | rfl | rfl | rfl | rfl | rfl | rfl | rfl | h
  · exact (fo_1 w).mono fun e w' h => ⟨⟨_, _, _, _, _, _, _, h.1⟩, h.2⟩
  · exact (fo_2 w).mono fun e w' h => ⟨⟨_, _, _, _, _, _, _, h.1⟩, h.2⟩
  · exact (fo_3 w).mono fun e w' h => ⟨⟨_, _, _, _, _, _, _, h.1⟩, h.2⟩
  · exact (fo_4 w).mono fun e w' h => ⟨⟨_, _, _, _, _, _, _, h.1⟩, h.2⟩
  · exact (fo_5 w).mono fun e w' h => ⟨⟨_, _, _, _, _, _, _, h.1⟩, h.2⟩
  · exact (fo_6 w).mono fun e w' h => ⟨⟨_, _, _, _, _, _, _, h.1⟩, h.2⟩
  · exact (fo_7 w).mono fun e w' h => ⟨⟨_, _, _, _, _, _, _, h.1⟩, h.2⟩
  · exact (fo_8 w).mono fun e w' h => ⟨⟨_, _, _, _, _, _, _, h.1⟩, h.2⟩
  · exact (fo_9 w).mono fun e w' h => ⟨⟨_, _, _, _, _, _, _, h.1⟩, h.2⟩
  · exact (fo_10 w).mono fun e w' h => ⟨⟨_, _, _, _, _, _, _, h.1⟩, h.2⟩
  · exact (fo_11 w).mono fun e w' h => ⟨⟨_, _, _, _, _, _, _, h.1⟩, h.2⟩
  · exact (fo_12 w).mono fun e w' h => ⟨⟨_, _, _, _, _, _, _, h.1⟩, h.2⟩
  · obtain ⟨a, b, c, d, _⟩ := no_op h
    rw [a, b, c, d]
    exact (fo_no op h w).mono fun e w' hh => ⟨⟨_, _, _, _, _, _, _, hh.1⟩, hh.2⟩
end Go.Proofs.Ythdkmjbeemfbbaa
