/-
  Modules (layer 13): a block's end, in a procedure's view.
-/
import Derived.Test.YthdkmjbeemfbbaaQChkB
namespace Go.Proofs.Ythdkmjbeemfbbaa
open Go.RowKit
set_option linter.unusedVariables false
set_option linter.unusedSimpArgs false
def EndQ (vd : Bool) (R : Int) (nb : Nat) (en a t el : Int) : Prop :=
  (en = 1 ∧ a = -1 ∧ (0 ≤ t ∧ t < nb) ∧ el = 0) ∨ (en = 2 ∧ RgP R a ∧ (0 ≤ t ∧ t < nb) ∧ 0 ≤ el ∧ el < nb) ∨ (en = 3 ∧ (vd = true → a = -1) ∧ (vd = false → RgP R a) ∧ t = 0 ∧ el = 0)
theorem endQ_1 (vd : Bool) (R : Int) (nb : Nat) (a t el : Int) : EndQ vd R nb 1 a t el ↔ a = -1 ∧ (0 ≤ t ∧ t < nb) ∧ el = 0 := by unfold EndQ; simp
theorem endQ_2 (vd : Bool) (R : Int) (nb : Nat) (a t el : Int) : EndQ vd R nb 2 a t el ↔ RgP R a ∧ (0 ≤ t ∧ t < nb) ∧ (0 ≤ el ∧ el < nb) := by unfold EndQ; simp
theorem endQ_3v (R : Int) (nb : Nat) (a t el : Int) : EndQ true R nb 3 a t el ↔ a = -1 ∧ t = 0 ∧ el = 0 := by unfold EndQ; simp
theorem endQ_3n (R : Int) (nb : Nat) (a t el : Int) : EndQ false R nb 3 a t el ↔ RgP R a ∧ t = 0 ∧ el = 0 := by unfold EndQ; simp
theorem endQ_no (vd : Bool) (R : Int) (nb : Nat) (en a t el : Int) (h1 : en ≠ 1) (h2 : en ≠ 2) (h3 : en ≠ 3) : ¬EndQ vd R nb en a t el := by unfold EndQ; simp [h1, h2, h3]
theorem and3 {b1 b2 b3 : Bool} {P Q R : Prop} (h1 : b1 = true ↔ P) (h2 : b2 = true ↔ Q) (h3 : b3 = true ↔ R) : (b1 && b2 && b3) = true ↔ P ∧ Q ∧ R := by
  rw [Bool.and_eq_true, Bool.and_eq_true, h1, h2, h3, and_assoc]
theorem eq0 {x : Int} : ((x == 0) = true ↔ x = 0) := by simp
set_option maxRecDepth 100000 in
set_option maxHeartbeats 4000000 in
theorem is_block (g d p m nm vd pr R ob : Value) (ab : Option Addr) (nB bc : Nat) (t : Int) (b : Bool) (h : b = true ↔ 0 ≤ t ∧ t < nB) (w : World) : Calls Try.prog 58 #[.agg #[g, d, p, m, nm, vd, pr, R, ob, .slice ab nB bc], .int .i64 t] w fun e w' => e = .returned (.bool b) ∧ Fr (fun _ => False) w w' := by
  have KI := Lib.hid (fun W => index_dec t nB b h W)
  clear h
  go_enter Try.func58, Try.ntmps58
  go_wp2_with (go_at_call 23; (with_reducible refine (KI.out _).mono ?_); rintro e w2 ⟨rfl, hf⟩; have HF := Lib.hid hf; clear hf)
  go_ret
  exact ⟨rfl, (fr_al (Fr.refl _ _) _).trans HF.out⟩
set_option maxRecDepth 100000 in
set_option maxHeartbeats 4000000 in
theorem end_1 (g d p m nm pr ob ins : Value) (vd : Bool) (R : Int) (ab : Option Addr) (nB bc : Nat) (a t el : Int) (w : World) : Calls Try.prog 43 #[.agg #[g, d, p, m, nm, .bool vd, pr, .int .i64 R, ob, .slice ab nB bc], .agg #[ins, .int .i64 1, .int .i64 a, .int .i64 t, .int .i64 el]] w fun e w' => IsR (EndQ vd R nB 1 a t el) e ∧ Fr (fun _ => False) w w' := by
  obtain ⟨bA, hA⟩ : ∃ b : Bool, (b = true ↔ (if false = true then RgP R a else a = -1)) := ⟨if false = true then decide (0 ≤ a) && decide (a < R) else decide (a = -1), by simp [RgP]⟩
  obtain ⟨bT, hT⟩ : ∃ b : Bool, (b = true ↔ 0 ≤ t ∧ t < nB) := ⟨decide (0 ≤ t ∧ t < nB), by simp⟩
  obtain ⟨bE, hE⟩ : ∃ b : Bool, (b = true ↔ el = 0) := ⟨el == 0, eq0⟩
  have eE : (el == 0) = bE := bool_of eq0 hE
  have KA := Lib.hid (fun W => reg_dec g d p m nm (.bool vd) pr ob (.slice ab nB bc) R a false bA hA W)
  have KT := Lib.hid (fun W => is_block g d p m nm (.bool vd) pr (.int .i64 R) ob ab nB bc t bT hT W)
  have HQ : Hid ((bA && bT && bE) = true ↔ EndQ vd R nB 1 a t el) := Lib.hid (by rw [endQ_1]; exact and3 (by simpa using hA) hT hE)
  clear hA hT hE
  have G : Hid (Fr (fun _ => False) ((w.alloc (.cells #[g, d, p, m, nm, .bool vd, pr, .int .i64 R, ob, .slice ab nB bc] 79)).alloc (.cells #[ins, .int .i64 1, .int .i64 a, .int .i64 t, .int .i64 el] 44)) ((w.alloc (.cells #[g, d, p, m, nm, .bool vd, pr, .int .i64 R, ob, .slice ab nB bc] 79)).alloc (.cells #[ins, .int .i64 1, .int .i64 a, .int .i64 t, .int .i64 el] 44))) := Lib.hid (Fr.refl _ _)
  have G0 : Hid (Fr (fun _ => False) w ((w.alloc (.cells #[g, d, p, m, nm, .bool vd, pr, .int .i64 R, ob, .slice ab nB bc] 79)).alloc (.cells #[ins, .int .i64 1, .int .i64 a, .int .i64 t, .int .i64 el] 44))) := Lib.hid (fr_al (fr_al (Fr.refl _ _) _) _)
  have C1 : Hid (∀ (j : Nat) (y : Value), (#[g, d, p, m, nm, .bool vd, pr, .int .i64 R, ob, .slice ab nB bc] : Array Value)[j]? = some y → ((w.alloc (.cells #[g, d, p, m, nm, .bool vd, pr, .int .i64 R, ob, .slice ab nB bc] 79)).alloc (.cells #[ins, .int .i64 1, .int .i64 a, .int .i64 t, .int .i64 el] 44)).cell? ⟨w.heap.size, j, none⟩ = some y) := Lib.hid (fun j y h => two1 w _ _ _ _ j y h)
  have C2 : Hid (∀ (j : Nat) (y : Value), (#[ins, .int .i64 1, .int .i64 a, .int .i64 t, .int .i64 el] : Array Value)[j]? = some y → ((w.alloc (.cells #[g, d, p, m, nm, .bool vd, pr, .int .i64 R, ob, .slice ab nB bc] 79)).alloc (.cells #[ins, .int .i64 1, .int .i64 a, .int .i64 t, .int .i64 el] 44)).cell? ⟨w.heap.size + 1, j, none⟩ = some y) := Lib.hid (fun j y h => two2 w _ _ _ _ j y h)
  cases bA
  · go_enter Try.func43, Try.ntmps43
    go_wp2_with (first | (go_at_call 57; (with_reducible refine (KA.out _).mono ?_); rintro e w2 ⟨rfl, hf⟩; have c1 := (G.out.trans hf).cell (C2.out 1 _ rfl) id; have c2 := (G.out.trans hf).cell (C2.out 2 _ rfl) id; have c3 := (G.out.trans hf).cell (C2.out 3 _ rfl) id; have c4 := (G.out.trans hf).cell (C2.out 4 _ rfl) id; have v0 := (G.out.trans hf).cell (C1.out 0 _ rfl) id; have v1 := (G.out.trans hf).cell (C1.out 1 _ rfl) id; have v2 := (G.out.trans hf).cell (C1.out 2 _ rfl) id; have v3 := (G.out.trans hf).cell (C1.out 3 _ rfl) id; have v4 := (G.out.trans hf).cell (C1.out 4 _ rfl) id; have v5 := (G.out.trans hf).cell (C1.out 5 _ rfl) id; have v6 := (G.out.trans hf).cell (C1.out 6 _ rfl) id; have v7 := (G.out.trans hf).cell (C1.out 7 _ rfl) id; have v8 := (G.out.trans hf).cell (C1.out 8 _ rfl) id; have v9 := (G.out.trans hf).cell (C1.out 9 _ rfl) id; have G := Lib.hid (G.out.trans hf); clear hf) | (go_at_call 58; (with_reducible first | refine (KT.out _).mono ?_); rintro e w2 ⟨rfl, hf⟩; have c1 := (G.out.trans hf).cell (C2.out 1 _ rfl) id; have c2 := (G.out.trans hf).cell (C2.out 2 _ rfl) id; have c3 := (G.out.trans hf).cell (C2.out 3 _ rfl) id; have c4 := (G.out.trans hf).cell (C2.out 4 _ rfl) id; have v0 := (G.out.trans hf).cell (C1.out 0 _ rfl) id; have v1 := (G.out.trans hf).cell (C1.out 1 _ rfl) id; have v2 := (G.out.trans hf).cell (C1.out 2 _ rfl) id; have v3 := (G.out.trans hf).cell (C1.out 3 _ rfl) id; have v4 := (G.out.trans hf).cell (C1.out 4 _ rfl) id; have v5 := (G.out.trans hf).cell (C1.out 5 _ rfl) id; have v6 := (G.out.trans hf).cell (C1.out 6 _ rfl) id; have v7 := (G.out.trans hf).cell (C1.out 7 _ rfl) id; have v8 := (G.out.trans hf).cell (C1.out 8 _ rfl) id; have v9 := (G.out.trans hf).cell (C1.out 9 _ rfl) id; have G := Lib.hid (G.out.trans hf); clear hf))
    go_ret
    exact ⟨⟨_, rfl, HQ.out⟩, G0.out.trans G.out⟩
  · cases bT
    · go_enter Try.func43, Try.ntmps43
      go_wp2_with (first | (go_at_call 57; (with_reducible refine (KA.out _).mono ?_); rintro e w2 ⟨rfl, hf⟩; have c1 := (G.out.trans hf).cell (C2.out 1 _ rfl) id; have c2 := (G.out.trans hf).cell (C2.out 2 _ rfl) id; have c3 := (G.out.trans hf).cell (C2.out 3 _ rfl) id; have c4 := (G.out.trans hf).cell (C2.out 4 _ rfl) id; have v0 := (G.out.trans hf).cell (C1.out 0 _ rfl) id; have v1 := (G.out.trans hf).cell (C1.out 1 _ rfl) id; have v2 := (G.out.trans hf).cell (C1.out 2 _ rfl) id; have v3 := (G.out.trans hf).cell (C1.out 3 _ rfl) id; have v4 := (G.out.trans hf).cell (C1.out 4 _ rfl) id; have v5 := (G.out.trans hf).cell (C1.out 5 _ rfl) id; have v6 := (G.out.trans hf).cell (C1.out 6 _ rfl) id; have v7 := (G.out.trans hf).cell (C1.out 7 _ rfl) id; have v8 := (G.out.trans hf).cell (C1.out 8 _ rfl) id; have v9 := (G.out.trans hf).cell (C1.out 9 _ rfl) id; have G := Lib.hid (G.out.trans hf); clear hf) | (go_at_call 58; (with_reducible first | refine (KT.out _).mono ?_); rintro e w2 ⟨rfl, hf⟩; have c1 := (G.out.trans hf).cell (C2.out 1 _ rfl) id; have c2 := (G.out.trans hf).cell (C2.out 2 _ rfl) id; have c3 := (G.out.trans hf).cell (C2.out 3 _ rfl) id; have c4 := (G.out.trans hf).cell (C2.out 4 _ rfl) id; have v0 := (G.out.trans hf).cell (C1.out 0 _ rfl) id; have v1 := (G.out.trans hf).cell (C1.out 1 _ rfl) id; have v2 := (G.out.trans hf).cell (C1.out 2 _ rfl) id; have v3 := (G.out.trans hf).cell (C1.out 3 _ rfl) id; have v4 := (G.out.trans hf).cell (C1.out 4 _ rfl) id; have v5 := (G.out.trans hf).cell (C1.out 5 _ rfl) id; have v6 := (G.out.trans hf).cell (C1.out 6 _ rfl) id; have v7 := (G.out.trans hf).cell (C1.out 7 _ rfl) id; have v8 := (G.out.trans hf).cell (C1.out 8 _ rfl) id; have v9 := (G.out.trans hf).cell (C1.out 9 _ rfl) id; have G := Lib.hid (G.out.trans hf); clear hf))
      go_ret
      exact ⟨⟨_, rfl, HQ.out⟩, G0.out.trans G.out⟩
    · go_enter Try.func43, Try.ntmps43
      go_wp2_with (first | (go_at_call 57; (with_reducible refine (KA.out _).mono ?_); rintro e w2 ⟨rfl, hf⟩; have c1 := (G.out.trans hf).cell (C2.out 1 _ rfl) id; have c2 := (G.out.trans hf).cell (C2.out 2 _ rfl) id; have c3 := (G.out.trans hf).cell (C2.out 3 _ rfl) id; have c4 := (G.out.trans hf).cell (C2.out 4 _ rfl) id; have v0 := (G.out.trans hf).cell (C1.out 0 _ rfl) id; have v1 := (G.out.trans hf).cell (C1.out 1 _ rfl) id; have v2 := (G.out.trans hf).cell (C1.out 2 _ rfl) id; have v3 := (G.out.trans hf).cell (C1.out 3 _ rfl) id; have v4 := (G.out.trans hf).cell (C1.out 4 _ rfl) id; have v5 := (G.out.trans hf).cell (C1.out 5 _ rfl) id; have v6 := (G.out.trans hf).cell (C1.out 6 _ rfl) id; have v7 := (G.out.trans hf).cell (C1.out 7 _ rfl) id; have v8 := (G.out.trans hf).cell (C1.out 8 _ rfl) id; have v9 := (G.out.trans hf).cell (C1.out 9 _ rfl) id; have G := Lib.hid (G.out.trans hf); clear hf) | (go_at_call 58; (with_reducible first | refine (KT.out _).mono ?_); rintro e w2 ⟨rfl, hf⟩; have c1 := (G.out.trans hf).cell (C2.out 1 _ rfl) id; have c2 := (G.out.trans hf).cell (C2.out 2 _ rfl) id; have c3 := (G.out.trans hf).cell (C2.out 3 _ rfl) id; have c4 := (G.out.trans hf).cell (C2.out 4 _ rfl) id; have v0 := (G.out.trans hf).cell (C1.out 0 _ rfl) id; have v1 := (G.out.trans hf).cell (C1.out 1 _ rfl) id; have v2 := (G.out.trans hf).cell (C1.out 2 _ rfl) id; have v3 := (G.out.trans hf).cell (C1.out 3 _ rfl) id; have v4 := (G.out.trans hf).cell (C1.out 4 _ rfl) id; have v5 := (G.out.trans hf).cell (C1.out 5 _ rfl) id; have v6 := (G.out.trans hf).cell (C1.out 6 _ rfl) id; have v7 := (G.out.trans hf).cell (C1.out 7 _ rfl) id; have v8 := (G.out.trans hf).cell (C1.out 8 _ rfl) id; have v9 := (G.out.trans hf).cell (C1.out 9 _ rfl) id; have G := Lib.hid (G.out.trans hf); clear hf))
      go_ret
      exact ⟨⟨_, rfl, HQ.out⟩, G0.out.trans G.out⟩
set_option maxRecDepth 100000 in
set_option maxHeartbeats 4000000 in
theorem end_2 (g d p m nm pr ob ins : Value) (vd : Bool) (R : Int) (ab : Option Addr) (nB bc : Nat) (a t el : Int) (w : World) : Calls Try.prog 43 #[.agg #[g, d, p, m, nm, .bool vd, pr, .int .i64 R, ob, .slice ab nB bc], .agg #[ins, .int .i64 2, .int .i64 a, .int .i64 t, .int .i64 el]] w fun e w' => IsR (EndQ vd R nB 2 a t el) e ∧ Fr (fun _ => False) w w' := by
  obtain ⟨bA, hA⟩ : ∃ b : Bool, (b = true ↔ (if true = true then RgP R a else a = -1)) := ⟨if true = true then decide (0 ≤ a) && decide (a < R) else decide (a = -1), by simp [RgP]⟩
  obtain ⟨bT, hT⟩ : ∃ b : Bool, (b = true ↔ 0 ≤ t ∧ t < nB) := ⟨decide (0 ≤ t ∧ t < nB), by simp⟩
  obtain ⟨bE, hE⟩ : ∃ b : Bool, (b = true ↔ 0 ≤ el ∧ el < nB) := ⟨decide (0 ≤ el ∧ el < nB), by simp⟩
  have KA := Lib.hid (fun W => reg_dec g d p m nm (.bool vd) pr ob (.slice ab nB bc) R a true bA hA W)
  have KT := Lib.hid (fun W => is_block g d p m nm (.bool vd) pr (.int .i64 R) ob ab nB bc t bT hT W)
  have KE := Lib.hid (fun W => is_block g d p m nm (.bool vd) pr (.int .i64 R) ob ab nB bc el bE hE W)
  have HQ : Hid ((bA && bT && bE) = true ↔ EndQ vd R nB 2 a t el) := Lib.hid (by rw [endQ_2]; exact and3 (by simpa using hA) hT hE)
  clear hA hT hE
  have G : Hid (Fr (fun _ => False) ((w.alloc (.cells #[g, d, p, m, nm, .bool vd, pr, .int .i64 R, ob, .slice ab nB bc] 79)).alloc (.cells #[ins, .int .i64 2, .int .i64 a, .int .i64 t, .int .i64 el] 44)) ((w.alloc (.cells #[g, d, p, m, nm, .bool vd, pr, .int .i64 R, ob, .slice ab nB bc] 79)).alloc (.cells #[ins, .int .i64 2, .int .i64 a, .int .i64 t, .int .i64 el] 44))) := Lib.hid (Fr.refl _ _)
  have G0 : Hid (Fr (fun _ => False) w ((w.alloc (.cells #[g, d, p, m, nm, .bool vd, pr, .int .i64 R, ob, .slice ab nB bc] 79)).alloc (.cells #[ins, .int .i64 2, .int .i64 a, .int .i64 t, .int .i64 el] 44))) := Lib.hid (fr_al (fr_al (Fr.refl _ _) _) _)
  have C1 : Hid (∀ (j : Nat) (y : Value), (#[g, d, p, m, nm, .bool vd, pr, .int .i64 R, ob, .slice ab nB bc] : Array Value)[j]? = some y → ((w.alloc (.cells #[g, d, p, m, nm, .bool vd, pr, .int .i64 R, ob, .slice ab nB bc] 79)).alloc (.cells #[ins, .int .i64 2, .int .i64 a, .int .i64 t, .int .i64 el] 44)).cell? ⟨w.heap.size, j, none⟩ = some y) := Lib.hid (fun j y h => two1 w _ _ _ _ j y h)
  have C2 : Hid (∀ (j : Nat) (y : Value), (#[ins, .int .i64 2, .int .i64 a, .int .i64 t, .int .i64 el] : Array Value)[j]? = some y → ((w.alloc (.cells #[g, d, p, m, nm, .bool vd, pr, .int .i64 R, ob, .slice ab nB bc] 79)).alloc (.cells #[ins, .int .i64 2, .int .i64 a, .int .i64 t, .int .i64 el] 44)).cell? ⟨w.heap.size + 1, j, none⟩ = some y) := Lib.hid (fun j y h => two2 w _ _ _ _ j y h)
  cases bA
  · go_enter Try.func43, Try.ntmps43
    go_wp2_with (first | (go_at_call 57; (with_reducible refine (KA.out _).mono ?_); rintro e w2 ⟨rfl, hf⟩; have c1 := (G.out.trans hf).cell (C2.out 1 _ rfl) id; have c2 := (G.out.trans hf).cell (C2.out 2 _ rfl) id; have c3 := (G.out.trans hf).cell (C2.out 3 _ rfl) id; have c4 := (G.out.trans hf).cell (C2.out 4 _ rfl) id; have v0 := (G.out.trans hf).cell (C1.out 0 _ rfl) id; have v1 := (G.out.trans hf).cell (C1.out 1 _ rfl) id; have v2 := (G.out.trans hf).cell (C1.out 2 _ rfl) id; have v3 := (G.out.trans hf).cell (C1.out 3 _ rfl) id; have v4 := (G.out.trans hf).cell (C1.out 4 _ rfl) id; have v5 := (G.out.trans hf).cell (C1.out 5 _ rfl) id; have v6 := (G.out.trans hf).cell (C1.out 6 _ rfl) id; have v7 := (G.out.trans hf).cell (C1.out 7 _ rfl) id; have v8 := (G.out.trans hf).cell (C1.out 8 _ rfl) id; have v9 := (G.out.trans hf).cell (C1.out 9 _ rfl) id; have G := Lib.hid (G.out.trans hf); clear hf) | (go_at_call 58; (with_reducible first | refine (KT.out _).mono ?_ | refine (KE.out _).mono ?_); rintro e w2 ⟨rfl, hf⟩; have c1 := (G.out.trans hf).cell (C2.out 1 _ rfl) id; have c2 := (G.out.trans hf).cell (C2.out 2 _ rfl) id; have c3 := (G.out.trans hf).cell (C2.out 3 _ rfl) id; have c4 := (G.out.trans hf).cell (C2.out 4 _ rfl) id; have v0 := (G.out.trans hf).cell (C1.out 0 _ rfl) id; have v1 := (G.out.trans hf).cell (C1.out 1 _ rfl) id; have v2 := (G.out.trans hf).cell (C1.out 2 _ rfl) id; have v3 := (G.out.trans hf).cell (C1.out 3 _ rfl) id; have v4 := (G.out.trans hf).cell (C1.out 4 _ rfl) id; have v5 := (G.out.trans hf).cell (C1.out 5 _ rfl) id; have v6 := (G.out.trans hf).cell (C1.out 6 _ rfl) id; have v7 := (G.out.trans hf).cell (C1.out 7 _ rfl) id; have v8 := (G.out.trans hf).cell (C1.out 8 _ rfl) id; have v9 := (G.out.trans hf).cell (C1.out 9 _ rfl) id; have G := Lib.hid (G.out.trans hf); clear hf))
    go_ret
    exact ⟨⟨_, rfl, HQ.out⟩, G0.out.trans G.out⟩
  · cases bT
    · go_enter Try.func43, Try.ntmps43
      go_wp2_with (first | (go_at_call 57; (with_reducible refine (KA.out _).mono ?_); rintro e w2 ⟨rfl, hf⟩; have c1 := (G.out.trans hf).cell (C2.out 1 _ rfl) id; have c2 := (G.out.trans hf).cell (C2.out 2 _ rfl) id; have c3 := (G.out.trans hf).cell (C2.out 3 _ rfl) id; have c4 := (G.out.trans hf).cell (C2.out 4 _ rfl) id; have v0 := (G.out.trans hf).cell (C1.out 0 _ rfl) id; have v1 := (G.out.trans hf).cell (C1.out 1 _ rfl) id; have v2 := (G.out.trans hf).cell (C1.out 2 _ rfl) id; have v3 := (G.out.trans hf).cell (C1.out 3 _ rfl) id; have v4 := (G.out.trans hf).cell (C1.out 4 _ rfl) id; have v5 := (G.out.trans hf).cell (C1.out 5 _ rfl) id; have v6 := (G.out.trans hf).cell (C1.out 6 _ rfl) id; have v7 := (G.out.trans hf).cell (C1.out 7 _ rfl) id; have v8 := (G.out.trans hf).cell (C1.out 8 _ rfl) id; have v9 := (G.out.trans hf).cell (C1.out 9 _ rfl) id; have G := Lib.hid (G.out.trans hf); clear hf) | (go_at_call 58; (with_reducible first | refine (KT.out _).mono ?_ | refine (KE.out _).mono ?_); rintro e w2 ⟨rfl, hf⟩; have c1 := (G.out.trans hf).cell (C2.out 1 _ rfl) id; have c2 := (G.out.trans hf).cell (C2.out 2 _ rfl) id; have c3 := (G.out.trans hf).cell (C2.out 3 _ rfl) id; have c4 := (G.out.trans hf).cell (C2.out 4 _ rfl) id; have v0 := (G.out.trans hf).cell (C1.out 0 _ rfl) id; have v1 := (G.out.trans hf).cell (C1.out 1 _ rfl) id; have v2 := (G.out.trans hf).cell (C1.out 2 _ rfl) id; have v3 := (G.out.trans hf).cell (C1.out 3 _ rfl) id; have v4 := (G.out.trans hf).cell (C1.out 4 _ rfl) id; have v5 := (G.out.trans hf).cell (C1.out 5 _ rfl) id; have v6 := (G.out.trans hf).cell (C1.out 6 _ rfl) id; have v7 := (G.out.trans hf).cell (C1.out 7 _ rfl) id; have v8 := (G.out.trans hf).cell (C1.out 8 _ rfl) id; have v9 := (G.out.trans hf).cell (C1.out 9 _ rfl) id; have G := Lib.hid (G.out.trans hf); clear hf))
      go_ret
      exact ⟨⟨_, rfl, HQ.out⟩, G0.out.trans G.out⟩
    · go_enter Try.func43, Try.ntmps43
      go_wp2_with (first | (go_at_call 57; (with_reducible refine (KA.out _).mono ?_); rintro e w2 ⟨rfl, hf⟩; have c1 := (G.out.trans hf).cell (C2.out 1 _ rfl) id; have c2 := (G.out.trans hf).cell (C2.out 2 _ rfl) id; have c3 := (G.out.trans hf).cell (C2.out 3 _ rfl) id; have c4 := (G.out.trans hf).cell (C2.out 4 _ rfl) id; have v0 := (G.out.trans hf).cell (C1.out 0 _ rfl) id; have v1 := (G.out.trans hf).cell (C1.out 1 _ rfl) id; have v2 := (G.out.trans hf).cell (C1.out 2 _ rfl) id; have v3 := (G.out.trans hf).cell (C1.out 3 _ rfl) id; have v4 := (G.out.trans hf).cell (C1.out 4 _ rfl) id; have v5 := (G.out.trans hf).cell (C1.out 5 _ rfl) id; have v6 := (G.out.trans hf).cell (C1.out 6 _ rfl) id; have v7 := (G.out.trans hf).cell (C1.out 7 _ rfl) id; have v8 := (G.out.trans hf).cell (C1.out 8 _ rfl) id; have v9 := (G.out.trans hf).cell (C1.out 9 _ rfl) id; have G := Lib.hid (G.out.trans hf); clear hf) | (go_at_call 58; (with_reducible first | refine (KT.out _).mono ?_ | refine (KE.out _).mono ?_); rintro e w2 ⟨rfl, hf⟩; have c1 := (G.out.trans hf).cell (C2.out 1 _ rfl) id; have c2 := (G.out.trans hf).cell (C2.out 2 _ rfl) id; have c3 := (G.out.trans hf).cell (C2.out 3 _ rfl) id; have c4 := (G.out.trans hf).cell (C2.out 4 _ rfl) id; have v0 := (G.out.trans hf).cell (C1.out 0 _ rfl) id; have v1 := (G.out.trans hf).cell (C1.out 1 _ rfl) id; have v2 := (G.out.trans hf).cell (C1.out 2 _ rfl) id; have v3 := (G.out.trans hf).cell (C1.out 3 _ rfl) id; have v4 := (G.out.trans hf).cell (C1.out 4 _ rfl) id; have v5 := (G.out.trans hf).cell (C1.out 5 _ rfl) id; have v6 := (G.out.trans hf).cell (C1.out 6 _ rfl) id; have v7 := (G.out.trans hf).cell (C1.out 7 _ rfl) id; have v8 := (G.out.trans hf).cell (C1.out 8 _ rfl) id; have v9 := (G.out.trans hf).cell (C1.out 9 _ rfl) id; have G := Lib.hid (G.out.trans hf); clear hf))
      go_ret
      exact ⟨⟨_, rfl, HQ.out⟩, G0.out.trans G.out⟩
set_option maxRecDepth 100000 in
set_option maxHeartbeats 4000000 in
theorem end_3v (g d p m nm pr ob ins : Value) (R : Int) (ab : Option Addr) (nB bc : Nat) (a t el : Int) (w : World) : Calls Try.prog 43 #[.agg #[g, d, p, m, nm, .bool true, pr, .int .i64 R, ob, .slice ab nB bc], .agg #[ins, .int .i64 3, .int .i64 a, .int .i64 t, .int .i64 el]] w fun e w' => IsR (EndQ true R nB 3 a t el) e ∧ Fr (fun _ => False) w w' := by
  obtain ⟨bA, hA⟩ : ∃ b : Bool, (b = true ↔ (if false = true then RgP R a else a = -1)) := ⟨if false = true then decide (0 ≤ a) && decide (a < R) else decide (a = -1), by simp [RgP]⟩
  obtain ⟨bT, hT⟩ : ∃ b : Bool, (b = true ↔ t = 0) := ⟨t == 0, eq0⟩
  have eT : (t == 0) = bT := bool_of eq0 hT
  obtain ⟨bE, hE⟩ : ∃ b : Bool, (b = true ↔ el = 0) := ⟨el == 0, eq0⟩
  have eE : (el == 0) = bE := bool_of eq0 hE
  have KA := Lib.hid (fun W => reg_dec g d p m nm (.bool true) pr ob (.slice ab nB bc) R a false bA hA W)
  have HQ : Hid ((bA && bT && bE) = true ↔ EndQ true R nB 3 a t el) := Lib.hid (by rw [endQ_3v]; exact and3 (by simpa using hA) hT hE)
  clear hA hT hE
  have G : Hid (Fr (fun _ => False) ((w.alloc (.cells #[g, d, p, m, nm, .bool true, pr, .int .i64 R, ob, .slice ab nB bc] 79)).alloc (.cells #[ins, .int .i64 3, .int .i64 a, .int .i64 t, .int .i64 el] 44)) ((w.alloc (.cells #[g, d, p, m, nm, .bool true, pr, .int .i64 R, ob, .slice ab nB bc] 79)).alloc (.cells #[ins, .int .i64 3, .int .i64 a, .int .i64 t, .int .i64 el] 44))) := Lib.hid (Fr.refl _ _)
  have G0 : Hid (Fr (fun _ => False) w ((w.alloc (.cells #[g, d, p, m, nm, .bool true, pr, .int .i64 R, ob, .slice ab nB bc] 79)).alloc (.cells #[ins, .int .i64 3, .int .i64 a, .int .i64 t, .int .i64 el] 44))) := Lib.hid (fr_al (fr_al (Fr.refl _ _) _) _)
  have C1 : Hid (∀ (j : Nat) (y : Value), (#[g, d, p, m, nm, .bool true, pr, .int .i64 R, ob, .slice ab nB bc] : Array Value)[j]? = some y → ((w.alloc (.cells #[g, d, p, m, nm, .bool true, pr, .int .i64 R, ob, .slice ab nB bc] 79)).alloc (.cells #[ins, .int .i64 3, .int .i64 a, .int .i64 t, .int .i64 el] 44)).cell? ⟨w.heap.size, j, none⟩ = some y) := Lib.hid (fun j y h => two1 w _ _ _ _ j y h)
  have C2 : Hid (∀ (j : Nat) (y : Value), (#[ins, .int .i64 3, .int .i64 a, .int .i64 t, .int .i64 el] : Array Value)[j]? = some y → ((w.alloc (.cells #[g, d, p, m, nm, .bool true, pr, .int .i64 R, ob, .slice ab nB bc] 79)).alloc (.cells #[ins, .int .i64 3, .int .i64 a, .int .i64 t, .int .i64 el] 44)).cell? ⟨w.heap.size + 1, j, none⟩ = some y) := Lib.hid (fun j y h => two2 w _ _ _ _ j y h)
  cases bA
  · go_enter Try.func43, Try.ntmps43
    go_wp2_with (go_at_call 57; (with_reducible refine (KA.out _).mono ?_); rintro e w2 ⟨rfl, hf⟩; have c1 := (G.out.trans hf).cell (C2.out 1 _ rfl) id; have c2 := (G.out.trans hf).cell (C2.out 2 _ rfl) id; have c3 := (G.out.trans hf).cell (C2.out 3 _ rfl) id; have c4 := (G.out.trans hf).cell (C2.out 4 _ rfl) id; have v0 := (G.out.trans hf).cell (C1.out 0 _ rfl) id; have v1 := (G.out.trans hf).cell (C1.out 1 _ rfl) id; have v2 := (G.out.trans hf).cell (C1.out 2 _ rfl) id; have v3 := (G.out.trans hf).cell (C1.out 3 _ rfl) id; have v4 := (G.out.trans hf).cell (C1.out 4 _ rfl) id; have v5 := (G.out.trans hf).cell (C1.out 5 _ rfl) id; have v6 := (G.out.trans hf).cell (C1.out 6 _ rfl) id; have v7 := (G.out.trans hf).cell (C1.out 7 _ rfl) id; have v8 := (G.out.trans hf).cell (C1.out 8 _ rfl) id; have v9 := (G.out.trans hf).cell (C1.out 9 _ rfl) id; have G := Lib.hid (G.out.trans hf); clear hf)
    go_ret
    exact ⟨⟨_, rfl, HQ.out⟩, G0.out.trans G.out⟩
  · cases bT
    · go_enter Try.func43, Try.ntmps43
      go_wp2_with (go_at_call 57; (with_reducible refine (KA.out _).mono ?_); rintro e w2 ⟨rfl, hf⟩; have c1 := (G.out.trans hf).cell (C2.out 1 _ rfl) id; have c2 := (G.out.trans hf).cell (C2.out 2 _ rfl) id; have c3 := (G.out.trans hf).cell (C2.out 3 _ rfl) id; have c4 := (G.out.trans hf).cell (C2.out 4 _ rfl) id; have v0 := (G.out.trans hf).cell (C1.out 0 _ rfl) id; have v1 := (G.out.trans hf).cell (C1.out 1 _ rfl) id; have v2 := (G.out.trans hf).cell (C1.out 2 _ rfl) id; have v3 := (G.out.trans hf).cell (C1.out 3 _ rfl) id; have v4 := (G.out.trans hf).cell (C1.out 4 _ rfl) id; have v5 := (G.out.trans hf).cell (C1.out 5 _ rfl) id; have v6 := (G.out.trans hf).cell (C1.out 6 _ rfl) id; have v7 := (G.out.trans hf).cell (C1.out 7 _ rfl) id; have v8 := (G.out.trans hf).cell (C1.out 8 _ rfl) id; have v9 := (G.out.trans hf).cell (C1.out 9 _ rfl) id; have G := Lib.hid (G.out.trans hf); clear hf)
      go_ret
      exact ⟨⟨_, rfl, HQ.out⟩, G0.out.trans G.out⟩
    · go_enter Try.func43, Try.ntmps43
      go_wp2_with (go_at_call 57; (with_reducible refine (KA.out _).mono ?_); rintro e w2 ⟨rfl, hf⟩; have c1 := (G.out.trans hf).cell (C2.out 1 _ rfl) id; have c2 := (G.out.trans hf).cell (C2.out 2 _ rfl) id; have c3 := (G.out.trans hf).cell (C2.out 3 _ rfl) id; have c4 := (G.out.trans hf).cell (C2.out 4 _ rfl) id; have v0 := (G.out.trans hf).cell (C1.out 0 _ rfl) id; have v1 := (G.out.trans hf).cell (C1.out 1 _ rfl) id; have v2 := (G.out.trans hf).cell (C1.out 2 _ rfl) id; have v3 := (G.out.trans hf).cell (C1.out 3 _ rfl) id; have v4 := (G.out.trans hf).cell (C1.out 4 _ rfl) id; have v5 := (G.out.trans hf).cell (C1.out 5 _ rfl) id; have v6 := (G.out.trans hf).cell (C1.out 6 _ rfl) id; have v7 := (G.out.trans hf).cell (C1.out 7 _ rfl) id; have v8 := (G.out.trans hf).cell (C1.out 8 _ rfl) id; have v9 := (G.out.trans hf).cell (C1.out 9 _ rfl) id; have G := Lib.hid (G.out.trans hf); clear hf)
      go_ret
      exact ⟨⟨_, rfl, HQ.out⟩, G0.out.trans G.out⟩
set_option maxRecDepth 100000 in
set_option maxHeartbeats 4000000 in
theorem end_3n (g d p m nm pr ob ins : Value) (R : Int) (ab : Option Addr) (nB bc : Nat) (a t el : Int) (w : World) : Calls Try.prog 43 #[.agg #[g, d, p, m, nm, .bool false, pr, .int .i64 R, ob, .slice ab nB bc], .agg #[ins, .int .i64 3, .int .i64 a, .int .i64 t, .int .i64 el]] w fun e w' => IsR (EndQ false R nB 3 a t el) e ∧ Fr (fun _ => False) w w' := by
  obtain ⟨bA, hA⟩ : ∃ b : Bool, (b = true ↔ (if true = true then RgP R a else a = -1)) := ⟨if true = true then decide (0 ≤ a) && decide (a < R) else decide (a = -1), by simp [RgP]⟩
  obtain ⟨bT, hT⟩ : ∃ b : Bool, (b = true ↔ t = 0) := ⟨t == 0, eq0⟩
  have eT : (t == 0) = bT := bool_of eq0 hT
  obtain ⟨bE, hE⟩ : ∃ b : Bool, (b = true ↔ el = 0) := ⟨el == 0, eq0⟩
  have eE : (el == 0) = bE := bool_of eq0 hE
  have KA := Lib.hid (fun W => reg_dec g d p m nm (.bool false) pr ob (.slice ab nB bc) R a true bA hA W)
  have HQ : Hid ((bA && bT && bE) = true ↔ EndQ false R nB 3 a t el) := Lib.hid (by rw [endQ_3n]; exact and3 (by simpa using hA) hT hE)
  clear hA hT hE
  have G : Hid (Fr (fun _ => False) ((w.alloc (.cells #[g, d, p, m, nm, .bool false, pr, .int .i64 R, ob, .slice ab nB bc] 79)).alloc (.cells #[ins, .int .i64 3, .int .i64 a, .int .i64 t, .int .i64 el] 44)) ((w.alloc (.cells #[g, d, p, m, nm, .bool false, pr, .int .i64 R, ob, .slice ab nB bc] 79)).alloc (.cells #[ins, .int .i64 3, .int .i64 a, .int .i64 t, .int .i64 el] 44))) := Lib.hid (Fr.refl _ _)
  have G0 : Hid (Fr (fun _ => False) w ((w.alloc (.cells #[g, d, p, m, nm, .bool false, pr, .int .i64 R, ob, .slice ab nB bc] 79)).alloc (.cells #[ins, .int .i64 3, .int .i64 a, .int .i64 t, .int .i64 el] 44))) := Lib.hid (fr_al (fr_al (Fr.refl _ _) _) _)
  have C1 : Hid (∀ (j : Nat) (y : Value), (#[g, d, p, m, nm, .bool false, pr, .int .i64 R, ob, .slice ab nB bc] : Array Value)[j]? = some y → ((w.alloc (.cells #[g, d, p, m, nm, .bool false, pr, .int .i64 R, ob, .slice ab nB bc] 79)).alloc (.cells #[ins, .int .i64 3, .int .i64 a, .int .i64 t, .int .i64 el] 44)).cell? ⟨w.heap.size, j, none⟩ = some y) := Lib.hid (fun j y h => two1 w _ _ _ _ j y h)
  have C2 : Hid (∀ (j : Nat) (y : Value), (#[ins, .int .i64 3, .int .i64 a, .int .i64 t, .int .i64 el] : Array Value)[j]? = some y → ((w.alloc (.cells #[g, d, p, m, nm, .bool false, pr, .int .i64 R, ob, .slice ab nB bc] 79)).alloc (.cells #[ins, .int .i64 3, .int .i64 a, .int .i64 t, .int .i64 el] 44)).cell? ⟨w.heap.size + 1, j, none⟩ = some y) := Lib.hid (fun j y h => two2 w _ _ _ _ j y h)
  cases bA
  · go_enter Try.func43, Try.ntmps43
    go_wp2_with (go_at_call 57; (with_reducible refine (KA.out _).mono ?_); rintro e w2 ⟨rfl, hf⟩; have c1 := (G.out.trans hf).cell (C2.out 1 _ rfl) id; have c2 := (G.out.trans hf).cell (C2.out 2 _ rfl) id; have c3 := (G.out.trans hf).cell (C2.out 3 _ rfl) id; have c4 := (G.out.trans hf).cell (C2.out 4 _ rfl) id; have v0 := (G.out.trans hf).cell (C1.out 0 _ rfl) id; have v1 := (G.out.trans hf).cell (C1.out 1 _ rfl) id; have v2 := (G.out.trans hf).cell (C1.out 2 _ rfl) id; have v3 := (G.out.trans hf).cell (C1.out 3 _ rfl) id; have v4 := (G.out.trans hf).cell (C1.out 4 _ rfl) id; have v5 := (G.out.trans hf).cell (C1.out 5 _ rfl) id; have v6 := (G.out.trans hf).cell (C1.out 6 _ rfl) id; have v7 := (G.out.trans hf).cell (C1.out 7 _ rfl) id; have v8 := (G.out.trans hf).cell (C1.out 8 _ rfl) id; have v9 := (G.out.trans hf).cell (C1.out 9 _ rfl) id; have G := Lib.hid (G.out.trans hf); clear hf)
    go_ret
    exact ⟨⟨_, rfl, HQ.out⟩, G0.out.trans G.out⟩
  · cases bT
    · go_enter Try.func43, Try.ntmps43
      go_wp2_with (go_at_call 57; (with_reducible refine (KA.out _).mono ?_); rintro e w2 ⟨rfl, hf⟩; have c1 := (G.out.trans hf).cell (C2.out 1 _ rfl) id; have c2 := (G.out.trans hf).cell (C2.out 2 _ rfl) id; have c3 := (G.out.trans hf).cell (C2.out 3 _ rfl) id; have c4 := (G.out.trans hf).cell (C2.out 4 _ rfl) id; have v0 := (G.out.trans hf).cell (C1.out 0 _ rfl) id; have v1 := (G.out.trans hf).cell (C1.out 1 _ rfl) id; have v2 := (G.out.trans hf).cell (C1.out 2 _ rfl) id; have v3 := (G.out.trans hf).cell (C1.out 3 _ rfl) id; have v4 := (G.out.trans hf).cell (C1.out 4 _ rfl) id; have v5 := (G.out.trans hf).cell (C1.out 5 _ rfl) id; have v6 := (G.out.trans hf).cell (C1.out 6 _ rfl) id; have v7 := (G.out.trans hf).cell (C1.out 7 _ rfl) id; have v8 := (G.out.trans hf).cell (C1.out 8 _ rfl) id; have v9 := (G.out.trans hf).cell (C1.out 9 _ rfl) id; have G := Lib.hid (G.out.trans hf); clear hf)
      go_ret
      exact ⟨⟨_, rfl, HQ.out⟩, G0.out.trans G.out⟩
    · go_enter Try.func43, Try.ntmps43
      go_wp2_with (go_at_call 57; (with_reducible refine (KA.out _).mono ?_); rintro e w2 ⟨rfl, hf⟩; have c1 := (G.out.trans hf).cell (C2.out 1 _ rfl) id; have c2 := (G.out.trans hf).cell (C2.out 2 _ rfl) id; have c3 := (G.out.trans hf).cell (C2.out 3 _ rfl) id; have c4 := (G.out.trans hf).cell (C2.out 4 _ rfl) id; have v0 := (G.out.trans hf).cell (C1.out 0 _ rfl) id; have v1 := (G.out.trans hf).cell (C1.out 1 _ rfl) id; have v2 := (G.out.trans hf).cell (C1.out 2 _ rfl) id; have v3 := (G.out.trans hf).cell (C1.out 3 _ rfl) id; have v4 := (G.out.trans hf).cell (C1.out 4 _ rfl) id; have v5 := (G.out.trans hf).cell (C1.out 5 _ rfl) id; have v6 := (G.out.trans hf).cell (C1.out 6 _ rfl) id; have v7 := (G.out.trans hf).cell (C1.out 7 _ rfl) id; have v8 := (G.out.trans hf).cell (C1.out 8 _ rfl) id; have v9 := (G.out.trans hf).cell (C1.out 9 _ rfl) id; have G := Lib.hid (G.out.trans hf); clear hf)
      go_ret
      exact ⟨⟨_, rfl, HQ.out⟩, G0.out.trans G.out⟩
set_option maxRecDepth 100000 in
set_option maxHeartbeats 4000000 in
theorem end_any (g d p m nm pr ob ins : Value) (vd : Bool) (R : Int) (ab : Option Addr) (nB bc : Nat) (en a t el : Int) (w : World) : Calls Try.prog 43 #[.agg #[g, d, p, m, nm, .bool vd, pr, .int .i64 R, ob, .slice ab nB bc], .agg #[ins, .int .i64 en, .int .i64 a, .int .i64 t, .int .i64 el]] w fun e w' => IsR (EndQ vd R nB en a t el) e ∧ Fr (fun _ => False) w w' := by
  by_cases h1 : en = 1
  · subst h1; exact end_1 g d p m nm pr ob ins vd R ab nB bc a t el w
  by_cases h2 : en = 2
  · subst h2; exact end_2 g d p m nm pr ob ins vd R ab nB bc a t el w
  by_cases h3 : en = 3
  · subst h3
    cases vd
    · exact end_3n g d p m nm pr ob ins R ab nB bc a t el w
    · exact end_3v g d p m nm pr ob ins R ab nB bc a t el w
  have HQ := Lib.hid (endQ_no vd R nB en a t el h1 h2 h3)
  go_enter Try.func43, Try.ntmps43
  go_wp2
  go_ret
  exact ⟨⟨_, rfl, iff_of_false Bool.false_ne_true HQ.out⟩, fr_al (fr_al (Fr.refl _ _) _) _⟩
end Go.Proofs.Ythdkmjbeemfbbaa
