/-
  Modules (layer 13): the test of the page's module.
-/
import Derived.Test.YtnhdchagoabjeaaDoorIqF
namespace Go.Proofs.YtnhdchagoabjeaaDoor
open Go.RowKit
set_option linter.unusedVariables false
set_option linter.unusedSimpArgs false
set_option maxRecDepth 100000 in
set_option maxHeartbeats 2000000 in
theorem ask_block (bp bb bi b : Nat) (w : World) (hb : Row w b #[.slice none 0 0, .slice none 0 0, .slice (some ⟨bp, 0, none⟩) 1 1, .int .i64 0, .string ⟨#[]⟩, .bool false, .int .i64 0, .int .i64 1, .slice none 0 0, .slice (some ⟨bb, 0, none⟩) 1 1]) (hi : Row w bi ins22) : Calls Tryd.prog 29 #[.agg #[.slice (some ⟨bi, 0, none⟩) 1 1, .int .i64 3, .int .i64 0, .int .i64 0, .int .i64 0], .pointer (some ⟨b, 0, none⟩)] w fun e w' => e = .returned (.bool false) ∧ Fr (fun _ => False) w w' := by
  have v0 : (w.alloc (.cells #[.slice (some ⟨bi, 0, none⟩) 1 1, .int .i64 3, .int .i64 0, .int .i64 0, .int .i64 0] 41)).cell? ⟨b, 0, none⟩ = some (.slice none 0 0) := (fr_al (Fr.refl (fun _ => False) _) _).cell (hb 0 _ rfl) id
  have v1 : (w.alloc (.cells #[.slice (some ⟨bi, 0, none⟩) 1 1, .int .i64 3, .int .i64 0, .int .i64 0, .int .i64 0] 41)).cell? ⟨b, 1, none⟩ = some (.slice none 0 0) := (fr_al (Fr.refl (fun _ => False) _) _).cell (hb 1 _ rfl) id
  have v2 : (w.alloc (.cells #[.slice (some ⟨bi, 0, none⟩) 1 1, .int .i64 3, .int .i64 0, .int .i64 0, .int .i64 0] 41)).cell? ⟨b, 2, none⟩ = some (.slice (some ⟨bp, 0, none⟩) 1 1) := (fr_al (Fr.refl (fun _ => False) _) _).cell (hb 2 _ rfl) id
  have v3 : (w.alloc (.cells #[.slice (some ⟨bi, 0, none⟩) 1 1, .int .i64 3, .int .i64 0, .int .i64 0, .int .i64 0] 41)).cell? ⟨b, 3, none⟩ = some (.int .i64 0) := (fr_al (Fr.refl (fun _ => False) _) _).cell (hb 3 _ rfl) id
  have v4 : (w.alloc (.cells #[.slice (some ⟨bi, 0, none⟩) 1 1, .int .i64 3, .int .i64 0, .int .i64 0, .int .i64 0] 41)).cell? ⟨b, 4, none⟩ = some (.string ⟨#[]⟩) := (fr_al (Fr.refl (fun _ => False) _) _).cell (hb 4 _ rfl) id
  have v5 : (w.alloc (.cells #[.slice (some ⟨bi, 0, none⟩) 1 1, .int .i64 3, .int .i64 0, .int .i64 0, .int .i64 0] 41)).cell? ⟨b, 5, none⟩ = some (.bool false) := (fr_al (Fr.refl (fun _ => False) _) _).cell (hb 5 _ rfl) id
  have v6 : (w.alloc (.cells #[.slice (some ⟨bi, 0, none⟩) 1 1, .int .i64 3, .int .i64 0, .int .i64 0, .int .i64 0] 41)).cell? ⟨b, 6, none⟩ = some (.int .i64 0) := (fr_al (Fr.refl (fun _ => False) _) _).cell (hb 6 _ rfl) id
  have v7 : (w.alloc (.cells #[.slice (some ⟨bi, 0, none⟩) 1 1, .int .i64 3, .int .i64 0, .int .i64 0, .int .i64 0] 41)).cell? ⟨b, 7, none⟩ = some (.int .i64 1) := (fr_al (Fr.refl (fun _ => False) _) _).cell (hb 7 _ rfl) id
  have v8 : (w.alloc (.cells #[.slice (some ⟨bi, 0, none⟩) 1 1, .int .i64 3, .int .i64 0, .int .i64 0, .int .i64 0] 41)).cell? ⟨b, 8, none⟩ = some (.slice none 0 0) := (fr_al (Fr.refl (fun _ => False) _) _).cell (hb 8 _ rfl) id
  have v9 : (w.alloc (.cells #[.slice (some ⟨bi, 0, none⟩) 1 1, .int .i64 3, .int .i64 0, .int .i64 0, .int .i64 0] 41)).cell? ⟨b, 9, none⟩ = some (.slice (some ⟨bb, 0, none⟩) 1 1) := (fr_al (Fr.refl (fun _ => False) _) _).cell (hb 9 _ rfl) id
  have HI := Lib.hid (hi.fr (fr_al (Fr.refl _ _) (.cells #[.slice (some ⟨bi, 0, none⟩) 1 1, .int .i64 3, .int .i64 0, .int .i64 0, .int .i64 0] 41)))
  have HI0 := Lib.hid hi
  clear hi hb
  go_enter Tryd.func29, Tryd.ntmps29
  go_wp2_with (go_at_call 30; (with_reducible refine (block_ok (.slice none 0 0) (.slice none 0 0) (.slice (some ⟨bp, 0, none⟩) 1 1) (.int .i64 0) (.string ⟨#[]⟩) (.int .i64 0) (.slice none 0 0) (.slice (some ⟨bb, 0, none⟩) 1 1) 1 (by decide) bi _ HI.out).mono ?_); rintro e w2 ⟨rfl, hf⟩; have HF := Lib.hid hf; clear hf)
  go_ret
  exact ⟨rfl, (fr_al (Fr.refl _ _) _).trans HF.out⟩
set_option maxRecDepth 100000 in
set_option maxHeartbeats 2000000 in
theorem index_block (bp bb bi b : Nat) (w : World) (hb : Row w b #[.slice none 0 0, .slice none 0 0, .slice (some ⟨bp, 0, none⟩) 1 1, .int .i64 0, .string ⟨#[]⟩, .bool false, .int .i64 0, .int .i64 1, .slice none 0 0, .slice (some ⟨bb, 0, none⟩) 1 1]) (hk : Row w bb #[.slice (some ⟨bi, 0, none⟩) 1 1, .int .i64 3, .int .i64 0, .int .i64 0, .int .i64 0]) (hi : Row w bi ins22) : Calls Tryd.prog 48 #[.slice (some ⟨bb, 0, none⟩) 1 1, .func (.func 29) #[] #[.pointer (some ⟨b, 0, none⟩)]] w fun e w' => e = .returned (.int .i64 (-1)) ∧ Fr (fun _ => False) w w' := by
  have HB := Lib.hid hb
  have HK := Lib.hid hk
  have HI := Lib.hid hi
  clear hb hk hi
  go_enter Tryd.func48, Tryd.ntmps48
  go_wp2
  go_loopw [8] (fun q wr => ∃ k : Nat, q = .int .i64 k ∧ k ≤ 1 ∧ Hid (Fr (fun _ => False) w wr)) (fun q _ => 1 - (intOf q).toNat)
  case atStart => exact ⟨0, rfl, Nat.zero_le _, Lib.hid (Fr.refl _ _)⟩
  case round =>
    obtain ⟨k, rfl, hk, HW⟩ := hrel
    have h3 : k = 0 ∨ k = 1 := by omega
    clear hk
    rcases h3 with rfl | rfl
    · have q0 : wr.cell? ⟨bb, 0, none⟩ = some (.slice (some ⟨bi, 0, none⟩) 1 1) := HW.out.cell (HK.out 0 _ rfl) id
      have q1 : wr.cell? ⟨bb, 1, none⟩ = some (.int .i64 3) := HW.out.cell (HK.out 1 _ rfl) id
      have q2 : wr.cell? ⟨bb, 2, none⟩ = some (.int .i64 0) := HW.out.cell (HK.out 2 _ rfl) id
      have q3 : wr.cell? ⟨bb, 3, none⟩ = some (.int .i64 0) := HW.out.cell (HK.out 3 _ rfl) id
      have q4 : wr.cell? ⟨bb, 4, none⟩ = some (.int .i64 0) := HW.out.cell (HK.out 4 _ rfl) id
      go_wp2_with (go_at_call 29; (with_reducible refine (ask_block bp bb bi b _ (HB.out.fr HW.out) (HI.out.fr HW.out)).mono ?_); rintro e w2 ⟨rfl, hf⟩; have HV := Lib.hid (HW.out.trans hf); clear hf)
      go_roundw
      case rel => exact ⟨1, by go_num, by omega, HV⟩
      case measure => simp [intOf]
    · go_wp2
      go_ret
      exact ⟨rfl, HW.out⟩
theorem contains_block (bp bb bi b : Nat) (w : World) (hb : Row w b #[.slice none 0 0, .slice none 0 0, .slice (some ⟨bp, 0, none⟩) 1 1, .int .i64 0, .string ⟨#[]⟩, .bool false, .int .i64 0, .int .i64 1, .slice none 0 0, .slice (some ⟨bb, 0, none⟩) 1 1]) (hk : Row w bb #[.slice (some ⟨bi, 0, none⟩) 1 1, .int .i64 3, .int .i64 0, .int .i64 0, .int .i64 0]) (hi : Row w bi ins22) : Calls Tryd.prog 28 #[.slice (some ⟨bb, 0, none⟩) 1 1, .func (.func 29) #[] #[.pointer (some ⟨b, 0, none⟩)]] w fun e w' => e = .returned (.bool false) ∧ Fr (fun _ => False) w w' := by
  go_enter Tryd.func28, Tryd.ntmps28
  go_wp2_with (go_at_call 48; (with_reducible refine (index_block bp bb bi b _ hb hk hi).mono ?_); rintro e w2 ⟨rfl, hf⟩; have HV := Lib.hid hf; clear hf)
  go_ret
  exact ⟨rfl, HV.out⟩
/-- No variables. -/
theorem slots_none (w : World) : Calls Tryd.prog 46 #[.slice none 0 0] w fun e w' => e = .returned (.bool true) ∧ Fr (fun _ => False) w w' := by
  have hmf : ∀ (fn : Fn) (first cap : Array Value) (w : World), (Instr.makeFunc fn first cap).run Tryd.prog w = .ok (.func fn first cap) w := fun _ _ _ _ => rfl
  have h1 : ∀ (w : World), Calls Tryd.prog 70 #[.slice none 0 0, .func (.func 59) #[] #[]] w fun e w' => e = .returned (.int .i64 (-1)) ∧ Fr (fun _ => False) w w' := by
    intro w
    go_enter Tryd.func70, Tryd.ntmps70
    go_wp2
    go_loopw [8] (fun q wr => q = .int .i64 0 ∧ Hid (Fr (fun _ => False) w wr)) (fun q _ => 1 - (intOf q).toNat)
    case atStart => exact ⟨rfl, Lib.hid (Fr.refl _ _)⟩
    case round =>
      obtain ⟨rfl, HW⟩ := hrel
      go_wp2
      go_ret
      exact ⟨rfl, HW.out⟩
  have h2 : ∀ (w : World), Calls Tryd.prog 58 #[.slice none 0 0, .func (.func 59) #[] #[]] w fun e w' => e = .returned (.bool false) ∧ Fr (fun _ => False) w w' := by
    intro w
    go_enter Tryd.func58, Tryd.ntmps58
    go_wp2_with (go_at_call 70; (with_reducible refine (h1 _).mono ?_); rintro e w2 ⟨rfl, hf⟩; have HV := Lib.hid hf; clear hf)
    go_ret
    exact ⟨rfl, HV.out⟩
  go_enter Tryd.func46, Tryd.ntmps46
  go_wp2_with (go_at_call 58; (with_reducible refine (h2 _).mono ?_); rintro e w2 ⟨rfl, hf⟩; have HV := Lib.hid hf; clear hf)
  go_ret
  exact ⟨rfl, HV.out⟩
/-- The page's procedure has one instruction. -/
theorem count_one (bb bi : Nat) (w : World) (hk : Row w bb #[.slice (some ⟨bi, 0, none⟩) 1 1, .int .i64 3, .int .i64 0, .int .i64 0, .int .i64 0]) : Calls Tryd.prog 44 #[.agg #[.string ⟨#[]⟩, .bool false, .int .i64 0, .int .i64 1, .slice none 0 0, .slice (some ⟨bb, 0, none⟩) 1 1]] w fun e w' => e = .returned (.int .i64 1) ∧ Fr (fun _ => False) w w' := by
  have HK := Lib.hid hk
  clear hk
  go_enter Tryd.func44, Tryd.ntmps44
  go_wp2
  go_loopw [3, 9] (fun n q wr => ∃ k : Nat, q = .int .i64 k ∧ n = .int .i64 k ∧ k ≤ 1 ∧ Hid (Fr (fun _ => False) w wr)) (fun _ q _ => 1 - (intOf q).toNat)
  case atStart => exact ⟨0, rfl, rfl, Nat.zero_le _, Lib.hid (fr_al (Fr.refl _ _) _)⟩
  case round =>
    obtain ⟨k, rfl, rfl, hk, HW⟩ := hrel
    have h3 : k = 0 ∨ k = 1 := by omega
    clear hk
    rcases h3 with rfl | rfl
    · have q0 : wr.cell? ⟨bb, 0, none⟩ = some (.slice (some ⟨bi, 0, none⟩) 1 1) := HW.out.cell (HK.out 0 _ rfl) id
      have q1 : wr.cell? ⟨bb, 1, none⟩ = some (.int .i64 3) := HW.out.cell (HK.out 1 _ rfl) id
      have q2 : wr.cell? ⟨bb, 2, none⟩ = some (.int .i64 0) := HW.out.cell (HK.out 2 _ rfl) id
      have q3 : wr.cell? ⟨bb, 3, none⟩ = some (.int .i64 0) := HW.out.cell (HK.out 3 _ rfl) id
      have q4 : wr.cell? ⟨bb, 4, none⟩ = some (.int .i64 0) := HW.out.cell (HK.out 4 _ rfl) id
      go_wp2_with fail
      go_roundw
      case rel => exact ⟨1, by go_num, by go_num, by omega, Lib.hid (fr_al HW.out _)⟩
      case measure => simp [intOf]
    · go_wp2
      go_ret
      exact ⟨rfl, HW.out⟩
end Go.Proofs.YtnhdchagoabjeaaDoor
