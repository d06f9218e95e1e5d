/-
  Modules (layer 13): a block's test, at the page's block. Modules (layer 13): the test of the page's module. Modules (layer 13): the page's module is right.
-/
import Derived.Test.YtdhagimcffmdfaaDoorQIqE
import Derived.LoopTactic
import Derived.Deep.RegionHeld3
namespace Go.Proofs.YtdhagimcffmdfaaDoor
open Go.RowKit
set_option linter.unusedVariables false
set_option linter.unusedSimpArgs false
theorem two1 (w : World) (A B : Array Value) (T U : TypeId) (j : Nat) (y : Value) (h : A[j]? = some y) : ((w.alloc (.cells A T)).alloc (.cells B U)).cell? ⟨w.heap.size, j, none⟩ = some y :=
  (fr_al (Fr.refl (fun _ => False) _) _).cell (fcell w A T j y h) id
theorem two2 (w : World) (A B : Array Value) (T U : TypeId) (j : Nat) (y : Value) (h : B[j]? = some y) : ((w.alloc (.cells A T)).alloc (.cells B U)).cell? ⟨w.heap.size + 1, j, none⟩ = some y := by
  have e := fcell (w.alloc (.cells A T)) B U j y h
  have es : (w.alloc (.cells A T)).heap.size = w.heap.size + 1 := by simp
  rw [es] at e
  exact e
/-- A row of cells lies in memory. -/
def Row (w : World) (b : Nat) (A : Array Value) : Prop := ∀ (j : Nat) (y : Value), A[j]? = some y → w.cell? ⟨b, j, none⟩ = some y
theorem Row.fr {w w' : World} {b : Nat} {A : Array Value} (h : Row w b A) (hf : Fr (fun _ => False) w w') : Row w' b A := fun j y hj => hf.cell (h j y hj) id
/-- The page's two instructions, the input first. -/
def ins22 : Array Value := #[.int .i64 1, .int .i64 0, .int .i64 (-1), .int .i64 (-1), .int .i64 0, .int .i64 0, .int .i64 0, .int .i64 0, .int .u32 7, .slice none 0 0, .bool false]
set_option maxRecDepth 100000 in
set_option maxHeartbeats 2000000 in
theorem end_ok (g d p m nm pa ob bl : Value) (R : Int) (hR : (0 : Int) < R) (ins : Value) (w : World) : Calls Tryd.prog 49 #[.agg #[g, d, p, m, nm, .bool false, pa, .int .i64 R, ob, bl], .agg #[ins, .int .i64 3, .int .i64 0, .int .i64 0, .int .i64 0]] w fun e w' => e = .returned (.bool true) ∧ Fr (fun _ => False) w w' := by
  go_enter Tryd.func49, Tryd.ntmps49
  go_wp2_with (go_at_call 60; (with_reducible refine (reg_any g d p m nm _ pa ob bl R hR _ _ (by decide) _).mono ?_); rintro e w2 ⟨rfl, hf⟩; have HF := Lib.hid hf; have k3 := hf.cell (two2 w _ _ _ _ 3 _ rfl) id; have k4 := hf.cell (two2 w _ _ _ _ 4 _ rfl) id; clear hf)
  go_ret
  exact ⟨rfl, (fr_al (fr_al (Fr.refl _ _) _) _).trans HF.out⟩
set_option maxRecDepth 100000 in
set_option maxHeartbeats 2000000 in
theorem ask_con (g d p m nm pa ob bl : Value) (R : Int) (hR : (0 : Int) < R) (b : Nat) (w : World) (hb : Row w b #[g, d, p, m, nm, .bool false, pa, .int .i64 R, ob, bl]) : Calls Tryd.prog 51 #[.agg #[.int .i64 1, .int .i64 0, .int .i64 (-1), .int .i64 (-1), .int .i64 0, .int .i64 0, .int .i64 0, .int .i64 0, .int .u32 7, .slice none 0 0, .bool false], .pointer (some ⟨b, 0, none⟩)] w fun e w' => e = .returned (.bool false) ∧ Fr (fun _ => False) w w' := by
  have v0 : (w.alloc (.cells #[.int .i64 1, .int .i64 0, .int .i64 (-1), .int .i64 (-1), .int .i64 0, .int .i64 0, .int .i64 0, .int .i64 0, .int .u32 7, .slice none 0 0, .bool false] 38)).cell? ⟨b, 0, none⟩ = some (g) := (fr_al (Fr.refl (fun _ => False) _) _).cell (hb 0 _ rfl) id
  have v1 : (w.alloc (.cells #[.int .i64 1, .int .i64 0, .int .i64 (-1), .int .i64 (-1), .int .i64 0, .int .i64 0, .int .i64 0, .int .i64 0, .int .u32 7, .slice none 0 0, .bool false] 38)).cell? ⟨b, 1, none⟩ = some (d) := (fr_al (Fr.refl (fun _ => False) _) _).cell (hb 1 _ rfl) id
  have v2 : (w.alloc (.cells #[.int .i64 1, .int .i64 0, .int .i64 (-1), .int .i64 (-1), .int .i64 0, .int .i64 0, .int .i64 0, .int .i64 0, .int .u32 7, .slice none 0 0, .bool false] 38)).cell? ⟨b, 2, none⟩ = some (p) := (fr_al (Fr.refl (fun _ => False) _) _).cell (hb 2 _ rfl) id
  have v3 : (w.alloc (.cells #[.int .i64 1, .int .i64 0, .int .i64 (-1), .int .i64 (-1), .int .i64 0, .int .i64 0, .int .i64 0, .int .i64 0, .int .u32 7, .slice none 0 0, .bool false] 38)).cell? ⟨b, 3, none⟩ = some (m) := (fr_al (Fr.refl (fun _ => False) _) _).cell (hb 3 _ rfl) id
  have v4 : (w.alloc (.cells #[.int .i64 1, .int .i64 0, .int .i64 (-1), .int .i64 (-1), .int .i64 0, .int .i64 0, .int .i64 0, .int .i64 0, .int .u32 7, .slice none 0 0, .bool false] 38)).cell? ⟨b, 4, none⟩ = some (nm) := (fr_al (Fr.refl (fun _ => False) _) _).cell (hb 4 _ rfl) id
  have v5 : (w.alloc (.cells #[.int .i64 1, .int .i64 0, .int .i64 (-1), .int .i64 (-1), .int .i64 0, .int .i64 0, .int .i64 0, .int .i64 0, .int .u32 7, .slice none 0 0, .bool false] 38)).cell? ⟨b, 5, none⟩ = some (.bool false) := (fr_al (Fr.refl (fun _ => False) _) _).cell (hb 5 _ rfl) id
  have v6 : (w.alloc (.cells #[.int .i64 1, .int .i64 0, .int .i64 (-1), .int .i64 (-1), .int .i64 0, .int .i64 0, .int .i64 0, .int .i64 0, .int .u32 7, .slice none 0 0, .bool false] 38)).cell? ⟨b, 6, none⟩ = some (pa) := (fr_al (Fr.refl (fun _ => False) _) _).cell (hb 6 _ rfl) id
  have v7 : (w.alloc (.cells #[.int .i64 1, .int .i64 0, .int .i64 (-1), .int .i64 (-1), .int .i64 0, .int .i64 0, .int .i64 0, .int .i64 0, .int .u32 7, .slice none 0 0, .bool false] 38)).cell? ⟨b, 7, none⟩ = some (.int .i64 R) := (fr_al (Fr.refl (fun _ => False) _) _).cell (hb 7 _ rfl) id
  have v8 : (w.alloc (.cells #[.int .i64 1, .int .i64 0, .int .i64 (-1), .int .i64 (-1), .int .i64 0, .int .i64 0, .int .i64 0, .int .i64 0, .int .u32 7, .slice none 0 0, .bool false] 38)).cell? ⟨b, 8, none⟩ = some (ob) := (fr_al (Fr.refl (fun _ => False) _) _).cell (hb 8 _ rfl) id
  have v9 : (w.alloc (.cells #[.int .i64 1, .int .i64 0, .int .i64 (-1), .int .i64 (-1), .int .i64 0, .int .i64 0, .int .i64 0, .int .i64 0, .int .u32 7, .slice none 0 0, .bool false] 38)).cell? ⟨b, 9, none⟩ = some (bl) := (fr_al (Fr.refl (fun _ => False) _) _).cell (hb 9 _ rfl) id
  go_enter Tryd.func51, Tryd.ntmps51
  go_wp2_with (go_at_call 52; (with_reducible refine (ins_con g d p m nm _ pa ob bl R hR _).mono ?_); rintro e w2 ⟨rfl, hf⟩; have HF := Lib.hid hf; clear hf)
  go_ret
  exact ⟨rfl, (fr_al (Fr.refl _ _) _).trans HF.out⟩
set_option maxRecDepth 100000 in
set_option maxHeartbeats 2000000 in
theorem index_ins (g d p m nm pa ob bl : Value) (R : Int) (hR : (0 : Int) < R) (b bi : Nat) (w : World) (hb : Row w b #[g, d, p, m, nm, .bool false, pa, .int .i64 R, ob, bl]) (hi : Row w bi ins22) : Calls Tryd.prog 62 #[.slice (some ⟨bi, 0, none⟩) 1 1, .func (.func 51) #[] #[.pointer (some ⟨b, 0, none⟩)]] w fun e w' => e = .returned (.int .i64 (-1)) ∧ Fr (fun _ => False) w w' := by
  have HB := Lib.hid hb
  have HI := Lib.hid hi
  clear hb hi
  go_enter Tryd.func62, Tryd.ntmps62
  go_wp2
  go_loopw [8] (fun q wr => ∃ k : Nat, q = .int .i64 k ∧ k ≤ 1 ∧ Hid (Fr (fun _ => False) w wr)) (fun q _ => 1 - (intOf q).toNat)
  case atStart => exact ⟨0, rfl, Nat.zero_le _, Lib.hid (Fr.refl _ _)⟩
  case round =>
    obtain ⟨k, rfl, hk, HW⟩ := hrel
    have h3 : k = 0 ∨ k = 1 := by omega
    clear hk
    rcases h3 with rfl | rfl
    · have q0 : wr.cell? ⟨bi, 0, none⟩ = some (.int .i64 1) := HW.out.cell (HI.out 0 _ rfl) id
      have q1 : wr.cell? ⟨bi, 1, none⟩ = some (.int .i64 0) := HW.out.cell (HI.out 1 _ rfl) id
      have q2 : wr.cell? ⟨bi, 2, none⟩ = some (.int .i64 (-1)) := HW.out.cell (HI.out 2 _ rfl) id
      have q3 : wr.cell? ⟨bi, 3, none⟩ = some (.int .i64 (-1)) := HW.out.cell (HI.out 3 _ rfl) id
      have q4 : wr.cell? ⟨bi, 4, none⟩ = some (.int .i64 0) := HW.out.cell (HI.out 4 _ rfl) id
      have q5 : wr.cell? ⟨bi, 5, none⟩ = some (.int .i64 0) := HW.out.cell (HI.out 5 _ rfl) id
      have q6 : wr.cell? ⟨bi, 6, none⟩ = some (.int .i64 0) := HW.out.cell (HI.out 6 _ rfl) id
      have q7 : wr.cell? ⟨bi, 7, none⟩ = some (.int .i64 0) := HW.out.cell (HI.out 7 _ rfl) id
      have q8 : wr.cell? ⟨bi, 8, none⟩ = some (.int .u32 7) := HW.out.cell (HI.out 8 _ rfl) id
      have q9 : wr.cell? ⟨bi, 9, none⟩ = some (.slice none 0 0) := HW.out.cell (HI.out 9 _ rfl) id
      have q10 : wr.cell? ⟨bi, 10, none⟩ = some (.bool false) := HW.out.cell (HI.out 10 _ rfl) id
      go_wp2_with (go_at_call 51; (with_reducible refine (ask_con g d p m nm pa ob bl R hR b _ (HB.out.fr HW.out)).mono ?_); rintro e w2 ⟨rfl, hf⟩; have HV := Lib.hid (HW.out.trans hf); clear hf)
      go_roundw
      case rel => exact ⟨1, by go_num, by omega, HV⟩
      case measure => simp [intOf]
    · go_wp2
      go_ret
      exact ⟨rfl, HW.out⟩
theorem contains_ins (g d p m nm pa ob bl : Value) (R : Int) (hR : (0 : Int) < R) (b bi : Nat) (w : World) (hb : Row w b #[g, d, p, m, nm, .bool false, pa, .int .i64 R, ob, bl]) (hi : Row w bi ins22) : Calls Tryd.prog 50 #[.slice (some ⟨bi, 0, none⟩) 1 1, .func (.func 51) #[] #[.pointer (some ⟨b, 0, none⟩)]] w fun e w' => e = .returned (.bool false) ∧ Fr (fun _ => False) w w' := by
  go_enter Tryd.func50, Tryd.ntmps50
  go_wp2_with (go_at_call 62; (with_reducible refine (index_ins g d p m nm pa ob bl R hR b bi _ hb hi).mono ?_); rintro e w2 ⟨rfl, hf⟩; have HV := Lib.hid hf; clear hf)
  go_ret
  exact ⟨rfl, HV.out⟩
set_option maxRecDepth 100000 in
set_option maxHeartbeats 2000000 in
theorem block_ok (g d p m nm pa ob bl : Value) (R : Int) (hR : (0 : Int) < R) (bi : Nat) (w : World) (hi : Row w bi ins22) : Calls Tryd.prog 30 #[.agg #[g, d, p, m, nm, .bool false, pa, .int .i64 R, ob, bl], .agg #[.slice (some ⟨bi, 0, none⟩) 1 1, .int .i64 3, .int .i64 0, .int .i64 0, .int .i64 0]] w fun e w' => e = .returned (.bool true) ∧ Fr (fun _ => False) w w' := by
  have hmf : ∀ (fn : Fn) (first cap : Array Value) (w : World), (Instr.makeFunc fn first cap).run Tryd.prog w = .ok (.func fn first cap) w := fun _ _ _ _ => rfl
  have HI := Lib.hid hi
  clear hi
  go_enter Tryd.func30, Tryd.ntmps30
  go_wp2_with (first
    | (go_at_call 49; (with_reducible refine (end_ok _ _ _ _ _ _ _ _ _ hR _ _).mono ?_); rintro e w2 ⟨rfl, hf⟩; have HF := Lib.hid hf; have k0 := hf.cell (two2 w _ _ _ _ 0 _ rfl) id; have HBX : Hid (Row w2 w.heap.size #[g, d, p, m, nm, .bool false, pa, .int .i64 R, ob, bl]) := Lib.hid (fun j y h => hf.cell (two1 w _ _ _ _ j y h) id); have HIX : Hid (Row w2 bi ins22) := Lib.hid (HI.out.fr ((fr_al (fr_al (Fr.refl _ _) _) _).trans hf)); clear hf)
    | (go_at_call 50; (with_reducible refine (contains_ins g d p m nm pa ob bl R hR w.heap.size bi _ HBX.out HIX.out).mono ?_); rintro e w3 ⟨rfl, hf⟩; have HG := Lib.hid (HF.out.trans hf); clear hf))
  go_ret
  exact ⟨rfl, (fr_al (fr_al (Fr.refl _ _) _) _).trans HG.out⟩
set_option maxRecDepth 100000 in
set_option maxHeartbeats 2000000 in
theorem ask_block (bp bb bi b : Nat) (w : World) (hb : Row w b #[.slice none 0 0, .slice none 0 0, .slice (some ⟨bp, 0, none⟩) 1 1, .int .i64 0, .string ⟨#[]⟩, .bool false, .int .i64 0, .int .i64 1, .slice none 0 0, .slice (some ⟨bb, 0, none⟩) 1 1]) (hi : Row w bi ins22) : Calls Tryd.prog 29 #[.agg #[.slice (some ⟨bi, 0, none⟩) 1 1, .int .i64 3, .int .i64 0, .int .i64 0, .int .i64 0], .pointer (some ⟨b, 0, none⟩)] w fun e w' => e = .returned (.bool false) ∧ Fr (fun _ => False) w w' := by
  have v0 : (w.alloc (.cells #[.slice (some ⟨bi, 0, none⟩) 1 1, .int .i64 3, .int .i64 0, .int .i64 0, .int .i64 0] 41)).cell? ⟨b, 0, none⟩ = some (.slice none 0 0) := (fr_al (Fr.refl (fun _ => False) _) _).cell (hb 0 _ rfl) id
  have v1 : (w.alloc (.cells #[.slice (some ⟨bi, 0, none⟩) 1 1, .int .i64 3, .int .i64 0, .int .i64 0, .int .i64 0] 41)).cell? ⟨b, 1, none⟩ = some (.slice none 0 0) := (fr_al (Fr.refl (fun _ => False) _) _).cell (hb 1 _ rfl) id
  have v2 : (w.alloc (.cells #[.slice (some ⟨bi, 0, none⟩) 1 1, .int .i64 3, .int .i64 0, .int .i64 0, .int .i64 0] 41)).cell? ⟨b, 2, none⟩ = some (.slice (some ⟨bp, 0, none⟩) 1 1) := (fr_al (Fr.refl (fun _ => False) _) _).cell (hb 2 _ rfl) id
  have v3 : (w.alloc (.cells #[.slice (some ⟨bi, 0, none⟩) 1 1, .int .i64 3, .int .i64 0, .int .i64 0, .int .i64 0] 41)).cell? ⟨b, 3, none⟩ = some (.int .i64 0) := (fr_al (Fr.refl (fun _ => False) _) _).cell (hb 3 _ rfl) id
  have v4 : (w.alloc (.cells #[.slice (some ⟨bi, 0, none⟩) 1 1, .int .i64 3, .int .i64 0, .int .i64 0, .int .i64 0] 41)).cell? ⟨b, 4, none⟩ = some (.string ⟨#[]⟩) := (fr_al (Fr.refl (fun _ => False) _) _).cell (hb 4 _ rfl) id
  have v5 : (w.alloc (.cells #[.slice (some ⟨bi, 0, none⟩) 1 1, .int .i64 3, .int .i64 0, .int .i64 0, .int .i64 0] 41)).cell? ⟨b, 5, none⟩ = some (.bool false) := (fr_al (Fr.refl (fun _ => False) _) _).cell (hb 5 _ rfl) id
  have v6 : (w.alloc (.cells #[.slice (some ⟨bi, 0, none⟩) 1 1, .int .i64 3, .int .i64 0, .int .i64 0, .int .i64 0] 41)).cell? ⟨b, 6, none⟩ = some (.int .i64 0) := (fr_al (Fr.refl (fun _ => False) _) _).cell (hb 6 _ rfl) id
  have v7 : (w.alloc (.cells #[.slice (some ⟨bi, 0, none⟩) 1 1, .int .i64 3, .int .i64 0, .int .i64 0, .int .i64 0] 41)).cell? ⟨b, 7, none⟩ = some (.int .i64 1) := (fr_al (Fr.refl (fun _ => False) _) _).cell (hb 7 _ rfl) id
  have v8 : (w.alloc (.cells #[.slice (some ⟨bi, 0, none⟩) 1 1, .int .i64 3, .int .i64 0, .int .i64 0, .int .i64 0] 41)).cell? ⟨b, 8, none⟩ = some (.slice none 0 0) := (fr_al (Fr.refl (fun _ => False) _) _).cell (hb 8 _ rfl) id
  have v9 : (w.alloc (.cells #[.slice (some ⟨bi, 0, none⟩) 1 1, .int .i64 3, .int .i64 0, .int .i64 0, .int .i64 0] 41)).cell? ⟨b, 9, none⟩ = some (.slice (some ⟨bb, 0, none⟩) 1 1) := (fr_al (Fr.refl (fun _ => False) _) _).cell (hb 9 _ rfl) id
  have HI := Lib.hid (hi.fr (fr_al (Fr.refl _ _) (.cells #[.slice (some ⟨bi, 0, none⟩) 1 1, .int .i64 3, .int .i64 0, .int .i64 0, .int .i64 0] 41)))
  have HI0 := Lib.hid hi
  clear hi hb
  go_enter Tryd.func29, Tryd.ntmps29
  go_wp2_with (go_at_call 30; (with_reducible refine (block_ok (.slice none 0 0) (.slice none 0 0) (.slice (some ⟨bp, 0, none⟩) 1 1) (.int .i64 0) (.string ⟨#[]⟩) (.int .i64 0) (.slice none 0 0) (.slice (some ⟨bb, 0, none⟩) 1 1) 1 (by decide) bi _ HI.out).mono ?_); rintro e w2 ⟨rfl, hf⟩; have HF := Lib.hid hf; clear hf)
  go_ret
  exact ⟨rfl, (fr_al (Fr.refl _ _) _).trans HF.out⟩
set_option maxRecDepth 100000 in
set_option maxHeartbeats 2000000 in
theorem index_block (bp bb bi b : Nat) (w : World) (hb : Row w b #[.slice none 0 0, .slice none 0 0, .slice (some ⟨bp, 0, none⟩) 1 1, .int .i64 0, .string ⟨#[]⟩, .bool false, .int .i64 0, .int .i64 1, .slice none 0 0, .slice (some ⟨bb, 0, none⟩) 1 1]) (hk : Row w bb #[.slice (some ⟨bi, 0, none⟩) 1 1, .int .i64 3, .int .i64 0, .int .i64 0, .int .i64 0]) (hi : Row w bi ins22) : Calls Tryd.prog 48 #[.slice (some ⟨bb, 0, none⟩) 1 1, .func (.func 29) #[] #[.pointer (some ⟨b, 0, none⟩)]] w fun e w' => e = .returned (.int .i64 (-1)) ∧ Fr (fun _ => False) w w' := by
  have HB := Lib.hid hb
  have HK := Lib.hid hk
  have HI := Lib.hid hi
  clear hb hk hi
  go_enter Tryd.func48, Tryd.ntmps48
  go_wp2
  go_loopw [8] (fun q wr => ∃ k : Nat, q = .int .i64 k ∧ k ≤ 1 ∧ Hid (Fr (fun _ => False) w wr)) (fun q _ => 1 - (intOf q).toNat)
  case atStart => exact ⟨0, rfl, Nat.zero_le _, Lib.hid (Fr.refl _ _)⟩
  case round =>
    obtain ⟨k, rfl, hk, HW⟩ := hrel
    have h3 : k = 0 ∨ k = 1 := by omega
    clear hk
    rcases h3 with rfl | rfl
    · have q0 : wr.cell? ⟨bb, 0, none⟩ = some (.slice (some ⟨bi, 0, none⟩) 1 1) := HW.out.cell (HK.out 0 _ rfl) id
      have q1 : wr.cell? ⟨bb, 1, none⟩ = some (.int .i64 3) := HW.out.cell (HK.out 1 _ rfl) id
      have q2 : wr.cell? ⟨bb, 2, none⟩ = some (.int .i64 0) := HW.out.cell (HK.out 2 _ rfl) id
      have q3 : wr.cell? ⟨bb, 3, none⟩ = some (.int .i64 0) := HW.out.cell (HK.out 3 _ rfl) id
      have q4 : wr.cell? ⟨bb, 4, none⟩ = some (.int .i64 0) := HW.out.cell (HK.out 4 _ rfl) id
      go_wp2_with (go_at_call 29; (with_reducible refine (ask_block bp bb bi b _ (HB.out.fr HW.out) (HI.out.fr HW.out)).mono ?_); rintro e w2 ⟨rfl, hf⟩; have HV := Lib.hid (HW.out.trans hf); clear hf)
      go_roundw
      case rel => exact ⟨1, by go_num, by omega, HV⟩
      case measure => simp [intOf]
    · go_wp2
      go_ret
      exact ⟨rfl, HW.out⟩
theorem contains_block (bp bb bi b : Nat) (w : World) (hb : Row w b #[.slice none 0 0, .slice none 0 0, .slice (some ⟨bp, 0, none⟩) 1 1, .int .i64 0, .string ⟨#[]⟩, .bool false, .int .i64 0, .int .i64 1, .slice none 0 0, .slice (some ⟨bb, 0, none⟩) 1 1]) (hk : Row w bb #[.slice (some ⟨bi, 0, none⟩) 1 1, .int .i64 3, .int .i64 0, .int .i64 0, .int .i64 0]) (hi : Row w bi ins22) : Calls Tryd.prog 28 #[.slice (some ⟨bb, 0, none⟩) 1 1, .func (.func 29) #[] #[.pointer (some ⟨b, 0, none⟩)]] w fun e w' => e = .returned (.bool false) ∧ Fr (fun _ => False) w w' := by
  go_enter Tryd.func28, Tryd.ntmps28
  go_wp2_with (go_at_call 48; (with_reducible refine (index_block bp bb bi b _ hb hk hi).mono ?_); rintro e w2 ⟨rfl, hf⟩; have HV := Lib.hid hf; clear hf)
  go_ret
  exact ⟨rfl, HV.out⟩
/-- No variables. -/
theorem slots_none (w : World) : Calls Tryd.prog 46 #[.slice none 0 0] w fun e w' => e = .returned (.bool true) ∧ Fr (fun _ => False) w w' := by
  have hmf : ∀ (fn : Fn) (first cap : Array Value) (w : World), (Instr.makeFunc fn first cap).run Tryd.prog w = .ok (.func fn first cap) w := fun _ _ _ _ => rfl
  have h1 : ∀ (w : World), Calls Tryd.prog 70 #[.slice none 0 0, .func (.func 59) #[] #[]] w fun e w' => e = .returned (.int .i64 (-1)) ∧ Fr (fun _ => False) w w' := by
    intro w
    go_enter Tryd.func70, Tryd.ntmps70
    go_wp2
    go_loopw [8] (fun q wr => q = .int .i64 0 ∧ Hid (Fr (fun _ => False) w wr)) (fun q _ => 1 - (intOf q).toNat)
    case atStart => exact ⟨rfl, Lib.hid (Fr.refl _ _)⟩
    case round =>
      obtain ⟨rfl, HW⟩ := hrel
      go_wp2
      go_ret
      exact ⟨rfl, HW.out⟩
  have h2 : ∀ (w : World), Calls Tryd.prog 58 #[.slice none 0 0, .func (.func 59) #[] #[]] w fun e w' => e = .returned (.bool false) ∧ Fr (fun _ => False) w w' := by
    intro w
    go_enter Tryd.func58, Tryd.ntmps58
    go_wp2_with (go_at_call 70; (with_reducible refine (h1 _).mono ?_); rintro e w2 ⟨rfl, hf⟩; have HV := Lib.hid hf; clear hf)
    go_ret
    exact ⟨rfl, HV.out⟩
  go_enter Tryd.func46, Tryd.ntmps46
  go_wp2_with (go_at_call 58; (with_reducible refine (h2 _).mono ?_); rintro e w2 ⟨rfl, hf⟩; have HV := Lib.hid hf; clear hf)
  go_ret
  exact ⟨rfl, HV.out⟩
/-- The page's procedure has one instruction. -/
theorem count_one (bb bi : Nat) (w : World) (hk : Row w bb #[.slice (some ⟨bi, 0, none⟩) 1 1, .int .i64 3, .int .i64 0, .int .i64 0, .int .i64 0]) : Calls Tryd.prog 44 #[.agg #[.string ⟨#[]⟩, .bool false, .int .i64 0, .int .i64 1, .slice none 0 0, .slice (some ⟨bb, 0, none⟩) 1 1]] w fun e w' => e = .returned (.int .i64 1) ∧ Fr (fun _ => False) w w' := by
  have HK := Lib.hid hk
  clear hk
  go_enter Tryd.func44, Tryd.ntmps44
  go_wp2
  go_loopw [3, 9] (fun n q wr => ∃ k : Nat, q = .int .i64 k ∧ n = .int .i64 k ∧ k ≤ 1 ∧ Hid (Fr (fun _ => False) w wr)) (fun _ q _ => 1 - (intOf q).toNat)
  case atStart => exact ⟨0, rfl, rfl, Nat.zero_le _, Lib.hid (fr_al (Fr.refl _ _) _)⟩
  case round =>
    obtain ⟨k, rfl, rfl, hk, HW⟩ := hrel
    have h3 : k = 0 ∨ k = 1 := by omega
    clear hk
    rcases h3 with rfl | rfl
    · have q0 : wr.cell? ⟨bb, 0, none⟩ = some (.slice (some ⟨bi, 0, none⟩) 1 1) := HW.out.cell (HK.out 0 _ rfl) id
      have q1 : wr.cell? ⟨bb, 1, none⟩ = some (.int .i64 3) := HW.out.cell (HK.out 1 _ rfl) id
      have q2 : wr.cell? ⟨bb, 2, none⟩ = some (.int .i64 0) := HW.out.cell (HK.out 2 _ rfl) id
      have q3 : wr.cell? ⟨bb, 3, none⟩ = some (.int .i64 0) := HW.out.cell (HK.out 3 _ rfl) id
      have q4 : wr.cell? ⟨bb, 4, none⟩ = some (.int .i64 0) := HW.out.cell (HK.out 4 _ rfl) id
      go_wp2_with fail
      go_roundw
      case rel => exact ⟨1, by go_num, by go_num, by omega, Lib.hid (fr_al HW.out _)⟩
      case measure => simp [intOf]
    · go_wp2
      go_ret
      exact ⟨rfl, HW.out⟩
set_option maxRecDepth 100000 in
set_option maxHeartbeats 2000000 in
theorem outline_proc (bp bb bi : Nat) (w : World) (hk : Row w bb #[.slice (some ⟨bi, 0, none⟩) 1 1, .int .i64 3, .int .i64 0, .int .i64 0, .int .i64 0]) : Calls Tryd.prog 27 #[.agg #[.slice none 0 0, .slice none 0 0, .slice (some ⟨bp, 0, none⟩) 1 1, .int .i64 0, .string ⟨#[]⟩, .bool false, .int .i64 0, .int .i64 1, .slice none 0 0, .slice (some ⟨bb, 0, none⟩) 1 1]] w fun e w' => e = .returned (.bool true) ∧ Fr (fun _ => False) w w' := by
  have HK := Lib.hid hk
  clear hk
  go_enter Tryd.func27, Tryd.ntmps27
  go_wp2_with (first
    | (go_at_call 45; (with_reducible refine (c45 _ _ _ _).mono ?_); rintro e w2 ⟨rfl, rfl⟩)
    | (go_at_call 46; (with_reducible refine (slots_none _).mono ?_); rintro e w3 ⟨rfl, hf⟩; have HF3 := Lib.hid hf; have HK3 := Lib.hid (HK.out.fr ((fr_al (fr_al (Fr.refl _ _) _) _).trans hf)); have p0 : w3.cell? ⟨w.heap.size + 1, 0, none⟩ = some (.string ⟨#[]⟩) := hf.cell (two2 w _ _ _ _ 0 _ rfl) id; have p1 : w3.cell? ⟨w.heap.size + 1, 1, none⟩ = some (.bool false) := hf.cell (two2 w _ _ _ _ 1 _ rfl) id; have p2 : w3.cell? ⟨w.heap.size + 1, 2, none⟩ = some (.int .i64 0) := hf.cell (two2 w _ _ _ _ 2 _ rfl) id; have p3 : w3.cell? ⟨w.heap.size + 1, 3, none⟩ = some (.int .i64 1) := hf.cell (two2 w _ _ _ _ 3 _ rfl) id; have p4 : w3.cell? ⟨w.heap.size + 1, 4, none⟩ = some (.slice none 0 0) := hf.cell (two2 w _ _ _ _ 4 _ rfl) id; have p5 : w3.cell? ⟨w.heap.size + 1, 5, none⟩ = some (.slice (some ⟨bb, 0, none⟩) 1 1) := hf.cell (two2 w _ _ _ _ 5 _ rfl) id; clear hf)
    | (go_at_call 44; (with_reducible refine (count_one bb bi _ HK3.out).mono ?_); rintro e w4 ⟨rfl, hf⟩; have HF4 := Lib.hid hf; clear hf))
  go_ret
  exact ⟨rfl, (fr_al (fr_al (Fr.refl _ _) _) _).trans (HF3.out.trans HF4.out)⟩
set_option maxRecDepth 100000 in
set_option maxHeartbeats 2000000 in
theorem data_none (bp : Nat) (w : World) : Calls Tryd.prog 47 #[.agg #[.slice none 0 0, .slice none 0 0, .slice (some ⟨bp, 0, none⟩) 1 1, .int .i64 0]] w fun e w' => e = .returned (.bool true) ∧ Fr (fun _ => False) w w' := by
  go_enter Tryd.func47, Tryd.ntmps47
  go_wp2
  go_loopw [8] (fun q wr => q = .int .i64 0 ∧ Hid (Fr (fun _ => False) w wr)) (fun q _ => 1 - (intOf q).toNat)
  case atStart => exact ⟨rfl, Lib.hid (fr_al (Fr.refl _ _) _)⟩
  case round =>
    obtain ⟨rfl, HW⟩ := hrel
    go_wp2
    go_ret
    exact ⟨rfl, HW.out⟩
set_option maxRecDepth 100000 in
set_option maxHeartbeats 2000000 in
theorem outline_mod (bp bb : Nat) (w : World) (hp : Row w bp #[.string ⟨#[]⟩, .bool false, .int .i64 0, .int .i64 1, .slice none 0 0, .slice (some ⟨bb, 0, none⟩) 1 1]) : Calls Tryd.prog 24 #[.agg #[.slice none 0 0, .slice none 0 0, .slice (some ⟨bp, 0, none⟩) 1 1, .int .i64 0]] w fun e w' => e = .returned (.bool true) ∧ Fr (fun _ => False) w w' := by
  have p0 : (w.alloc (.cells #[.slice none 0 0, .slice none 0 0, .slice (some ⟨bp, 0, none⟩) 1 1, .int .i64 0] 26)).cell? ⟨bp, 0, none⟩ = some (.string ⟨#[]⟩) := (fr_al (Fr.refl (fun _ => False) _) _).cell (hp 0 _ rfl) id
  have p1 : (w.alloc (.cells #[.slice none 0 0, .slice none 0 0, .slice (some ⟨bp, 0, none⟩) 1 1, .int .i64 0] 26)).cell? ⟨bp, 1, none⟩ = some (.bool false) := (fr_al (Fr.refl (fun _ => False) _) _).cell (hp 1 _ rfl) id
  have p2 : (w.alloc (.cells #[.slice none 0 0, .slice none 0 0, .slice (some ⟨bp, 0, none⟩) 1 1, .int .i64 0] 26)).cell? ⟨bp, 2, none⟩ = some (.int .i64 0) := (fr_al (Fr.refl (fun _ => False) _) _).cell (hp 2 _ rfl) id
  have p3 : (w.alloc (.cells #[.slice none 0 0, .slice none 0 0, .slice (some ⟨bp, 0, none⟩) 1 1, .int .i64 0] 26)).cell? ⟨bp, 3, none⟩ = some (.int .i64 1) := (fr_al (Fr.refl (fun _ => False) _) _).cell (hp 3 _ rfl) id
  have p4 : (w.alloc (.cells #[.slice none 0 0, .slice none 0 0, .slice (some ⟨bp, 0, none⟩) 1 1, .int .i64 0] 26)).cell? ⟨bp, 4, none⟩ = some (.slice none 0 0) := (fr_al (Fr.refl (fun _ => False) _) _).cell (hp 4 _ rfl) id
  have p5 : (w.alloc (.cells #[.slice none 0 0, .slice none 0 0, .slice (some ⟨bp, 0, none⟩) 1 1, .int .i64 0] 26)).cell? ⟨bp, 5, none⟩ = some (.slice (some ⟨bb, 0, none⟩) 1 1) := (fr_al (Fr.refl (fun _ => False) _) _).cell (hp 5 _ rfl) id
  go_enter Tryd.func24, Tryd.ntmps24
  go_wp2_with (first
    | (go_at_call 45; (with_reducible refine (c45 _ _ _ _).mono ?_); rintro e w2 ⟨rfl, rfl⟩)
    | (go_at_call 26; (with_reducible refine (c26 _ _ _).mono ?_); rintro e w2 ⟨rfl, rfl⟩)
    | (go_at_call 46; (with_reducible refine (slots_none _).mono ?_); rintro e w3 ⟨rfl, hf⟩; have HF3 := Lib.hid hf; have m0 : w3.cell? ⟨w.heap.size, 0, none⟩ = some (.slice none 0 0) := hf.cell (fcell w _ _ 0 _ rfl) id; have m1 : w3.cell? ⟨w.heap.size, 1, none⟩ = some (.slice none 0 0) := hf.cell (fcell w _ _ 1 _ rfl) id; have m2 : w3.cell? ⟨w.heap.size, 2, none⟩ = some (.slice (some ⟨bp, 0, none⟩) 1 1) := hf.cell (fcell w _ _ 2 _ rfl) id; have m3 : w3.cell? ⟨w.heap.size, 3, none⟩ = some (.int .i64 0) := hf.cell (fcell w _ _ 3 _ rfl) id; clear hf)
    | (go_at_call 47; (with_reducible refine (data_none bp _).mono ?_); rintro e w4 ⟨rfl, hf⟩; have HF4 := Lib.hid hf; clear hf))
  go_ret
  exact ⟨rfl, (fr_al (Fr.refl _ _) _).trans (HF3.out.trans HF4.out)⟩
theorem keepP {V w' : World} {mb bp : Nat} (h : Fr (fun _ => False) V w') {bb : Nat} (m0 : V.cell? ⟨mb, 0, none⟩ = some (.slice none 0 0)) (m1 : V.cell? ⟨mb, 1, none⟩ = some (.slice none 0 0)) (m2 : V.cell? ⟨mb, 2, none⟩ = some (.slice (some ⟨bp, 0, none⟩) 1 1)) (m3 : V.cell? ⟨mb, 3, none⟩ = some (.int .i64 0)) (p0 : V.cell? ⟨bp, 0, none⟩ = some (.string ⟨#[]⟩)) (p1 : V.cell? ⟨bp, 1, none⟩ = some (.bool false)) (p2 : V.cell? ⟨bp, 2, none⟩ = some (.int .i64 0)) (p3 : V.cell? ⟨bp, 3, none⟩ = some (.int .i64 1)) (p4 : V.cell? ⟨bp, 4, none⟩ = some (.slice none 0 0)) (p5 : V.cell? ⟨bp, 5, none⟩ = some (.slice (some ⟨bb, 0, none⟩) 1 1)) : Fr (fun _ => False) V w' ∧ w'.cell? ⟨mb, 0, none⟩ = some (.slice none 0 0) ∧ w'.cell? ⟨mb, 1, none⟩ = some (.slice none 0 0) ∧ w'.cell? ⟨mb, 2, none⟩ = some (.slice (some ⟨bp, 0, none⟩) 1 1) ∧ w'.cell? ⟨mb, 3, none⟩ = some (.int .i64 0) ∧ w'.cell? ⟨bp, 0, none⟩ = some (.string ⟨#[]⟩) ∧ w'.cell? ⟨bp, 1, none⟩ = some (.bool false) ∧ w'.cell? ⟨bp, 2, none⟩ = some (.int .i64 0) ∧ w'.cell? ⟨bp, 3, none⟩ = some (.int .i64 1) ∧ w'.cell? ⟨bp, 4, none⟩ = some (.slice none 0 0) ∧ w'.cell? ⟨bp, 5, none⟩ = some (.slice (some ⟨bb, 0, none⟩) 1 1) := ⟨h, h.cell m0 id, h.cell m1 id, h.cell m2 id, h.cell m3 id, h.cell p0 id, h.cell p1 id, h.cell p2 id, h.cell p3 id, h.cell p4 id, h.cell p5 id⟩
set_option maxRecDepth 100000 in
set_option maxHeartbeats 2000000 in
theorem proc_ok (bp bb bi : Nat) (w : World) (hp : Row w bp #[.string ⟨#[]⟩, .bool false, .int .i64 0, .int .i64 1, .slice none 0 0, .slice (some ⟨bb, 0, none⟩) 1 1]) (hk : Row w bb #[.slice (some ⟨bi, 0, none⟩) 1 1, .int .i64 3, .int .i64 0, .int .i64 0, .int .i64 0]) (hi : Row w bi ins22) : Calls Tryd.prog 10 #[.agg #[.slice none 0 0, .slice none 0 0, .slice (some ⟨bp, 0, none⟩) 1 1, .int .i64 0], .int .i64 0] w fun e w' => e = .returned (.int .i64 0) ∧ Fr (fun _ => False) w w' := by
  have hmf : ∀ (fn : Fn) (first cap : Array Value) (w : World), (Instr.makeFunc fn first cap).run Tryd.prog w = .ok (.func fn first cap) w := fun _ _ _ _ => rfl
  have p0 : (w.alloc (.cells #[.slice none 0 0, .slice none 0 0, .slice (some ⟨bp, 0, none⟩) 1 1, .int .i64 0] 26)).cell? ⟨bp, 0, none⟩ = some (.string ⟨#[]⟩) := (fr_al (Fr.refl (fun _ => False) _) _).cell (hp 0 _ rfl) id
  have p1 : (w.alloc (.cells #[.slice none 0 0, .slice none 0 0, .slice (some ⟨bp, 0, none⟩) 1 1, .int .i64 0] 26)).cell? ⟨bp, 1, none⟩ = some (.bool false) := (fr_al (Fr.refl (fun _ => False) _) _).cell (hp 1 _ rfl) id
  have p2 : (w.alloc (.cells #[.slice none 0 0, .slice none 0 0, .slice (some ⟨bp, 0, none⟩) 1 1, .int .i64 0] 26)).cell? ⟨bp, 2, none⟩ = some (.int .i64 0) := (fr_al (Fr.refl (fun _ => False) _) _).cell (hp 2 _ rfl) id
  have p3 : (w.alloc (.cells #[.slice none 0 0, .slice none 0 0, .slice (some ⟨bp, 0, none⟩) 1 1, .int .i64 0] 26)).cell? ⟨bp, 3, none⟩ = some (.int .i64 1) := (fr_al (Fr.refl (fun _ => False) _) _).cell (hp 3 _ rfl) id
  have p4 : (w.alloc (.cells #[.slice none 0 0, .slice none 0 0, .slice (some ⟨bp, 0, none⟩) 1 1, .int .i64 0] 26)).cell? ⟨bp, 4, none⟩ = some (.slice none 0 0) := (fr_al (Fr.refl (fun _ => False) _) _).cell (hp 4 _ rfl) id
  have p5 : (w.alloc (.cells #[.slice none 0 0, .slice none 0 0, .slice (some ⟨bp, 0, none⟩) 1 1, .int .i64 0] 26)).cell? ⟨bp, 5, none⟩ = some (.slice (some ⟨bb, 0, none⟩) 1 1) := (fr_al (Fr.refl (fun _ => False) _) _).cell (hp 5 _ rfl) id
  have HK := Lib.hid hk
  have HI := Lib.hid hi
  clear hk hi hp
  go_enter Tryd.func10, Tryd.ntmps10
  go_wp2_with (first
    | (go_at_call 26; (with_reducible refine (c26 _ _ _).mono ?_); rintro e w2 ⟨rfl, rfl⟩))
  have mm : ∀ W, Fr (fun _ => False) (w.alloc (.cells #[.slice none 0 0, .slice none 0 0, .slice (some ⟨bp, 0, none⟩) 1 1, .int .i64 0] 26)) W → ∀ (j : Nat) (y : Value), (#[.slice none 0 0, .slice none 0 0, .slice (some ⟨bp, 0, none⟩) 1 1, .int .i64 0] : Array Value)[j]? = some y → W.cell? ⟨w.heap.size, j, none⟩ = some y := fun W hW j y h => hW.cell (fcell w _ _ j y h) id
  have HQ : Hid (Fr (fun _ => False) w (w.alloc (.cells #[.slice none 0 0, .slice none 0 0, .slice (some ⟨bp, 0, none⟩) 1 1, .int .i64 0] 26))) := Lib.hid (fr_al (Fr.refl _ _) _)
  have HK2 := Lib.hid (HK.out.fr HQ.out)
  have HI2 := Lib.hid (HI.out.fr HQ.out)
  have m0 : (w.alloc (.cells #[.slice none 0 0, .slice none 0 0, .slice (some ⟨bp, 0, none⟩) 1 1, .int .i64 0] 26)).cell? ⟨w.heap.size, 0, none⟩ = some (.slice none 0 0) := mm _ (Fr.refl _ _) 0 _ rfl
  have m1 : (w.alloc (.cells #[.slice none 0 0, .slice none 0 0, .slice (some ⟨bp, 0, none⟩) 1 1, .int .i64 0] 26)).cell? ⟨w.heap.size, 1, none⟩ = some (.slice none 0 0) := mm _ (Fr.refl _ _) 1 _ rfl
  have m2 : (w.alloc (.cells #[.slice none 0 0, .slice none 0 0, .slice (some ⟨bp, 0, none⟩) 1 1, .int .i64 0] 26)).cell? ⟨w.heap.size, 2, none⟩ = some (.slice (some ⟨bp, 0, none⟩) 1 1) := mm _ (Fr.refl _ _) 2 _ rfl
  have m3 : (w.alloc (.cells #[.slice none 0 0, .slice none 0 0, .slice (some ⟨bp, 0, none⟩) 1 1, .int .i64 0] 26)).cell? ⟨w.heap.size, 3, none⟩ = some (.int .i64 0) := mm _ (Fr.refl _ _) 3 _ rfl
  clear mm
  generalize w.alloc (.cells #[.slice none 0 0, .slice none 0 0, .slice (some ⟨bp, 0, none⟩) 1 1, .int .i64 0] 26) = V at *
  generalize w.heap.size = mb at *
  go_region_held3 (fun w' => Fr (fun _ => False) V w' ∧ w'.cell? ⟨mb, 0, none⟩ = some (.slice none 0 0) ∧ w'.cell? ⟨mb, 1, none⟩ = some (.slice none 0 0) ∧ w'.cell? ⟨mb, 2, none⟩ = some (.slice (some ⟨bp, 0, none⟩) 1 1) ∧ w'.cell? ⟨mb, 3, none⟩ = some (.int .i64 0) ∧ w'.cell? ⟨bp, 0, none⟩ = some (.string ⟨#[]⟩) ∧ w'.cell? ⟨bp, 1, none⟩ = some (.bool false) ∧ w'.cell? ⟨bp, 2, none⟩ = some (.int .i64 0) ∧ w'.cell? ⟨bp, 3, none⟩ = some (.int .i64 1) ∧ w'.cell? ⟨bp, 4, none⟩ = some (.slice none 0 0) ∧ w'.cell? ⟨bp, 5, none⟩ = some (.slice (some ⟨bb, 0, none⟩) 1 1))
    (first | assumption | exact keepP (Fr.refl _ _) m0 m1 m2 m3 p0 p1 p2 p3 p4 p5 | exact keepP ((Fr.refl _ _).drewN 1) m0 m1 m2 m3 p0 p1 p2 p3 p4 p5 | exact keepP (fr_al ((Fr.refl _ _).drewN 1) _) m0 m1 m2 m3 p0 p1 p2 p3 p4 p5 | exact keepP (fr_al (And.left (by assumption)) _) m0 m1 m2 m3 p0 p1 p2 p3 p4 p5)
    (fail)
  have HU : Hid (Fr (fun _ => False) V (V.alloc (.cells #[.slice none 0 0, .slice none 0 0, .slice (some ⟨bp, 0, none⟩) 1 1, .int .i64 0, .string ⟨#[]⟩, .bool false, .int .i64 0, .int .i64 1, .slice none 0 0, .slice (some ⟨bb, 0, none⟩) 1 1] 60)).drew) := Lib.hid ((fr_al (Fr.refl _ _) _).drewN 1)
  have HR : Hid (Row (V.alloc (.cells #[.slice none 0 0, .slice none 0 0, .slice (some ⟨bp, 0, none⟩) 1 1, .int .i64 0, .string ⟨#[]⟩, .bool false, .int .i64 0, .int .i64 1, .slice none 0 0, .slice (some ⟨bb, 0, none⟩) 1 1] 60)).drew V.heap.size #[.slice none 0 0, .slice none 0 0, .slice (some ⟨bp, 0, none⟩) 1 1, .int .i64 0, .string ⟨#[]⟩, .bool false, .int .i64 0, .int .i64 1, .slice none 0 0, .slice (some ⟨bb, 0, none⟩) 1 1]) := Lib.hid (fun j y h => fcell V _ _ j y h)
  generalize (V.alloc (.cells #[.slice none 0 0, .slice none 0 0, .slice (some ⟨bp, 0, none⟩) 1 1, .int .i64 0, .string ⟨#[]⟩, .bool false, .int .i64 0, .int .i64 1, .slice none 0 0, .slice (some ⟨bb, 0, none⟩) 1 1] 60)).drew = U at *
  generalize V.heap.size = vb at *
  have c0 : U.cell? ⟨vb, 0, none⟩ = some (.slice none 0 0) := HR.out 0 _ rfl
  have c1 : U.cell? ⟨vb, 1, none⟩ = some (.slice none 0 0) := HR.out 1 _ rfl
  have c2 : U.cell? ⟨vb, 2, none⟩ = some (.slice (some ⟨bp, 0, none⟩) 1 1) := HR.out 2 _ rfl
  have c3 : U.cell? ⟨vb, 3, none⟩ = some (.int .i64 0) := HR.out 3 _ rfl
  have c4 : U.cell? ⟨vb, 4, none⟩ = some (.string ⟨#[]⟩) := HR.out 4 _ rfl
  have c5 : U.cell? ⟨vb, 5, none⟩ = some (.bool false) := HR.out 5 _ rfl
  have c6 : U.cell? ⟨vb, 6, none⟩ = some (.int .i64 0) := HR.out 6 _ rfl
  have c7 : U.cell? ⟨vb, 7, none⟩ = some (.int .i64 1) := HR.out 7 _ rfl
  have c8 : U.cell? ⟨vb, 8, none⟩ = some (.slice none 0 0) := HR.out 8 _ rfl
  have c9 : U.cell? ⟨vb, 9, none⟩ = some (.slice (some ⟨bb, 0, none⟩) 1 1) := HR.out 9 _ rfl
  have HK3 := Lib.hid (HK2.out.fr HU.out)
  have HI3 := Lib.hid (HI2.out.fr HU.out)
  clear m0 m1 m2 m3 p0 p1 p2 p3 p4 p5
  go_wp2_with (first
    | (go_at_call 27; (with_reducible refine (outline_proc bp bb bi _ HK3.out).mono ?_); rintro e w5 ⟨rfl, hf⟩; have HF5 := Lib.hid hf; have d9 := hf.cell c9 id; have HR5 := Lib.hid (HR.out.fr hf); have HK5 := Lib.hid (HK3.out.fr hf); have HI5 := Lib.hid (HI3.out.fr hf); clear hf)
    | (go_at_call 28; (with_reducible refine (contains_block bp bb bi vb _ HR5.out HK5.out HI5.out).mono ?_); rintro e w6 ⟨rfl, hf⟩; have HF6 := Lib.hid hf; clear hf))
  go_ret
  exact ⟨rfl, HQ.out.trans (HU.out.trans (HF5.out.trans HF6.out))⟩
set_option maxRecDepth 100000 in
set_option maxHeartbeats 2000000 in
theorem check_ok (bp bb bi : Nat) (w : World) (hp : Row w bp #[.string ⟨#[]⟩, .bool false, .int .i64 0, .int .i64 1, .slice none 0 0, .slice (some ⟨bb, 0, none⟩) 1 1]) (hk : Row w bb #[.slice (some ⟨bi, 0, none⟩) 1 1, .int .i64 3, .int .i64 0, .int .i64 0, .int .i64 0]) (hi : Row w bi ins22) : Calls Tryd.prog 8 #[.agg #[.slice none 0 0, .slice none 0 0, .slice (some ⟨bp, 0, none⟩) 1 1, .int .i64 0]] w fun e w' => e = .returned (.int .i64 0) ∧ Fr (fun _ => False) w w' := by
  have HP := Lib.hid hp
  have HK := Lib.hid hk
  have HI := Lib.hid hi
  clear hp hk hi
  go_enter Tryd.func8, Tryd.ntmps8
  go_wp2_with (first
    | (go_at_call 24; (with_reducible refine (outline_mod bp bb _ (HP.out.fr (fr_al (Fr.refl _ _) _))).mono ?_); rintro e w5 ⟨rfl, hf⟩; have HF5 := Lib.hid ((fr_al (Fr.refl _ _) _).trans hf); have m0 : w5.cell? ⟨w.heap.size, 0, none⟩ = some (.slice none 0 0) := hf.cell (fcell w _ _ 0 _ rfl) id; have m1 : w5.cell? ⟨w.heap.size, 1, none⟩ = some (.slice none 0 0) := hf.cell (fcell w _ _ 1 _ rfl) id; have m2 : w5.cell? ⟨w.heap.size, 2, none⟩ = some (.slice (some ⟨bp, 0, none⟩) 1 1) := hf.cell (fcell w _ _ 2 _ rfl) id; have m3 : w5.cell? ⟨w.heap.size, 3, none⟩ = some (.int .i64 0) := hf.cell (fcell w _ _ 3 _ rfl) id; have HP5 := Lib.hid (HP.out.fr HF5.out); have HK5 := Lib.hid (HK.out.fr HF5.out); have HI5 := Lib.hid (HI.out.fr HF5.out); clear hf))
  generalize w.heap.size = mb at *
  go_loopw [11] (fun q wr => ∃ k : Nat, q = .int .i64 k ∧ k ≤ 1 ∧ Hid (Fr (fun _ => False) w5 wr)) (fun q _ => 1 - (intOf q).toNat)
  case atStart => exact ⟨0, rfl, Nat.zero_le _, Lib.hid (Fr.refl _ _)⟩
  case round =>
    obtain ⟨k, rfl, hk, HW⟩ := hrel
    have h3 : k = 0 ∨ k = 1 := by omega
    clear hk
    rcases h3 with rfl | rfl
    · have n0 := HW.out.cell m0 id
      have n1 := HW.out.cell m1 id
      have n2 := HW.out.cell m2 id
      have n3 := HW.out.cell m3 id
      have HPrR := Lib.hid (HP5.out.fr HW.out)
      have HKrR := Lib.hid (HK5.out.fr HW.out)
      have HIrR := Lib.hid (HI5.out.fr HW.out)
      clear m0 m1 m2 m3
      go_wp2_with (go_at_call 10; (with_reducible refine (proc_ok bp bb bi _ HPrR.out HKrR.out HIrR.out).mono ?_); rintro e w6 ⟨rfl, hf⟩; have HV := Lib.hid (HW.out.trans hf); clear hf)
      go_roundw
      case rel => exact ⟨1, by go_num, by omega, HV⟩
      case measure => simp [intOf]
    · go_wp2
      go_ret
      exact ⟨rfl, HF5.out.trans HW.out⟩
end Go.Proofs.YtdhagimcffmdfaaDoor
