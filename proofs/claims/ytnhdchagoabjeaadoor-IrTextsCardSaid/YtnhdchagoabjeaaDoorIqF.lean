/-
  Modules (layer 13): a block's test, at the page's block.
-/
import Derived.Test.YtnhdchagoabjeaaDoorIqE
import Derived.LoopTactic
namespace Go.Proofs.YtnhdchagoabjeaaDoor
open Go.RowKit
set_option linter.unusedVariables false
set_option linter.unusedSimpArgs false
theorem two1 (w : World) (A B : Array Value) (T U : TypeId) (j : Nat) (y : Value) (h : A[j]? = some y) : ((w.alloc (.cells A T)).alloc (.cells B U)).cell? ⟨w.heap.size, j, none⟩ = some y :=
  (fr_al (Fr.refl (fun _ => False) _) _).cell (fcell w A T j y h) id
theorem two2 (w : World) (A B : Array Value) (T U : TypeId) (j : Nat) (y : Value) (h : B[j]? = some y) : ((w.alloc (.cells A T)).alloc (.cells B U)).cell? ⟨w.heap.size + 1, j, none⟩ = some y := by
  have e := fcell (w.alloc (.cells A T)) B U j y h
  have es : (w.alloc (.cells A T)).heap.size = w.heap.size + 1 := by simp
  rw [es] at e
  exact e
/-- A row of cells lies in memory. -/
def Row (w : World) (b : Nat) (A : Array Value) : Prop := ∀ (j : Nat) (y : Value), A[j]? = some y → w.cell? ⟨b, j, none⟩ = some y
theorem Row.fr {w w' : World} {b : Nat} {A : Array Value} (h : Row w b A) (hf : Fr (fun _ => False) w w') : Row w' b A := fun j y hj => hf.cell (h j y hj) id
/-- The page's two instructions, the input first. -/
def ins22 : Array Value := #[.int .i64 1, .int .i64 0, .int .i64 (-1), .int .i64 (-1), .int .i64 0, .int .i64 0, .int .i64 0, .int .i64 0, .int .u32 7, .slice none 0 0, .bool false]
set_option maxRecDepth 100000 in
set_option maxHeartbeats 2000000 in
theorem end_ok (g d p m nm pa ob bl : Value) (R : Int) (hR : (0 : Int) < R) (ins : Value) (w : World) : Calls Tryd.prog 49 #[.agg #[g, d, p, m, nm, .bool false, pa, .int .i64 R, ob, bl], .agg #[ins, .int .i64 3, .int .i64 0, .int .i64 0, .int .i64 0]] w fun e w' => e = .returned (.bool true) ∧ Fr (fun _ => False) w w' := by
  go_enter Tryd.func49, Tryd.ntmps49
  go_wp2_with (go_at_call 60; (with_reducible refine (reg_any g d p m nm _ pa ob bl R hR _ _ (by decide) _).mono ?_); rintro e w2 ⟨rfl, hf⟩; have HF := Lib.hid hf; have k3 := hf.cell (two2 w _ _ _ _ 3 _ rfl) id; have k4 := hf.cell (two2 w _ _ _ _ 4 _ rfl) id; clear hf)
  go_ret
  exact ⟨rfl, (fr_al (fr_al (Fr.refl _ _) _) _).trans HF.out⟩
set_option maxRecDepth 100000 in
set_option maxHeartbeats 2000000 in
theorem ask_con (g d p m nm pa ob bl : Value) (R : Int) (hR : (0 : Int) < R) (b : Nat) (w : World) (hb : Row w b #[g, d, p, m, nm, .bool false, pa, .int .i64 R, ob, bl]) : Calls Tryd.prog 51 #[.agg #[.int .i64 1, .int .i64 0, .int .i64 (-1), .int .i64 (-1), .int .i64 0, .int .i64 0, .int .i64 0, .int .i64 0, .int .u32 7, .slice none 0 0, .bool false], .pointer (some ⟨b, 0, none⟩)] w fun e w' => e = .returned (.bool false) ∧ Fr (fun _ => False) w w' := by
  have v0 : (w.alloc (.cells #[.int .i64 1, .int .i64 0, .int .i64 (-1), .int .i64 (-1), .int .i64 0, .int .i64 0, .int .i64 0, .int .i64 0, .int .u32 7, .slice none 0 0, .bool false] 38)).cell? ⟨b, 0, none⟩ = some (g) := (fr_al (Fr.refl (fun _ => False) _) _).cell (hb 0 _ rfl) id
  have v1 : (w.alloc (.cells #[.int .i64 1, .int .i64 0, .int .i64 (-1), .int .i64 (-1), .int .i64 0, .int .i64 0, .int .i64 0, .int .i64 0, .int .u32 7, .slice none 0 0, .bool false] 38)).cell? ⟨b, 1, none⟩ = some (d) := (fr_al (Fr.refl (fun _ => False) _) _).cell (hb 1 _ rfl) id
  have v2 : (w.alloc (.cells #[.int .i64 1, .int .i64 0, .int .i64 (-1), .int .i64 (-1), .int .i64 0, .int .i64 0, .int .i64 0, .int .i64 0, .int .u32 7, .slice none 0 0, .bool false] 38)).cell? ⟨b, 2, none⟩ = some (p) := (fr_al (Fr.refl (fun _ => False) _) _).cell (hb 2 _ rfl) id
  have v3 : (w.alloc (.cells #[.int .i64 1, .int .i64 0, .int .i64 (-1), .int .i64 (-1), .int .i64 0, .int .i64 0, .int .i64 0, .int .i64 0, .int .u32 7, .slice none 0 0, .bool false] 38)).cell? ⟨b, 3, none⟩ = some (m) := (fr_al (Fr.refl (fun _ => False) _) _).cell (hb 3 _ rfl) id
  have v4 : (w.alloc (.cells #[.int .i64 1, .int .i64 0, .int .i64 (-1), .int .i64 (-1), .int .i64 0, .int .i64 0, .int .i64 0, .int .i64 0, .int .u32 7, .slice none 0 0, .bool false] 38)).cell? ⟨b, 4, none⟩ = some (nm) := (fr_al (Fr.refl (fun _ => False) _) _).cell (hb 4 _ rfl) id
  have v5 : (w.alloc (.cells #[.int .i64 1, .int .i64 0, .int .i64 (-1), .int .i64 (-1), .int .i64 0, .int .i64 0, .int .i64 0, .int .i64 0, .int .u32 7, .slice none 0 0, .bool false] 38)).cell? ⟨b, 5, none⟩ = some (.bool false) := (fr_al (Fr.refl (fun _ => False) _) _).cell (hb 5 _ rfl) id
  have v6 : (w.alloc (.cells #[.int .i64 1, .int .i64 0, .int .i64 (-1), .int .i64 (-1), .int .i64 0, .int .i64 0, .int .i64 0, .int .i64 0, .int .u32 7, .slice none 0 0, .bool false] 38)).cell? ⟨b, 6, none⟩ = some (pa) := (fr_al (Fr.refl (fun _ => False) _) _).cell (hb 6 _ rfl) id
  have v7 : (w.alloc (.cells #[.int .i64 1, .int .i64 0, .int .i64 (-1), .int .i64 (-1), .int .i64 0, .int .i64 0, .int .i64 0, .int .i64 0, .int .u32 7, .slice none 0 0, .bool false] 38)).cell? ⟨b, 7, none⟩ = some (.int .i64 R) := (fr_al (Fr.refl (fun _ => False) _) _).cell (hb 7 _ rfl) id
  have v8 : (w.alloc (.cells #[.int .i64 1, .int .i64 0, .int .i64 (-1), .int .i64 (-1), .int .i64 0, .int .i64 0, .int .i64 0, .int .i64 0, .int .u32 7, .slice none 0 0, .bool false] 38)).cell? ⟨b, 8, none⟩ = some (ob) := (fr_al (Fr.refl (fun _ => False) _) _).cell (hb 8 _ rfl) id
  have v9 : (w.alloc (.cells #[.int .i64 1, .int .i64 0, .int .i64 (-1), .int .i64 (-1), .int .i64 0, .int .i64 0, .int .i64 0, .int .i64 0, .int .u32 7, .slice none 0 0, .bool false] 38)).cell? ⟨b, 9, none⟩ = some (bl) := (fr_al (Fr.refl (fun _ => False) _) _).cell (hb 9 _ rfl) id
  go_enter Tryd.func51, Tryd.ntmps51
  go_wp2_with (go_at_call 52; (with_reducible refine (ins_con g d p m nm _ pa ob bl R hR _).mono ?_); rintro e w2 ⟨rfl, hf⟩; have HF := Lib.hid hf; clear hf)
  go_ret
  exact ⟨rfl, (fr_al (Fr.refl _ _) _).trans HF.out⟩
set_option maxRecDepth 100000 in
set_option maxHeartbeats 2000000 in
theorem index_ins (g d p m nm pa ob bl : Value) (R : Int) (hR : (0 : Int) < R) (b bi : Nat) (w : World) (hb : Row w b #[g, d, p, m, nm, .bool false, pa, .int .i64 R, ob, bl]) (hi : Row w bi ins22) : Calls Tryd.prog 62 #[.slice (some ⟨bi, 0, none⟩) 1 1, .func (.func 51) #[] #[.pointer (some ⟨b, 0, none⟩)]] w fun e w' => e = .returned (.int .i64 (-1)) ∧ Fr (fun _ => False) w w' := by
  have HB := Lib.hid hb
  have HI := Lib.hid hi
  clear hb hi
  go_enter Tryd.func62, Tryd.ntmps62
  go_wp2
  go_loopw [8] (fun q wr => ∃ k : Nat, q = .int .i64 k ∧ k ≤ 1 ∧ Hid (Fr (fun _ => False) w wr)) (fun q _ => 1 - (intOf q).toNat)
  case atStart => exact ⟨0, rfl, Nat.zero_le _, Lib.hid (Fr.refl _ _)⟩
  case round =>
    obtain ⟨k, rfl, hk, HW⟩ := hrel
    have h3 : k = 0 ∨ k = 1 := by omega
    clear hk
    rcases h3 with rfl | rfl
    · have q0 : wr.cell? ⟨bi, 0, none⟩ = some (.int .i64 1) := HW.out.cell (HI.out 0 _ rfl) id
      have q1 : wr.cell? ⟨bi, 1, none⟩ = some (.int .i64 0) := HW.out.cell (HI.out 1 _ rfl) id
      have q2 : wr.cell? ⟨bi, 2, none⟩ = some (.int .i64 (-1)) := HW.out.cell (HI.out 2 _ rfl) id
      have q3 : wr.cell? ⟨bi, 3, none⟩ = some (.int .i64 (-1)) := HW.out.cell (HI.out 3 _ rfl) id
      have q4 : wr.cell? ⟨bi, 4, none⟩ = some (.int .i64 0) := HW.out.cell (HI.out 4 _ rfl) id
      have q5 : wr.cell? ⟨bi, 5, none⟩ = some (.int .i64 0) := HW.out.cell (HI.out 5 _ rfl) id
      have q6 : wr.cell? ⟨bi, 6, none⟩ = some (.int .i64 0) := HW.out.cell (HI.out 6 _ rfl) id
      have q7 : wr.cell? ⟨bi, 7, none⟩ = some (.int .i64 0) := HW.out.cell (HI.out 7 _ rfl) id
      have q8 : wr.cell? ⟨bi, 8, none⟩ = some (.int .u32 7) := HW.out.cell (HI.out 8 _ rfl) id
      have q9 : wr.cell? ⟨bi, 9, none⟩ = some (.slice none 0 0) := HW.out.cell (HI.out 9 _ rfl) id
      have q10 : wr.cell? ⟨bi, 10, none⟩ = some (.bool false) := HW.out.cell (HI.out 10 _ rfl) id
      go_wp2_with (go_at_call 51; (with_reducible refine (ask_con g d p m nm pa ob bl R hR b _ (HB.out.fr HW.out)).mono ?_); rintro e w2 ⟨rfl, hf⟩; have HV := Lib.hid (HW.out.trans hf); clear hf)
      go_roundw
      case rel => exact ⟨1, by go_num, by omega, HV⟩
      case measure => simp [intOf]
    · go_wp2
      go_ret
      exact ⟨rfl, HW.out⟩
theorem contains_ins (g d p m nm pa ob bl : Value) (R : Int) (hR : (0 : Int) < R) (b bi : Nat) (w : World) (hb : Row w b #[g, d, p, m, nm, .bool false, pa, .int .i64 R, ob, bl]) (hi : Row w bi ins22) : Calls Tryd.prog 50 #[.slice (some ⟨bi, 0, none⟩) 1 1, .func (.func 51) #[] #[.pointer (some ⟨b, 0, none⟩)]] w fun e w' => e = .returned (.bool false) ∧ Fr (fun _ => False) w w' := by
  go_enter Tryd.func50, Tryd.ntmps50
  go_wp2_with (go_at_call 62; (with_reducible refine (index_ins g d p m nm pa ob bl R hR b bi _ hb hi).mono ?_); rintro e w2 ⟨rfl, hf⟩; have HV := Lib.hid hf; clear hf)
  go_ret
  exact ⟨rfl, HV.out⟩
set_option maxRecDepth 100000 in
set_option maxHeartbeats 2000000 in
theorem block_ok (g d p m nm pa ob bl : Value) (R : Int) (hR : (0 : Int) < R) (bi : Nat) (w : World) (hi : Row w bi ins22) : Calls Tryd.prog 30 #[.agg #[g, d, p, m, nm, .bool false, pa, .int .i64 R, ob, bl], .agg #[.slice (some ⟨bi, 0, none⟩) 1 1, .int .i64 3, .int .i64 0, .int .i64 0, .int .i64 0]] w fun e w' => e = .returned (.bool true) ∧ Fr (fun _ => False) w w' := by
  have hmf : ∀ (fn : Fn) (first cap : Array Value) (w : World), (Instr.makeFunc fn first cap).run Tryd.prog w = .ok (.func fn first cap) w := fun _ _ _ _ => rfl
  have HI := Lib.hid hi
  clear hi
  go_enter Tryd.func30, Tryd.ntmps30
  go_wp2_with (first
    | (go_at_call 49; (with_reducible refine (end_ok _ _ _ _ _ _ _ _ _ hR _ _).mono ?_); rintro e w2 ⟨rfl, hf⟩; have HF := Lib.hid hf; have k0 := hf.cell (two2 w _ _ _ _ 0 _ rfl) id; have HBX : Hid (Row w2 w.heap.size #[g, d, p, m, nm, .bool false, pa, .int .i64 R, ob, bl]) := Lib.hid (fun j y h => hf.cell (two1 w _ _ _ _ j y h) id); have HIX : Hid (Row w2 bi ins22) := Lib.hid (HI.out.fr ((fr_al (fr_al (Fr.refl _ _) _) _).trans hf)); clear hf)
    | (go_at_call 50; (with_reducible refine (contains_ins g d p m nm pa ob bl R hR w.heap.size bi _ HBX.out HIX.out).mono ?_); rintro e w3 ⟨rfl, hf⟩; have HG := Lib.hid (HF.out.trans hf); clear hf))
  go_ret
  exact ⟨rfl, (fr_al (fr_al (Fr.refl _ _) _) _).trans HG.out⟩
end Go.Proofs.YtnhdchagoabjeaaDoor
