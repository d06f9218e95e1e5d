/-
  Modules (layer 13): the page's module is right.
-/
import Derived.Test.YtnhdchagoabjeaaDoorIqG
import Derived.Deep.RegionHeld3
namespace Go.Proofs.YtnhdchagoabjeaaDoor
open Go.RowKit
set_option linter.unusedVariables false
set_option linter.unusedSimpArgs false
set_option maxRecDepth 100000 in
set_option maxHeartbeats 2000000 in
theorem outline_proc (bp bb bi : Nat) (w : World) (hk : Row w bb #[.slice (some ⟨bi, 0, none⟩) 1 1, .int .i64 3, .int .i64 0, .int .i64 0, .int .i64 0]) : Calls Tryd.prog 27 #[.agg #[.slice none 0 0, .slice none 0 0, .slice (some ⟨bp, 0, none⟩) 1 1, .int .i64 0, .string ⟨#[]⟩, .bool false, .int .i64 0, .int .i64 1, .slice none 0 0, .slice (some ⟨bb, 0, none⟩) 1 1]] w fun e w' => e = .returned (.bool true) ∧ Fr (fun _ => False) w w' := by
  have HK := Lib.hid hk
  clear hk
  go_enter Tryd.func27, Tryd.ntmps27
  go_wp2_with (first
    | (go_at_call 45; (with_reducible refine (c45 _ _ _ _).mono ?_); rintro e w2 ⟨rfl, rfl⟩)
    | (go_at_call 46; (with_reducible refine (slots_none _).mono ?_); rintro e w3 ⟨rfl, hf⟩; have HF3 := Lib.hid hf; have HK3 := Lib.hid (HK.out.fr ((fr_al (fr_al (Fr.refl _ _) _) _).trans hf)); have p0 : w3.cell? ⟨w.heap.size + 1, 0, none⟩ = some (.string ⟨#[]⟩) := hf.cell (two2 w _ _ _ _ 0 _ rfl) id; have p1 : w3.cell? ⟨w.heap.size + 1, 1, none⟩ = some (.bool false) := hf.cell (two2 w _ _ _ _ 1 _ rfl) id; have p2 : w3.cell? ⟨w.heap.size + 1, 2, none⟩ = some (.int .i64 0) := hf.cell (two2 w _ _ _ _ 2 _ rfl) id; have p3 : w3.cell? ⟨w.heap.size + 1, 3, none⟩ = some (.int .i64 1) := hf.cell (two2 w _ _ _ _ 3 _ rfl) id; have p4 : w3.cell? ⟨w.heap.size + 1, 4, none⟩ = some (.slice none 0 0) := hf.cell (two2 w _ _ _ _ 4 _ rfl) id; have p5 : w3.cell? ⟨w.heap.size + 1, 5, none⟩ = some (.slice (some ⟨bb, 0, none⟩) 1 1) := hf.cell (two2 w _ _ _ _ 5 _ rfl) id; clear hf)
    | (go_at_call 44; (with_reducible refine (count_one bb bi _ HK3.out).mono ?_); rintro e w4 ⟨rfl, hf⟩; have HF4 := Lib.hid hf; clear hf))
  go_ret
  exact ⟨rfl, (fr_al (fr_al (Fr.refl _ _) _) _).trans (HF3.out.trans HF4.out)⟩
set_option maxRecDepth 100000 in
set_option maxHeartbeats 2000000 in
theorem data_none (bp : Nat) (w : World) : Calls Tryd.prog 47 #[.agg #[.slice none 0 0, .slice none 0 0, .slice (some ⟨bp, 0, none⟩) 1 1, .int .i64 0]] w fun e w' => e = .returned (.bool true) ∧ Fr (fun _ => False) w w' := by
  go_enter Tryd.func47, Tryd.ntmps47
  go_wp2
  go_loopw [8] (fun q wr => q = .int .i64 0 ∧ Hid (Fr (fun _ => False) w wr)) (fun q _ => 1 - (intOf q).toNat)
  case atStart => exact ⟨rfl, Lib.hid (fr_al (Fr.refl _ _) _)⟩
  case round =>
    obtain ⟨rfl, HW⟩ := hrel
    go_wp2
    go_ret
    exact ⟨rfl, HW.out⟩
set_option maxRecDepth 100000 in
set_option maxHeartbeats 2000000 in
theorem outline_mod (bp bb : Nat) (w : World) (hp : Row w bp #[.string ⟨#[]⟩, .bool false, .int .i64 0, .int .i64 1, .slice none 0 0, .slice (some ⟨bb, 0, none⟩) 1 1]) : Calls Tryd.prog 24 #[.agg #[.slice none 0 0, .slice none 0 0, .slice (some ⟨bp, 0, none⟩) 1 1, .int .i64 0]] w fun e w' => e = .returned (.bool true) ∧ Fr (fun _ => False) w w' := by
  have p0 : (w.alloc (.cells #[.slice none 0 0, .slice none 0 0, .slice (some ⟨bp, 0, none⟩) 1 1, .int .i64 0] 26)).cell? ⟨bp, 0, none⟩ = some (.string ⟨#[]⟩) := (fr_al (Fr.refl (fun _ => False) _) _).cell (hp 0 _ rfl) id
  have p1 : (w.alloc (.cells #[.slice none 0 0, .slice none 0 0, .slice (some ⟨bp, 0, none⟩) 1 1, .int .i64 0] 26)).cell? ⟨bp, 1, none⟩ = some (.bool false) := (fr_al (Fr.refl (fun _ => False) _) _).cell (hp 1 _ rfl) id
  have p2 : (w.alloc (.cells #[.slice none 0 0, .slice none 0 0, .slice (some ⟨bp, 0, none⟩) 1 1, .int .i64 0] 26)).cell? ⟨bp, 2, none⟩ = some (.int .i64 0) := (fr_al (Fr.refl (fun _ => False) _) _).cell (hp 2 _ rfl) id
  have p3 : (w.alloc (.cells #[.slice none 0 0, .slice none 0 0, .slice (some ⟨bp, 0, none⟩) 1 1, .int .i64 0] 26)).cell? ⟨bp, 3, none⟩ = some (.int .i64 1) := (fr_al (Fr.refl (fun _ => False) _) _).cell (hp 3 _ rfl) id
  have p4 : (w.alloc (.cells #[.slice none 0 0, .slice none 0 0, .slice (some ⟨bp, 0, none⟩) 1 1, .int .i64 0] 26)).cell? ⟨bp, 4, none⟩ = some (.slice none 0 0) := (fr_al (Fr.refl (fun _ => False) _) _).cell (hp 4 _ rfl) id
  have p5 : (w.alloc (.cells #[.slice none 0 0, .slice none 0 0, .slice (some ⟨bp, 0, none⟩) 1 1, .int .i64 0] 26)).cell? ⟨bp, 5, none⟩ = some (.slice (some ⟨bb, 0, none⟩) 1 1) := (fr_al (Fr.refl (fun _ => False) _) _).cell (hp 5 _ rfl) id
  go_enter Tryd.func24, Tryd.ntmps24
  go_wp2_with (first
    | (go_at_call 45; (with_reducible refine (c45 _ _ _ _).mono ?_); rintro e w2 ⟨rfl, rfl⟩)
    | (go_at_call 26; (with_reducible refine (c26 _ _ _).mono ?_); rintro e w2 ⟨rfl, rfl⟩)
    | (go_at_call 46; (with_reducible refine (slots_none _).mono ?_); rintro e w3 ⟨rfl, hf⟩; have HF3 := Lib.hid hf; have m0 : w3.cell? ⟨w.heap.size, 0, none⟩ = some (.slice none 0 0) := hf.cell (fcell w _ _ 0 _ rfl) id; have m1 : w3.cell? ⟨w.heap.size, 1, none⟩ = some (.slice none 0 0) := hf.cell (fcell w _ _ 1 _ rfl) id; have m2 : w3.cell? ⟨w.heap.size, 2, none⟩ = some (.slice (some ⟨bp, 0, none⟩) 1 1) := hf.cell (fcell w _ _ 2 _ rfl) id; have m3 : w3.cell? ⟨w.heap.size, 3, none⟩ = some (.int .i64 0) := hf.cell (fcell w _ _ 3 _ rfl) id; clear hf)
    | (go_at_call 47; (with_reducible refine (data_none bp _).mono ?_); rintro e w4 ⟨rfl, hf⟩; have HF4 := Lib.hid hf; clear hf))
  go_ret
  exact ⟨rfl, (fr_al (Fr.refl _ _) _).trans (HF3.out.trans HF4.out)⟩
theorem keepP {V w' : World} {mb bp : Nat} (h : Fr (fun _ => False) V w') {bb : Nat} (m0 : V.cell? ⟨mb, 0, none⟩ = some (.slice none 0 0)) (m1 : V.cell? ⟨mb, 1, none⟩ = some (.slice none 0 0)) (m2 : V.cell? ⟨mb, 2, none⟩ = some (.slice (some ⟨bp, 0, none⟩) 1 1)) (m3 : V.cell? ⟨mb, 3, none⟩ = some (.int .i64 0)) (p0 : V.cell? ⟨bp, 0, none⟩ = some (.string ⟨#[]⟩)) (p1 : V.cell? ⟨bp, 1, none⟩ = some (.bool false)) (p2 : V.cell? ⟨bp, 2, none⟩ = some (.int .i64 0)) (p3 : V.cell? ⟨bp, 3, none⟩ = some (.int .i64 1)) (p4 : V.cell? ⟨bp, 4, none⟩ = some (.slice none 0 0)) (p5 : V.cell? ⟨bp, 5, none⟩ = some (.slice (some ⟨bb, 0, none⟩) 1 1)) : Fr (fun _ => False) V w' ∧ w'.cell? ⟨mb, 0, none⟩ = some (.slice none 0 0) ∧ w'.cell? ⟨mb, 1, none⟩ = some (.slice none 0 0) ∧ w'.cell? ⟨mb, 2, none⟩ = some (.slice (some ⟨bp, 0, none⟩) 1 1) ∧ w'.cell? ⟨mb, 3, none⟩ = some (.int .i64 0) ∧ w'.cell? ⟨bp, 0, none⟩ = some (.string ⟨#[]⟩) ∧ w'.cell? ⟨bp, 1, none⟩ = some (.bool false) ∧ w'.cell? ⟨bp, 2, none⟩ = some (.int .i64 0) ∧ w'.cell? ⟨bp, 3, none⟩ = some (.int .i64 1) ∧ w'.cell? ⟨bp, 4, none⟩ = some (.slice none 0 0) ∧ w'.cell? ⟨bp, 5, none⟩ = some (.slice (some ⟨bb, 0, none⟩) 1 1) := ⟨h, h.cell m0 id, h.cell m1 id, h.cell m2 id, h.cell m3 id, h.cell p0 id, h.cell p1 id, h.cell p2 id, h.cell p3 id, h.cell p4 id, h.cell p5 id⟩
set_option maxRecDepth 100000 in
set_option maxHeartbeats 2000000 in
theorem proc_ok (bp bb bi : Nat) (w : World) (hp : Row w bp #[.string ⟨#[]⟩, .bool false, .int .i64 0, .int .i64 1, .slice none 0 0, .slice (some ⟨bb, 0, none⟩) 1 1]) (hk : Row w bb #[.slice (some ⟨bi, 0, none⟩) 1 1, .int .i64 3, .int .i64 0, .int .i64 0, .int .i64 0]) (hi : Row w bi ins22) : Calls Tryd.prog 10 #[.agg #[.slice none 0 0, .slice none 0 0, .slice (some ⟨bp, 0, none⟩) 1 1, .int .i64 0], .int .i64 0] w fun e w' => e = .returned (.int .i64 0) ∧ Fr (fun _ => False) w w' := by
  have hmf : ∀ (fn : Fn) (first cap : Array Value) (w : World), (Instr.makeFunc fn first cap).run Tryd.prog w = .ok (.func fn first cap) w := fun _ _ _ _ => rfl
  have p0 : (w.alloc (.cells #[.slice none 0 0, .slice none 0 0, .slice (some ⟨bp, 0, none⟩) 1 1, .int .i64 0] 26)).cell? ⟨bp, 0, none⟩ = some (.string ⟨#[]⟩) := (fr_al (Fr.refl (fun _ => False) _) _).cell (hp 0 _ rfl) id
  have p1 : (w.alloc (.cells #[.slice none 0 0, .slice none 0 0, .slice (some ⟨bp, 0, none⟩) 1 1, .int .i64 0] 26)).cell? ⟨bp, 1, none⟩ = some (.bool false) := (fr_al (Fr.refl (fun _ => False) _) _).cell (hp 1 _ rfl) id
  have p2 : (w.alloc (.cells #[.slice none 0 0, .slice none 0 0, .slice (some ⟨bp, 0, none⟩) 1 1, .int .i64 0] 26)).cell? ⟨bp, 2, none⟩ = some (.int .i64 0) := (fr_al (Fr.refl (fun _ => False) _) _).cell (hp 2 _ rfl) id
  have p3 : (w.alloc (.cells #[.slice none 0 0, .slice none 0 0, .slice (some ⟨bp, 0, none⟩) 1 1, .int .i64 0] 26)).cell? ⟨bp, 3, none⟩ = some (.int .i64 1) := (fr_al (Fr.refl (fun _ => False) _) _).cell (hp 3 _ rfl) id
  have p4 : (w.alloc (.cells #[.slice none 0 0, .slice none 0 0, .slice (some ⟨bp, 0, none⟩) 1 1, .int .i64 0] 26)).cell? ⟨bp, 4, none⟩ = some (.slice none 0 0) := (fr_al (Fr.refl (fun _ => False) _) _).cell (hp 4 _ rfl) id
  have p5 : (w.alloc (.cells #[.slice none 0 0, .slice none 0 0, .slice (some ⟨bp, 0, none⟩) 1 1, .int .i64 0] 26)).cell? ⟨bp, 5, none⟩ = some (.slice (some ⟨bb, 0, none⟩) 1 1) := (fr_al (Fr.refl (fun _ => False) _) _).cell (hp 5 _ rfl) id
  have HK := Lib.hid hk
  have HI := Lib.hid hi
  clear hk hi hp
  go_enter Tryd.func10, Tryd.ntmps10
  go_wp2_with (first
    | (go_at_call 26; (with_reducible refine (c26 _ _ _).mono ?_); rintro e w2 ⟨rfl, rfl⟩))
  have mm : ∀ W, Fr (fun _ => False) (w.alloc (.cells #[.slice none 0 0, .slice none 0 0, .slice (some ⟨bp, 0, none⟩) 1 1, .int .i64 0] 26)) W → ∀ (j : Nat) (y : Value), (#[.slice none 0 0, .slice none 0 0, .slice (some ⟨bp, 0, none⟩) 1 1, .int .i64 0] : Array Value)[j]? = some y → W.cell? ⟨w.heap.size, j, none⟩ = some y := fun W hW j y h => hW.cell (fcell w _ _ j y h) id
  have HQ : Hid (Fr (fun _ => False) w (w.alloc (.cells #[.slice none 0 0, .slice none 0 0, .slice (some ⟨bp, 0, none⟩) 1 1, .int .i64 0] 26))) := Lib.hid (fr_al (Fr.refl _ _) _)
  have HK2 := Lib.hid (HK.out.fr HQ.out)
  have HI2 := Lib.hid (HI.out.fr HQ.out)
  have m0 : (w.alloc (.cells #[.slice none 0 0, .slice none 0 0, .slice (some ⟨bp, 0, none⟩) 1 1, .int .i64 0] 26)).cell? ⟨w.heap.size, 0, none⟩ = some (.slice none 0 0) := mm _ (Fr.refl _ _) 0 _ rfl
  have m1 : (w.alloc (.cells #[.slice none 0 0, .slice none 0 0, .slice (some ⟨bp, 0, none⟩) 1 1, .int .i64 0] 26)).cell? ⟨w.heap.size, 1, none⟩ = some (.slice none 0 0) := mm _ (Fr.refl _ _) 1 _ rfl
  have m2 : (w.alloc (.cells #[.slice none 0 0, .slice none 0 0, .slice (some ⟨bp, 0, none⟩) 1 1, .int .i64 0] 26)).cell? ⟨w.heap.size, 2, none⟩ = some (.slice (some ⟨bp, 0, none⟩) 1 1) := mm _ (Fr.refl _ _) 2 _ rfl
  have m3 : (w.alloc (.cells #[.slice none 0 0, .slice none 0 0, .slice (some ⟨bp, 0, none⟩) 1 1, .int .i64 0] 26)).cell? ⟨w.heap.size, 3, none⟩ = some (.int .i64 0) := mm _ (Fr.refl _ _) 3 _ rfl
  clear mm
  generalize w.alloc (.cells #[.slice none 0 0, .slice none 0 0, .slice (some ⟨bp, 0, none⟩) 1 1, .int .i64 0] 26) = V at *
  generalize w.heap.size = mb at *
  go_region_held3 (fun w' => Fr (fun _ => False) V w' ∧ w'.cell? ⟨mb, 0, none⟩ = some (.slice none 0 0) ∧ w'.cell? ⟨mb, 1, none⟩ = some (.slice none 0 0) ∧ w'.cell? ⟨mb, 2, none⟩ = some (.slice (some ⟨bp, 0, none⟩) 1 1) ∧ w'.cell? ⟨mb, 3, none⟩ = some (.int .i64 0) ∧ w'.cell? ⟨bp, 0, none⟩ = some (.string ⟨#[]⟩) ∧ w'.cell? ⟨bp, 1, none⟩ = some (.bool false) ∧ w'.cell? ⟨bp, 2, none⟩ = some (.int .i64 0) ∧ w'.cell? ⟨bp, 3, none⟩ = some (.int .i64 1) ∧ w'.cell? ⟨bp, 4, none⟩ = some (.slice none 0 0) ∧ w'.cell? ⟨bp, 5, none⟩ = some (.slice (some ⟨bb, 0, none⟩) 1 1))
    (first | assumption | exact keepP (Fr.refl _ _) m0 m1 m2 m3 p0 p1 p2 p3 p4 p5 | exact keepP ((Fr.refl _ _).drewN 1) m0 m1 m2 m3 p0 p1 p2 p3 p4 p5 | exact keepP (fr_al ((Fr.refl _ _).drewN 1) _) m0 m1 m2 m3 p0 p1 p2 p3 p4 p5 | exact keepP (fr_al (And.left (by assumption)) _) m0 m1 m2 m3 p0 p1 p2 p3 p4 p5)
    (fail)
  have HU : Hid (Fr (fun _ => False) V (V.alloc (.cells #[.slice none 0 0, .slice none 0 0, .slice (some ⟨bp, 0, none⟩) 1 1, .int .i64 0, .string ⟨#[]⟩, .bool false, .int .i64 0, .int .i64 1, .slice none 0 0, .slice (some ⟨bb, 0, none⟩) 1 1] 60)).drew) := Lib.hid ((fr_al (Fr.refl _ _) _).drewN 1)
  have HR : Hid (Row (V.alloc (.cells #[.slice none 0 0, .slice none 0 0, .slice (some ⟨bp, 0, none⟩) 1 1, .int .i64 0, .string ⟨#[]⟩, .bool false, .int .i64 0, .int .i64 1, .slice none 0 0, .slice (some ⟨bb, 0, none⟩) 1 1] 60)).drew V.heap.size #[.slice none 0 0, .slice none 0 0, .slice (some ⟨bp, 0, none⟩) 1 1, .int .i64 0, .string ⟨#[]⟩, .bool false, .int .i64 0, .int .i64 1, .slice none 0 0, .slice (some ⟨bb, 0, none⟩) 1 1]) := Lib.hid (fun j y h => fcell V _ _ j y h)
  generalize (V.alloc (.cells #[.slice none 0 0, .slice none 0 0, .slice (some ⟨bp, 0, none⟩) 1 1, .int .i64 0, .string ⟨#[]⟩, .bool false, .int .i64 0, .int .i64 1, .slice none 0 0, .slice (some ⟨bb, 0, none⟩) 1 1] 60)).drew = U at *
  generalize V.heap.size = vb at *
  have c0 : U.cell? ⟨vb, 0, none⟩ = some (.slice none 0 0) := HR.out 0 _ rfl
  have c1 : U.cell? ⟨vb, 1, none⟩ = some (.slice none 0 0) := HR.out 1 _ rfl
  have c2 : U.cell? ⟨vb, 2, none⟩ = some (.slice (some ⟨bp, 0, none⟩) 1 1) := HR.out 2 _ rfl
  have c3 : U.cell? ⟨vb, 3, none⟩ = some (.int .i64 0) := HR.out 3 _ rfl
  have c4 : U.cell? ⟨vb, 4, none⟩ = some (.string ⟨#[]⟩) := HR.out 4 _ rfl
  have c5 : U.cell? ⟨vb, 5, none⟩ = some (.bool false) := HR.out 5 _ rfl
  have c6 : U.cell? ⟨vb, 6, none⟩ = some (.int .i64 0) := HR.out 6 _ rfl
  have c7 : U.cell? ⟨vb, 7, none⟩ = some (.int .i64 1) := HR.out 7 _ rfl
  have c8 : U.cell? ⟨vb, 8, none⟩ = some (.slice none 0 0) := HR.out 8 _ rfl
  have c9 : U.cell? ⟨vb, 9, none⟩ = some (.slice (some ⟨bb, 0, none⟩) 1 1) := HR.out 9 _ rfl
  have HK3 := Lib.hid (HK2.out.fr HU.out)
  have HI3 := Lib.hid (HI2.out.fr HU.out)
  clear m0 m1 m2 m3 p0 p1 p2 p3 p4 p5
  go_wp2_with (first
    | (go_at_call 27; (with_reducible refine (outline_proc bp bb bi _ HK3.out).mono ?_); rintro e w5 ⟨rfl, hf⟩; have HF5 := Lib.hid hf; have d9 := hf.cell c9 id; have HR5 := Lib.hid (HR.out.fr hf); have HK5 := Lib.hid (HK3.out.fr hf); have HI5 := Lib.hid (HI3.out.fr hf); clear hf)
    | (go_at_call 28; (with_reducible refine (contains_block bp bb bi vb _ HR5.out HK5.out HI5.out).mono ?_); rintro e w6 ⟨rfl, hf⟩; have HF6 := Lib.hid hf; clear hf))
  go_ret
  exact ⟨rfl, HQ.out.trans (HU.out.trans (HF5.out.trans HF6.out))⟩
set_option maxRecDepth 100000 in
set_option maxHeartbeats 2000000 in
theorem check_ok (bp bb bi : Nat) (w : World) (hp : Row w bp #[.string ⟨#[]⟩, .bool false, .int .i64 0, .int .i64 1, .slice none 0 0, .slice (some ⟨bb, 0, none⟩) 1 1]) (hk : Row w bb #[.slice (some ⟨bi, 0, none⟩) 1 1, .int .i64 3, .int .i64 0, .int .i64 0, .int .i64 0]) (hi : Row w bi ins22) : Calls Tryd.prog 8 #[.agg #[.slice none 0 0, .slice none 0 0, .slice (some ⟨bp, 0, none⟩) 1 1, .int .i64 0]] w fun e w' => e = .returned (.int .i64 0) ∧ Fr (fun _ => False) w w' := by
  have HP := Lib.hid hp
  have HK := Lib.hid hk
  have HI := Lib.hid hi
  clear hp hk hi
  go_enter Tryd.func8, Tryd.ntmps8
  go_wp2_with (first
    | (go_at_call 24; (with_reducible refine (outline_mod bp bb _ (HP.out.fr (fr_al (Fr.refl _ _) _))).mono ?_); rintro e w5 ⟨rfl, hf⟩; have HF5 := Lib.hid ((fr_al (Fr.refl _ _) _).trans hf); have m0 : w5.cell? ⟨w.heap.size, 0, none⟩ = some (.slice none 0 0) := hf.cell (fcell w _ _ 0 _ rfl) id; have m1 : w5.cell? ⟨w.heap.size, 1, none⟩ = some (.slice none 0 0) := hf.cell (fcell w _ _ 1 _ rfl) id; have m2 : w5.cell? ⟨w.heap.size, 2, none⟩ = some (.slice (some ⟨bp, 0, none⟩) 1 1) := hf.cell (fcell w _ _ 2 _ rfl) id; have m3 : w5.cell? ⟨w.heap.size, 3, none⟩ = some (.int .i64 0) := hf.cell (fcell w _ _ 3 _ rfl) id; have HP5 := Lib.hid (HP.out.fr HF5.out); have HK5 := Lib.hid (HK.out.fr HF5.out); have HI5 := Lib.hid (HI.out.fr HF5.out); clear hf))
  generalize w.heap.size = mb at *
  go_loopw [11] (fun q wr => ∃ k : Nat, q = .int .i64 k ∧ k ≤ 1 ∧ Hid (Fr (fun _ => False) w5 wr)) (fun q _ => 1 - (intOf q).toNat)
  case atStart => exact ⟨0, rfl, Nat.zero_le _, Lib.hid (Fr.refl _ _)⟩
  case round =>
    obtain ⟨k, rfl, hk, HW⟩ := hrel
    have h3 : k = 0 ∨ k = 1 := by omega
    clear hk
    rcases h3 with rfl | rfl
    · have n0 := HW.out.cell m0 id
      have n1 := HW.out.cell m1 id
      have n2 := HW.out.cell m2 id
      have n3 := HW.out.cell m3 id
      have HPrR := Lib.hid (HP5.out.fr HW.out)
      have HKrR := Lib.hid (HK5.out.fr HW.out)
      have HIrR := Lib.hid (HI5.out.fr HW.out)
      clear m0 m1 m2 m3
      go_wp2_with (go_at_call 10; (with_reducible refine (proc_ok bp bb bi _ HPrR.out HKrR.out HIrR.out).mono ?_); rintro e w6 ⟨rfl, hf⟩; have HV := Lib.hid (HW.out.trans hf); clear hf)
      go_roundw
      case rel => exact ⟨1, by go_num, by omega, HV⟩
      case measure => simp [intOf]
    · go_wp2
      go_ret
      exact ⟨rfl, HF5.out.trans HW.out⟩
end Go.Proofs.YtnhdchagoabjeaaDoor
