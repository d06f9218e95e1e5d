/-
  Runs (layer 14): the page's example holds.
-/
import Derived.Test.YtelgppoohjblnaaIrO
namespace Go.Proofs.Ytelgppoohjblnaa
open Go.RowKit
set_option linter.unusedVariables false
set_option linter.unusedSimpArgs false
theorem five_rows (w : World) (A0 A1 A2 A3 A4 : Array Value) (T0 T1 T2 T3 T4 : TypeId) : Row (((((w.alloc (.cells A0 T0)).alloc (.cells A1 T1)).alloc (.cells A2 T2)).alloc (.cells A3 T3)).alloc (.cells A4 T4)) w.heap.size A0 ∧ Row (((((w.alloc (.cells A0 T0)).alloc (.cells A1 T1)).alloc (.cells A2 T2)).alloc (.cells A3 T3)).alloc (.cells A4 T4)) (w.heap.size + 1) A1 ∧ Row (((((w.alloc (.cells A0 T0)).alloc (.cells A1 T1)).alloc (.cells A2 T2)).alloc (.cells A3 T3)).alloc (.cells A4 T4)) (w.heap.size + 1 + 1 + 1) A3 ∧ Row (((((w.alloc (.cells A0 T0)).alloc (.cells A1 T1)).alloc (.cells A2 T2)).alloc (.cells A3 T3)).alloc (.cells A4 T4)) (w.heap.size + 1 + 1 + 1 + 1) A4 := by
  have r : ∀ (W : World) A T, Row (W.alloc (.cells A T)) W.heap.size A := fun W A T j y h => fcell W A T j y h
  have u : ∀ {W : World} {b A o}, Row W b A → Row (W.alloc o) b A := fun h => h.fr (fr_al (Fr.refl _ _) _)
  have h0 := r w A0 T0
  have h1 := r (w.alloc (.cells A0 T0)) A1 T1
  have h3 := r (((w.alloc (.cells A0 T0)).alloc (.cells A1 T1)).alloc (.cells A2 T2)) A3 T3
  have h4 := r ((((w.alloc (.cells A0 T0)).alloc (.cells A1 T1)).alloc (.cells A2 T2)).alloc (.cells A3 T3)) A4 T4
  simp only [World.size_alloc] at h1 h3 h4
  exact ⟨u (u (u (u h0))), u (u (u h1)), u h3, h4⟩
set_option maxRecDepth 100000 in
set_option maxHeartbeats 4000000 in
theorem c5 (w : World) : Calls Try.prog 5 #[] w fun e w' => e = .returned (.bool true) ∧ Fr (fun _ => False) w w' := by
  go_enter Try.func5, Try.ntmps5
  go_wp2_with fail
  have q := five_rows w #[.int .i64 11, .int .i64 0, .int .i64 (-1), .int .i64 (-1), .int .i64 0, .int .i64 0, .int .i64 0, .int .i64 0, .int .u32 0, .slice none 0 0, .bool false, .int .i64 10, .int .i64 (-1), .int .i64 0, .int .i64 (-1), .int .i64 0, .int .i64 0, .int .i64 0, .int .i64 0, .int .u32 0, .slice none 0 0, .bool false] #[.slice (some ⟨w.heap.size, 0, none⟩) 2 2, .int .i64 3, .int .i64 0, .int .i64 0, .int .i64 0] #[.string ⟨#[]⟩, .bool false, .int .i64 0, .int .i64 1, .slice none 0 0, .slice (some ⟨w.heap.size + 1, 0, none⟩) 1 1] #[.string ⟨#[]⟩, .bool false, .int .i64 0, .int .i64 1, .slice none 0 0, .slice (some ⟨w.heap.size + 1, 0, none⟩) 1 1] #[.int .u32 300] 34 37 40 40 22
  obtain ⟨h0, h1, h3, h4⟩ := q
  refine (run_page _ _ _ _ _ h3 h1 h0 (h4 0 _ rfl) (by omega)).mono ?_
  rintro en w2 ⟨g, oc, rfl, hg, hf⟩
  have HF := Lib.hid ((fr_al (fr_al (fr_al (fr_al (fr_al (Fr.refl (fun _ => False) w) _) _) _) _) _).trans hf)
  have hg2 := (fr_al (Fr.refl (fun _ => False) w2) (.cells #[.slice (some ⟨g, 0, none⟩) 1 oc, .int .i64 1, .int .u32 44, .int .i64 0] 44)).cell hg id
  clear h0 h1 h3 h4 hf
  go_wp2
  go_ret
  exact ⟨rfl, HF.out.trans (fr_al (Fr.refl _ _) _)⟩
end Go.Proofs.Ytelgppoohjblnaa
