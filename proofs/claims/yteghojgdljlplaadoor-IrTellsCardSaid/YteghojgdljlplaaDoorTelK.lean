/-
  Which registers an instruction reads (layer 13): the document's own.
-/
import Derived.Test.YteghojgdljlplaaDoorTelJ
namespace Go.Proofs.YteghojgdljlplaaDoor
open Go.RowKit
set_option linter.unusedVariables false
set_option linter.unusedSimpArgs false
set_option maxRecDepth 100000 in
set_option maxHeartbeats 8000000 in
theorem uab (op d a b : Int) (y4 y5 y6 y7 y8 y10 : Value) (aa : Option Addr) (n c : Nat) (hr : 1 ≤ op ∧ op ≤ 12) (hA : hasA op = true) (hB : hasB op = true) (hG : hasG op = false) (ha : (a == -1) = false) (hb : (b == -1) = false) (w : World) :
    Calls Tryd.prog 17 #[.agg #[.int .i64 op, .int .i64 d, .int .i64 a, .int .i64 b, y4, y5, y6, y7, y8, .slice aa n c, y10]] w fun e w' => (∃ v, e = .returned v ∧ SlInts w' v ([a, b])) ∧ Fr (fun _ => False) w w' := by
  obtain ⟨i0, hi, hz0, hz1, hz2⟩ := info_partsB (show (Tryd.prog.info? 3).map (fun i => (i.zero, i.size, i.bytes)) = some (some (.int .i64 0), 1, 8) by kernel_rfl)
  have HI := Lib.hid hi
  have HZ0 := Lib.hid hz0
  have HZ1 := Lib.hid hz1
  have HZ2 := Lib.hid hz2
  clear hi hz0 hz1 hz2
  have hx := rf_any op hr
  have HFO : Hid (∀ w : World, Calls Tryd.prog 34 #[.int .i64 op] w fun e w' => (∃ g, e = .returned (.slice (some ⟨g, 0, none⟩) 10 10) ∧ w'.cell? ⟨g, 1, none⟩ = some (.bool true) ∧ w'.cell? ⟨g, 2, none⟩ = some (.bool true) ∧ w'.cell? ⟨g, 8, none⟩ = some (.bool false)) ∧ Fr (fun _ => False) w w') := Lib.hid (fun w => (hx w).mono (by
    rintro e w' ⟨⟨g, h1, h2⟩, h3⟩
    exact ⟨⟨g, h1, by rw [h2.a, hA], by rw [h2.b, hB], by rw [h2.s, hG]⟩, h3⟩))
  clear hx hr hA hB hG
  go_enter Tryd.func17, Tryd.ntmps17
  go_wp2_with (first
    | (go_at_call 34; (with_reducible refine (HFO.out _).mono ?_); rintro e w2 ⟨⟨g, rfl, r1, r2, r8⟩, hf⟩; have HF := Lib.hid hf; have k2 : w2.cell? ⟨w.heap.size, 2, none⟩ = some (.int .i64 a) := hf.cell (fcell w _ _ 2 _ rfl) id; have k3 : w2.cell? ⟨w.heap.size, 3, none⟩ = some (.int .i64 b) := hf.cell (fcell w _ _ 3 _ rfl) id; have k9 : w2.cell? ⟨w.heap.size, 9, none⟩ = some (.slice aa n c) := hf.cell (fcell w _ _ 9 _ rfl) id; have H0 := Lib.hid (GrI.nil w2); clear hf)
    | (at_builtin; first
      | (refine wpList_append_own _ rfl _ _ 36 rfl w2.heap.size 3 i0 (.int .i64 0) 1 8 Tryd.underlying36 HI.out HZ0.out HZ1.out HZ2.out rfl (by decide) (.slice none 0 0) 0 [] rfl (World.ownsRow_nil _ _ _ _) ⟨w2.heap.size, 0, none⟩ 1 1 [.int .i64 a] rfl rfl (one_c w2 3 (.int .i64 a)) (by simp [Value.oneCell']) (by unfold maxLen; omega) (by omega) (by simp) ?_; intro v3 w3 hown hg _; have HR := Lib.hid (GrI.snoc (x := a) (GrI.nil w2) (fr_al (Fr.refl _ _) _) (by simpa using hown) hg); have HS := Lib.hid HR.out.fr.size; have p2 : w3.cell? ⟨w.heap.size, 2, none⟩ = some (.int .i64 a) := HR.out.fr.cell k2 id; have p3 : w3.cell? ⟨w.heap.size, 3, none⟩ = some (.int .i64 b) := HR.out.fr.cell k3 id; have p9 : w3.cell? ⟨w.heap.size, 9, none⟩ = some (.slice aa n c) := HR.out.fr.cell k9 id; have pr1 : w3.cell? ⟨g, 1, none⟩ = some (.bool true) := HR.out.fr.cell r1 id; have pr2 : w3.cell? ⟨g, 2, none⟩ = some (.bool true) := HR.out.fr.cell r2 id; have pr8 : w3.cell? ⟨g, 8, none⟩ = some (.bool false) := HR.out.fr.cell r8 id;  clear hown hg)
      | (refine wpList_append_own _ rfl _ _ 36 rfl w2.heap.size 3 i0 (.int .i64 0) 1 8 Tryd.underlying36 HI.out HZ0.out HZ1.out HZ2.out rfl (by decide) v3 1 [.int .i64 a] rfl (by have := (HR.out.keep (fr_al (Fr.refl _ w3) (.cells #[.int .i64 b] 3))).num; simpa using this) ⟨w3.heap.size, 0, none⟩ 1 1 [.int .i64 b] rfl rfl (one_c w3 3 (.int .i64 b)) (by simp [Value.oneCell']) (by unfold maxLen; omega) (by omega) (by have := HS.out; simp at this ⊢; omega) ?_; intro v4 w4 hown hg _; have HR2 := Lib.hid (GrI.snoc (x := b) HR.out (fr_al (Fr.refl _ _) _) (by simpa using hown) hg); have q2 : w4.cell? ⟨w.heap.size, 2, none⟩ = some (.int .i64 a) := HR2.out.fr.cell k2 id; have q3 : w4.cell? ⟨w.heap.size, 3, none⟩ = some (.int .i64 b) := HR2.out.fr.cell k3 id; have q9 : w4.cell? ⟨w.heap.size, 9, none⟩ = some (.slice aa n c) := HR2.out.fr.cell k9 id; have qr1 : w4.cell? ⟨g, 1, none⟩ = some (.bool true) := HR2.out.fr.cell r1 id; have qr2 : w4.cell? ⟨g, 2, none⟩ = some (.bool true) := HR2.out.fr.cell r2 id; have qr8 : w4.cell? ⟨g, 8, none⟩ = some (.bool false) := HR2.out.fr.cell r8 id;  clear hown hg)))
  go_loopw [3, 5] (fun v q wr => v = v4 ∧ q = .int .i64 0 ∧ wr = w4) (fun _ _ _ => 0)
  case atStart => exact ⟨rfl, rfl, rfl⟩
  case round =>
    obtain ⟨rfl, rfl, rfl⟩ := hrel
    go_wp2
    go_ret
    exact ⟨⟨_, rfl, HR2.out.sl⟩, ((fr_al (Fr.refl _ _) _).trans HF.out).trans HR2.out.fr⟩
set_option maxRecDepth 100000 in
set_option maxHeartbeats 8000000 in
theorem ua (op d a b : Int) (y4 y5 y6 y7 y8 y10 : Value) (aa : Option Addr) (n c : Nat) (hr : 1 ≤ op ∧ op ≤ 12) (hA : hasA op = true) (hB : hasB op = true) (hG : hasG op = false) (ha : (a == -1) = false) (hb : (b == -1) = true) (w : World) :
    Calls Tryd.prog 17 #[.agg #[.int .i64 op, .int .i64 d, .int .i64 a, .int .i64 b, y4, y5, y6, y7, y8, .slice aa n c, y10]] w fun e w' => (∃ v, e = .returned v ∧ SlInts w' v ([a])) ∧ Fr (fun _ => False) w w' := by
  obtain ⟨i0, hi, hz0, hz1, hz2⟩ := info_partsB (show (Tryd.prog.info? 3).map (fun i => (i.zero, i.size, i.bytes)) = some (some (.int .i64 0), 1, 8) by kernel_rfl)
  have HI := Lib.hid hi
  have HZ0 := Lib.hid hz0
  have HZ1 := Lib.hid hz1
  have HZ2 := Lib.hid hz2
  clear hi hz0 hz1 hz2
  have hx := rf_any op hr
  have HFO : Hid (∀ w : World, Calls Tryd.prog 34 #[.int .i64 op] w fun e w' => (∃ g, e = .returned (.slice (some ⟨g, 0, none⟩) 10 10) ∧ w'.cell? ⟨g, 1, none⟩ = some (.bool true) ∧ w'.cell? ⟨g, 2, none⟩ = some (.bool true) ∧ w'.cell? ⟨g, 8, none⟩ = some (.bool false)) ∧ Fr (fun _ => False) w w') := Lib.hid (fun w => (hx w).mono (by
    rintro e w' ⟨⟨g, h1, h2⟩, h3⟩
    exact ⟨⟨g, h1, by rw [h2.a, hA], by rw [h2.b, hB], by rw [h2.s, hG]⟩, h3⟩))
  clear hx hr hA hB hG
  go_enter Tryd.func17, Tryd.ntmps17
  go_wp2_with (first
    | (go_at_call 34; (with_reducible refine (HFO.out _).mono ?_); rintro e w2 ⟨⟨g, rfl, r1, r2, r8⟩, hf⟩; have HF := Lib.hid hf; have k2 : w2.cell? ⟨w.heap.size, 2, none⟩ = some (.int .i64 a) := hf.cell (fcell w _ _ 2 _ rfl) id; have k3 : w2.cell? ⟨w.heap.size, 3, none⟩ = some (.int .i64 b) := hf.cell (fcell w _ _ 3 _ rfl) id; have k9 : w2.cell? ⟨w.heap.size, 9, none⟩ = some (.slice aa n c) := hf.cell (fcell w _ _ 9 _ rfl) id; have H0 := Lib.hid (GrI.nil w2); clear hf)
    | (at_builtin; go_loud (refine wpList_append_own _ rfl _ _ 36 rfl w2.heap.size 3 i0 (.int .i64 0) 1 8 Tryd.underlying36 HI.out HZ0.out HZ1.out HZ2.out rfl (by decide) (.slice none 0 0) 0 [] rfl (World.ownsRow_nil _ _ _ _) ⟨w2.heap.size, 0, none⟩ 1 1 [.int .i64 a] rfl rfl (one_c w2 3 (.int .i64 a)) (by simp [Value.oneCell']) (by unfold maxLen; omega) (by omega) (by simp) ?_; intro v3 w3 hown hg _; have HR := Lib.hid (GrI.snoc (x := a) (GrI.nil w2) (fr_al (Fr.refl _ _) _) (by simpa using hown) hg); have HS := Lib.hid HR.out.fr.size; have p2 : w3.cell? ⟨w.heap.size, 2, none⟩ = some (.int .i64 a) := HR.out.fr.cell k2 id; have p3 : w3.cell? ⟨w.heap.size, 3, none⟩ = some (.int .i64 b) := HR.out.fr.cell k3 id; have p9 : w3.cell? ⟨w.heap.size, 9, none⟩ = some (.slice aa n c) := HR.out.fr.cell k9 id; have pr1 : w3.cell? ⟨g, 1, none⟩ = some (.bool true) := HR.out.fr.cell r1 id; have pr2 : w3.cell? ⟨g, 2, none⟩ = some (.bool true) := HR.out.fr.cell r2 id; have pr8 : w3.cell? ⟨g, 8, none⟩ = some (.bool false) := HR.out.fr.cell r8 id;  clear hown hg)))
  go_loopw [3, 5] (fun v q wr => v = v3 ∧ q = .int .i64 0 ∧ wr = w3) (fun _ _ _ => 0)
  case atStart => exact ⟨rfl, rfl, rfl⟩
  case round =>
    obtain ⟨rfl, rfl, rfl⟩ := hrel
    go_wp2
    go_ret
    exact ⟨⟨_, rfl, HR.out.sl⟩, ((fr_al (Fr.refl _ _) _).trans HF.out).trans HR.out.fr⟩
set_option maxRecDepth 100000 in
set_option maxHeartbeats 8000000 in
theorem ub (op d a b : Int) (y4 y5 y6 y7 y8 y10 : Value) (aa : Option Addr) (n c : Nat) (hr : 1 ≤ op ∧ op ≤ 12) (hA : hasA op = true) (hB : hasB op = true) (hG : hasG op = false) (ha : (a == -1) = true) (hb : (b == -1) = false) (w : World) :
    Calls Tryd.prog 17 #[.agg #[.int .i64 op, .int .i64 d, .int .i64 a, .int .i64 b, y4, y5, y6, y7, y8, .slice aa n c, y10]] w fun e w' => (∃ v, e = .returned v ∧ SlInts w' v ([b])) ∧ Fr (fun _ => False) w w' := by
  obtain ⟨i0, hi, hz0, hz1, hz2⟩ := info_partsB (show (Tryd.prog.info? 3).map (fun i => (i.zero, i.size, i.bytes)) = some (some (.int .i64 0), 1, 8) by kernel_rfl)
  have HI := Lib.hid hi
  have HZ0 := Lib.hid hz0
  have HZ1 := Lib.hid hz1
  have HZ2 := Lib.hid hz2
  clear hi hz0 hz1 hz2
  have hx := rf_any op hr
  have HFO : Hid (∀ w : World, Calls Tryd.prog 34 #[.int .i64 op] w fun e w' => (∃ g, e = .returned (.slice (some ⟨g, 0, none⟩) 10 10) ∧ w'.cell? ⟨g, 1, none⟩ = some (.bool true) ∧ w'.cell? ⟨g, 2, none⟩ = some (.bool true) ∧ w'.cell? ⟨g, 8, none⟩ = some (.bool false)) ∧ Fr (fun _ => False) w w') := Lib.hid (fun w => (hx w).mono (by
    rintro e w' ⟨⟨g, h1, h2⟩, h3⟩
    exact ⟨⟨g, h1, by rw [h2.a, hA], by rw [h2.b, hB], by rw [h2.s, hG]⟩, h3⟩))
  clear hx hr hA hB hG
  go_enter Tryd.func17, Tryd.ntmps17
  go_wp2_with (first
    | (go_at_call 34; (with_reducible refine (HFO.out _).mono ?_); rintro e w2 ⟨⟨g, rfl, r1, r2, r8⟩, hf⟩; have HF := Lib.hid hf; have k2 : w2.cell? ⟨w.heap.size, 2, none⟩ = some (.int .i64 a) := hf.cell (fcell w _ _ 2 _ rfl) id; have k3 : w2.cell? ⟨w.heap.size, 3, none⟩ = some (.int .i64 b) := hf.cell (fcell w _ _ 3 _ rfl) id; have k9 : w2.cell? ⟨w.heap.size, 9, none⟩ = some (.slice aa n c) := hf.cell (fcell w _ _ 9 _ rfl) id; have H0 := Lib.hid (GrI.nil w2); clear hf)
    | (at_builtin; go_loud (refine wpList_append_own _ rfl _ _ 36 rfl w2.heap.size 3 i0 (.int .i64 0) 1 8 Tryd.underlying36 HI.out HZ0.out HZ1.out HZ2.out rfl (by decide) (.slice none 0 0) 0 [] rfl (World.ownsRow_nil _ _ _ _) ⟨w2.heap.size, 0, none⟩ 1 1 [.int .i64 b] rfl rfl (one_c w2 3 (.int .i64 b)) (by simp [Value.oneCell']) (by unfold maxLen; omega) (by omega) (by simp) ?_; intro v3 w3 hown hg _; have HR := Lib.hid (GrI.snoc (x := b) (GrI.nil w2) (fr_al (Fr.refl _ _) _) (by simpa using hown) hg); have HS := Lib.hid HR.out.fr.size; have p2 : w3.cell? ⟨w.heap.size, 2, none⟩ = some (.int .i64 a) := HR.out.fr.cell k2 id; have p3 : w3.cell? ⟨w.heap.size, 3, none⟩ = some (.int .i64 b) := HR.out.fr.cell k3 id; have p9 : w3.cell? ⟨w.heap.size, 9, none⟩ = some (.slice aa n c) := HR.out.fr.cell k9 id; have pr1 : w3.cell? ⟨g, 1, none⟩ = some (.bool true) := HR.out.fr.cell r1 id; have pr2 : w3.cell? ⟨g, 2, none⟩ = some (.bool true) := HR.out.fr.cell r2 id; have pr8 : w3.cell? ⟨g, 8, none⟩ = some (.bool false) := HR.out.fr.cell r8 id;  clear hown hg)))
  go_loopw [3, 5] (fun v q wr => v = v3 ∧ q = .int .i64 0 ∧ wr = w3) (fun _ _ _ => 0)
  case atStart => exact ⟨rfl, rfl, rfl⟩
  case round =>
    obtain ⟨rfl, rfl, rfl⟩ := hrel
    go_wp2
    go_ret
    exact ⟨⟨_, rfl, HR.out.sl⟩, ((fr_al (Fr.refl _ _) _).trans HF.out).trans HR.out.fr⟩
set_option maxRecDepth 100000 in
set_option maxHeartbeats 8000000 in
theorem u0 (op d a b : Int) (y4 y5 y6 y7 y8 y10 : Value) (aa : Option Addr) (n c : Nat) (hr : 1 ≤ op ∧ op ≤ 12) (hA : hasA op = true) (hB : hasB op = true) (hG : hasG op = false) (ha : (a == -1) = true) (hb : (b == -1) = true) (w : World) :
    Calls Tryd.prog 17 #[.agg #[.int .i64 op, .int .i64 d, .int .i64 a, .int .i64 b, y4, y5, y6, y7, y8, .slice aa n c, y10]] w fun e w' => (∃ v, e = .returned v ∧ SlInts w' v ([])) ∧ Fr (fun _ => False) w w' := by
  obtain ⟨i0, hi, hz0, hz1, hz2⟩ := info_partsB (show (Tryd.prog.info? 3).map (fun i => (i.zero, i.size, i.bytes)) = some (some (.int .i64 0), 1, 8) by kernel_rfl)
  have HI := Lib.hid hi
  have HZ0 := Lib.hid hz0
  have HZ1 := Lib.hid hz1
  have HZ2 := Lib.hid hz2
  clear hi hz0 hz1 hz2
  have hx := rf_any op hr
  have HFO : Hid (∀ w : World, Calls Tryd.prog 34 #[.int .i64 op] w fun e w' => (∃ g, e = .returned (.slice (some ⟨g, 0, none⟩) 10 10) ∧ w'.cell? ⟨g, 1, none⟩ = some (.bool true) ∧ w'.cell? ⟨g, 2, none⟩ = some (.bool true) ∧ w'.cell? ⟨g, 8, none⟩ = some (.bool false)) ∧ Fr (fun _ => False) w w') := Lib.hid (fun w => (hx w).mono (by
    rintro e w' ⟨⟨g, h1, h2⟩, h3⟩
    exact ⟨⟨g, h1, by rw [h2.a, hA], by rw [h2.b, hB], by rw [h2.s, hG]⟩, h3⟩))
  clear hx hr hA hB hG
  go_enter Tryd.func17, Tryd.ntmps17
  go_wp2_with (first
    | (go_at_call 34; (with_reducible refine (HFO.out _).mono ?_); rintro e w2 ⟨⟨g, rfl, r1, r2, r8⟩, hf⟩; have HF := Lib.hid hf; have k2 : w2.cell? ⟨w.heap.size, 2, none⟩ = some (.int .i64 a) := hf.cell (fcell w _ _ 2 _ rfl) id; have k3 : w2.cell? ⟨w.heap.size, 3, none⟩ = some (.int .i64 b) := hf.cell (fcell w _ _ 3 _ rfl) id; have k9 : w2.cell? ⟨w.heap.size, 9, none⟩ = some (.slice aa n c) := hf.cell (fcell w _ _ 9 _ rfl) id; have H0 := Lib.hid (GrI.nil w2); clear hf))
  go_loopw [3, 5] (fun v q wr => v = (.slice none 0 0) ∧ q = .int .i64 0 ∧ wr = w2) (fun _ _ _ => 0)
  case atStart => exact ⟨rfl, rfl, rfl⟩
  case round =>
    obtain ⟨rfl, rfl, rfl⟩ := hrel
    go_wp2
    go_ret
    exact ⟨⟨_, rfl, H0.out.sl⟩, ((fr_al (Fr.refl _ _) _).trans HF.out).trans H0.out.fr⟩
set_option maxRecDepth 100000 in
set_option maxHeartbeats 8000000 in
theorem va (op d a b : Int) (y4 y5 y6 y7 y8 y10 : Value) (aa : Option Addr) (n c : Nat) (hr : 1 ≤ op ∧ op ≤ 12) (hA : hasA op = true) (hB : hasB op = false) (hG : hasG op = false) (ha : (a == -1) = false) (w : World) :
    Calls Tryd.prog 17 #[.agg #[.int .i64 op, .int .i64 d, .int .i64 a, .int .i64 b, y4, y5, y6, y7, y8, .slice aa n c, y10]] w fun e w' => (∃ v, e = .returned v ∧ SlInts w' v ([a])) ∧ Fr (fun _ => False) w w' := by
  obtain ⟨i0, hi, hz0, hz1, hz2⟩ := info_partsB (show (Tryd.prog.info? 3).map (fun i => (i.zero, i.size, i.bytes)) = some (some (.int .i64 0), 1, 8) by kernel_rfl)
  have HI := Lib.hid hi
  have HZ0 := Lib.hid hz0
  have HZ1 := Lib.hid hz1
  have HZ2 := Lib.hid hz2
  clear hi hz0 hz1 hz2
  have hx := rf_any op hr
  have HFO : Hid (∀ w : World, Calls Tryd.prog 34 #[.int .i64 op] w fun e w' => (∃ g, e = .returned (.slice (some ⟨g, 0, none⟩) 10 10) ∧ w'.cell? ⟨g, 1, none⟩ = some (.bool true) ∧ w'.cell? ⟨g, 2, none⟩ = some (.bool false) ∧ w'.cell? ⟨g, 8, none⟩ = some (.bool false)) ∧ Fr (fun _ => False) w w') := Lib.hid (fun w => (hx w).mono (by
    rintro e w' ⟨⟨g, h1, h2⟩, h3⟩
    exact ⟨⟨g, h1, by rw [h2.a, hA], by rw [h2.b, hB], by rw [h2.s, hG]⟩, h3⟩))
  clear hx hr hA hB hG
  go_enter Tryd.func17, Tryd.ntmps17
  go_wp2_with (first
    | (go_at_call 34; (with_reducible refine (HFO.out _).mono ?_); rintro e w2 ⟨⟨g, rfl, r1, r2, r8⟩, hf⟩; have HF := Lib.hid hf; have k2 : w2.cell? ⟨w.heap.size, 2, none⟩ = some (.int .i64 a) := hf.cell (fcell w _ _ 2 _ rfl) id; have k3 : w2.cell? ⟨w.heap.size, 3, none⟩ = some (.int .i64 b) := hf.cell (fcell w _ _ 3 _ rfl) id; have k9 : w2.cell? ⟨w.heap.size, 9, none⟩ = some (.slice aa n c) := hf.cell (fcell w _ _ 9 _ rfl) id; have H0 := Lib.hid (GrI.nil w2); clear hf)
    | (at_builtin; go_loud (refine wpList_append_own _ rfl _ _ 36 rfl w2.heap.size 3 i0 (.int .i64 0) 1 8 Tryd.underlying36 HI.out HZ0.out HZ1.out HZ2.out rfl (by decide) (.slice none 0 0) 0 [] rfl (World.ownsRow_nil _ _ _ _) ⟨w2.heap.size, 0, none⟩ 1 1 [.int .i64 a] rfl rfl (one_c w2 3 (.int .i64 a)) (by simp [Value.oneCell']) (by unfold maxLen; omega) (by omega) (by simp) ?_; intro v3 w3 hown hg _; have HR := Lib.hid (GrI.snoc (x := a) (GrI.nil w2) (fr_al (Fr.refl _ _) _) (by simpa using hown) hg); have HS := Lib.hid HR.out.fr.size; have p2 : w3.cell? ⟨w.heap.size, 2, none⟩ = some (.int .i64 a) := HR.out.fr.cell k2 id; have p3 : w3.cell? ⟨w.heap.size, 3, none⟩ = some (.int .i64 b) := HR.out.fr.cell k3 id; have p9 : w3.cell? ⟨w.heap.size, 9, none⟩ = some (.slice aa n c) := HR.out.fr.cell k9 id; have pr1 : w3.cell? ⟨g, 1, none⟩ = some (.bool true) := HR.out.fr.cell r1 id; have pr2 : w3.cell? ⟨g, 2, none⟩ = some (.bool false) := HR.out.fr.cell r2 id; have pr8 : w3.cell? ⟨g, 8, none⟩ = some (.bool false) := HR.out.fr.cell r8 id;  clear hown hg)))
  go_loopw [3, 5] (fun v q wr => v = v3 ∧ q = .int .i64 0 ∧ wr = w3) (fun _ _ _ => 0)
  case atStart => exact ⟨rfl, rfl, rfl⟩
  case round =>
    obtain ⟨rfl, rfl, rfl⟩ := hrel
    go_wp2
    go_ret
    exact ⟨⟨_, rfl, HR.out.sl⟩, ((fr_al (Fr.refl _ _) _).trans HF.out).trans HR.out.fr⟩
set_option maxRecDepth 100000 in
set_option maxHeartbeats 8000000 in
theorem v0 (op d a b : Int) (y4 y5 y6 y7 y8 y10 : Value) (aa : Option Addr) (n c : Nat) (hr : 1 ≤ op ∧ op ≤ 12) (hA : hasA op = true) (hB : hasB op = false) (hG : hasG op = false) (ha : (a == -1) = true) (w : World) :
    Calls Tryd.prog 17 #[.agg #[.int .i64 op, .int .i64 d, .int .i64 a, .int .i64 b, y4, y5, y6, y7, y8, .slice aa n c, y10]] w fun e w' => (∃ v, e = .returned v ∧ SlInts w' v ([])) ∧ Fr (fun _ => False) w w' := by
  obtain ⟨i0, hi, hz0, hz1, hz2⟩ := info_partsB (show (Tryd.prog.info? 3).map (fun i => (i.zero, i.size, i.bytes)) = some (some (.int .i64 0), 1, 8) by kernel_rfl)
  have HI := Lib.hid hi
  have HZ0 := Lib.hid hz0
  have HZ1 := Lib.hid hz1
  have HZ2 := Lib.hid hz2
  clear hi hz0 hz1 hz2
  have hx := rf_any op hr
  have HFO : Hid (∀ w : World, Calls Tryd.prog 34 #[.int .i64 op] w fun e w' => (∃ g, e = .returned (.slice (some ⟨g, 0, none⟩) 10 10) ∧ w'.cell? ⟨g, 1, none⟩ = some (.bool true) ∧ w'.cell? ⟨g, 2, none⟩ = some (.bool false) ∧ w'.cell? ⟨g, 8, none⟩ = some (.bool false)) ∧ Fr (fun _ => False) w w') := Lib.hid (fun w => (hx w).mono (by
    rintro e w' ⟨⟨g, h1, h2⟩, h3⟩
    exact ⟨⟨g, h1, by rw [h2.a, hA], by rw [h2.b, hB], by rw [h2.s, hG]⟩, h3⟩))
  clear hx hr hA hB hG
  go_enter Tryd.func17, Tryd.ntmps17
  go_wp2_with (first
    | (go_at_call 34; (with_reducible refine (HFO.out _).mono ?_); rintro e w2 ⟨⟨g, rfl, r1, r2, r8⟩, hf⟩; have HF := Lib.hid hf; have k2 : w2.cell? ⟨w.heap.size, 2, none⟩ = some (.int .i64 a) := hf.cell (fcell w _ _ 2 _ rfl) id; have k3 : w2.cell? ⟨w.heap.size, 3, none⟩ = some (.int .i64 b) := hf.cell (fcell w _ _ 3 _ rfl) id; have k9 : w2.cell? ⟨w.heap.size, 9, none⟩ = some (.slice aa n c) := hf.cell (fcell w _ _ 9 _ rfl) id; have H0 := Lib.hid (GrI.nil w2); clear hf))
  go_loopw [3, 5] (fun v q wr => v = (.slice none 0 0) ∧ q = .int .i64 0 ∧ wr = w2) (fun _ _ _ => 0)
  case atStart => exact ⟨rfl, rfl, rfl⟩
  case round =>
    obtain ⟨rfl, rfl, rfl⟩ := hrel
    go_wp2
    go_ret
    exact ⟨⟨_, rfl, H0.out.sl⟩, ((fr_al (Fr.refl _ _) _).trans HF.out).trans H0.out.fr⟩
set_option maxRecDepth 100000 in
set_option maxHeartbeats 8000000 in
theorem z0 (op d a b : Int) (y4 y5 y6 y7 y8 y10 : Value) (aa : Option Addr) (n c : Nat) (hr : 1 ≤ op ∧ op ≤ 12) (hA : hasA op = false) (hB : hasB op = false) (hG : hasG op = false) (w : World) :
    Calls Tryd.prog 17 #[.agg #[.int .i64 op, .int .i64 d, .int .i64 a, .int .i64 b, y4, y5, y6, y7, y8, .slice aa n c, y10]] w fun e w' => (∃ v, e = .returned v ∧ SlInts w' v ([])) ∧ Fr (fun _ => False) w w' := by
  obtain ⟨i0, hi, hz0, hz1, hz2⟩ := info_partsB (show (Tryd.prog.info? 3).map (fun i => (i.zero, i.size, i.bytes)) = some (some (.int .i64 0), 1, 8) by kernel_rfl)
  have HI := Lib.hid hi
  have HZ0 := Lib.hid hz0
  have HZ1 := Lib.hid hz1
  have HZ2 := Lib.hid hz2
  clear hi hz0 hz1 hz2
  have hx := rf_any op hr
  have HFO : Hid (∀ w : World, Calls Tryd.prog 34 #[.int .i64 op] w fun e w' => (∃ g, e = .returned (.slice (some ⟨g, 0, none⟩) 10 10) ∧ w'.cell? ⟨g, 1, none⟩ = some (.bool false) ∧ w'.cell? ⟨g, 2, none⟩ = some (.bool false) ∧ w'.cell? ⟨g, 8, none⟩ = some (.bool false)) ∧ Fr (fun _ => False) w w') := Lib.hid (fun w => (hx w).mono (by
    rintro e w' ⟨⟨g, h1, h2⟩, h3⟩
    exact ⟨⟨g, h1, by rw [h2.a, hA], by rw [h2.b, hB], by rw [h2.s, hG]⟩, h3⟩))
  clear hx hr hA hB hG
  go_enter Tryd.func17, Tryd.ntmps17
  go_wp2_with (first
    | (go_at_call 34; (with_reducible refine (HFO.out _).mono ?_); rintro e w2 ⟨⟨g, rfl, r1, r2, r8⟩, hf⟩; have HF := Lib.hid hf; have k2 : w2.cell? ⟨w.heap.size, 2, none⟩ = some (.int .i64 a) := hf.cell (fcell w _ _ 2 _ rfl) id; have k3 : w2.cell? ⟨w.heap.size, 3, none⟩ = some (.int .i64 b) := hf.cell (fcell w _ _ 3 _ rfl) id; have k9 : w2.cell? ⟨w.heap.size, 9, none⟩ = some (.slice aa n c) := hf.cell (fcell w _ _ 9 _ rfl) id; have H0 := Lib.hid (GrI.nil w2); clear hf))
  go_loopw [3, 5] (fun v q wr => v = (.slice none 0 0) ∧ q = .int .i64 0 ∧ wr = w2) (fun _ _ _ => 0)
  case atStart => exact ⟨rfl, rfl, rfl⟩
  case round =>
    obtain ⟨rfl, rfl, rfl⟩ := hrel
    go_wp2
    go_ret
    exact ⟨⟨_, rfl, H0.out.sl⟩, ((fr_al (Fr.refl _ _) _).trans HF.out).trans H0.out.fr⟩
set_option maxRecDepth 100000 in
set_option maxHeartbeats 8000000 in
theorem uno (op d a b : Int) (y4 y5 y6 y7 y8 y10 : Value) (aa : Option Addr) (n c : Nat) (hr : op < 1 ∨ 12 < op) (w : World) :
    Calls Tryd.prog 17 #[.agg #[.int .i64 op, .int .i64 d, .int .i64 a, .int .i64 b, y4, y5, y6, y7, y8, .slice aa n c, y10]] w fun e w' => (∃ v, e = .returned v ∧ SlInts w' v ([])) ∧ Fr (fun _ => False) w w' := by
  have HFO := Lib.hid (rf_no op hr)
  clear hr
  go_enter Tryd.func17, Tryd.ntmps17
  go_wp2_with (go_at_call 34; (with_reducible refine (HFO.out _).mono ?_); rintro e w2 ⟨rfl, hf⟩; have HF := Lib.hid hf; clear hf)
  go_loopw [3, 5] (fun v q wr => v = .slice none 0 0 ∧ q = .int .i64 0 ∧ wr = w2) (fun _ _ _ => 0)
  case atStart => exact ⟨rfl, rfl, rfl⟩
  case round =>
    obtain ⟨rfl, rfl, rfl⟩ := hrel
    go_wp2
    go_ret
    exact ⟨⟨_, rfl, sl_nil _⟩, (fr_al (Fr.refl _ _) _).trans HF.out⟩
end Go.Proofs.YteghojgdljlplaaDoor
