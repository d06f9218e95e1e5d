/-
  Which registers an instruction reads (layer 13): the document's own, of a call.
-/
import Derived.Test.YteghojgdljlplaaDoorTelJ
namespace Go.Proofs.YteghojgdljlplaaDoor
open Go.RowKit
set_option linter.unusedVariables false
set_option linter.unusedSimpArgs false
set_option maxRecDepth 100000 in
set_option maxHeartbeats 8000000 in
theorem ug (op d a b : Int) (y4 y5 y6 y7 y8 y10 : Value) (aa : Option Addr) (n c : Nat) (args : List Int) (hn : n = args.length) (hb : n ≤ 12) (hr : 1 ≤ op ∧ op ≤ 12) (hA : hasA op = false) (hB : hasB op = false) (hG : hasG op = true) (w : World) (hat : IntsAt w aa args) :
    Calls Tryd.prog 17 #[.agg #[.int .i64 op, .int .i64 d, .int .i64 a, .int .i64 b, y4, y5, y6, y7, y8, .slice aa n c, y10]] w fun e w' => (∃ v, e = .returned v ∧ SlInts w' v (args.filter (fun x => x != -1))) ∧ Fr (fun _ => False) w w' := by
  obtain ⟨i0, hi, hz0, hz1, hz2⟩ := info_partsB (show (Tryd.prog.info? 3).map (fun i => (i.zero, i.size, i.bytes)) = some (some (.int .i64 0), 1, 8) by kernel_rfl)
  have HI := Lib.hid hi
  have HZ0 := Lib.hid hz0
  have HZ1 := Lib.hid hz1
  have HZ2 := Lib.hid hz2
  clear hi hz0 hz1 hz2
  have hx := rf_any op hr
  have HFO : Hid (∀ w : World, Calls Tryd.prog 34 #[.int .i64 op] w fun e w' => (∃ g, e = .returned (.slice (some ⟨g, 0, none⟩) 10 10) ∧ w'.cell? ⟨g, 1, none⟩ = some (.bool false) ∧ w'.cell? ⟨g, 2, none⟩ = some (.bool false) ∧ w'.cell? ⟨g, 8, none⟩ = some (.bool true)) ∧ Fr (fun _ => False) w w') := Lib.hid (fun w => (hx w).mono (by
    rintro e w' ⟨⟨g, h1, h2⟩, h3⟩
    exact ⟨⟨g, h1, by rw [h2.a, hA], by rw [h2.b, hB], by rw [h2.s, hG]⟩, h3⟩))
  clear hx hr hA hB hG
  have HN := Lib.hid hn
  have HAT := Lib.hid hat
  clear hn hat
  go_enter Tryd.func17, Tryd.ntmps17
  go_wp2_with (go_at_call 34; (with_reducible refine (HFO.out _).mono ?_); rintro e w2 ⟨⟨g, rfl, r1, r2, r8⟩, hf⟩; have HF := Lib.hid hf; have k2 : w2.cell? ⟨w.heap.size, 2, none⟩ = some (.int .i64 a) := hf.cell (fcell w _ _ 2 _ rfl) id; have k3 : w2.cell? ⟨w.heap.size, 3, none⟩ = some (.int .i64 b) := hf.cell (fcell w _ _ 3 _ rfl) id; have k9 : w2.cell? ⟨w.heap.size, 9, none⟩ = some (.slice aa n c) := hf.cell (fcell w _ _ 9 _ rfl) id; have HX := Lib.hid (HAT.out.fr ((fr_al (Fr.refl _ _) _).trans hf)); clear hf)
  go_loopw [3, 5] (fun v q wr => ∃ k : Nat, q = .int .i64 k ∧ k ≤ n ∧ Hid (GrI w2 wr v (keepK args k))) (fun _ q _ => n - (intOf q).toNat)
  case atStart => exact ⟨0, rfl, Nat.zero_le _, Lib.hid (by simpa [keepK] using GrI.nil w2)⟩
  case round =>
    obtain ⟨k, rfl, hk, HW⟩ := hrel
    have p9 : wr.cell? ⟨w.heap.size, 9, none⟩ = some (.slice aa n c) := HW.out.fr.cell k9 id
    have pr8 : wr.cell? ⟨g, 8, none⟩ = some (.bool true) := HW.out.fr.cell r8 id
    by_cases hlt : k < n
    · obtain ⟨gg, oo, rfl, C⟩ := HX.out k (by rw [← HN.out]; exact hlt)
      have C := HW.out.fr.cell C id
      obtain ⟨x, hx⟩ : ∃ x, args.getD k 0 = x := ⟨_, rfl⟩
      rw [hx] at C
      have hlk : (keepK args k).length ≤ 12 := by
        have := List.length_filter_le (fun x => x != -1) (args.take k)
        have e := HN.out
        unfold keepK
        rw [List.length_take] at this
        omega
      by_cases e : x = -1
      · subst e
        have HV : Hid (GrI w2 wr u3 (keepK args (k + 1))) := Lib.hid (by rw [keepK_no (by rw [← HN.out]; exact hlt) hx]; exact HW.out)
        clear hx
        go_wp2
        go_roundw
        case rel => exact ⟨k + 1, by go_num, by omega, HV⟩
        case measure => simp [intOf]; omega
      · have HK := Lib.hid (show keepK args (k + 1) = keepK args k ++ [x] by rw [keepK_yes (by rw [← HN.out]; exact hlt) (by rw [hx]; exact e), hx])
        have e' : (x == -1) = false := by simpa using e
        have HS := Lib.hid HW.out.fr.size
        clear hx e
        go_wp2_with (at_builtin; go_loud (refine wpList_append_own _ rfl _ _ 36 rfl w2.heap.size 3 i0 (.int .i64 0) 1 8 Tryd.underlying36 HI.out HZ0.out HZ1.out HZ2.out rfl (by decide) u3 (keepK args k).length ((keepK args k).map (Value.int .i64)) rfl (by have := (HW.out.keep (fr_al (Fr.refl _ wr) (.cells #[.int .i64 x] 3))).num; exact this) ⟨wr.heap.size, 0, none⟩ 1 1 [.int .i64 x] rfl rfl (one_c wr 3 (.int .i64 x)) (by simp [Value.oneCell']) (by unfold maxLen; omega) (by omega) (by have := HS.out; simp at this ⊢; omega) ?_; intro v4 w4 hown hg _; have HV : Hid (GrI w2 w4 v4 (keepK args (k + 1))) := Lib.hid (by rw [HK.out]; exact GrI.snoc (x := x) HW.out (fr_al (Fr.refl _ _) _) hown hg); clear hown hg))
        go_roundw
        case rel => exact ⟨k + 1, by go_num, by omega, HV⟩
        case measure => simp [intOf]; omega
    · obtain rfl : k = n := by omega
      go_wp2
      go_ret
      have e := keepK_len args
      rw [← HN.out] at e
      exact ⟨⟨_, rfl, by rw [← e]; exact HW.out.sl⟩, ((fr_al (Fr.refl _ _) _).trans HF.out).trans HW.out.fr⟩
end Go.Proofs.YteghojgdljlplaaDoor
