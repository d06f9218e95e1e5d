/-
  Proved here: of any list of records, which are no replays, how many are, and whether the list is consistent, are what the document says: the law answers true for every input, without a condition.
-/
import Derived.Test.YtipfefkddnogjaaRows
import Derived.Test.YtipfefkddnogjaaArg
import Derived.WalkKit
import Derived.ProofKit
import Derived.OpenShut
namespace Go.Proofs.Ytipfefkddnogjaa.recordFirsts
open Go.ChangeShapes Go.WideShapes Go.ChangeAt Go.RowKit Go.Maps
set_option linter.unusedVariables false
set_option linter.unusedSimpArgs false

theorem own : ownKnob Try.prog.godebug = none := by kernel_rfl

set_option maxRecDepth 100000 in
set_option maxHeartbeats 16000000 in
theorem walk (a : Option Addr) (l : List Rc) (c : Nat) (hr : Rcs l) (hml : l.length ≤ 9223372036854775807) (w : World) (hat : RecAt w a l) :
    Calls Try.prog 7 #[.slice a l.length c] w fun e w' => e = .returned (.bool true) ∧ w.grownBy w' none := by
  have HA := Lib.hid hat
  have HR := Lib.hid hr
  clear hat hr
  by_cases h3 : 300 < (l.length : Int)
  · go_enter Try.func7, Try.ntmps7
    go_wp2_with (go_at_call 28; (with_reducible refine (c28 _).mono ?_); rintro e w1 ⟨rfl, hg⟩; have HG := Lib.hid hg; clear hg)
    go_ret
    exact ⟨rfl, HG.out⟩
  · have h3' : (l.length : Int) ≤ 300 := by omega
    have hl : l.length < 1000000 := by omega
    have hf := length_firsts l
    have hlf : (firsts l).length < 1000000 := by omega
    have K29 : ∀ a c w, RecAt w a (firsts l) → Calls Try.prog 29 #[.slice a (firsts l).length c] w (RefP (firsts l) w) := fun a c w h => c29 a c (firsts l) hlf w h
    have K31 : ∀ a c w, RecAt w a l → Calls Try.prog 31 #[.slice a l.length c] w (FirstP l w) := fun a c w h => c31 a c l hl w h
    have K32 : ∀ w, RecAt w a l → Calls Try.prog 32 #[.slice a l.length c] w (ValsP l w) := fun w h => c32 a c l hl HR.out w h
    have K33 : ∀ w, RecAt w a l → Calls Try.prog 33 #[.slice a l.length c] w fun e w' => e = .returned (.int .i64 ((l.length : Int) - (firsts l).length)) ∧ w.grownBy w' none := fun w h => c33 a c l hl HR.out w h
    have K34 : ∀ w, RecAt w a l → Calls Try.prog 34 #[.slice a l.length c] w fun e w' => e = .returned (.bool (ordP l)) ∧ w.grownBy w' none := fun w h => c34 a c l hl HR.out w h
    have K35 : ∀ a c w, RecAt w a l → Calls Try.prog 35 #[.slice a l.length c] w fun e w' => e = .returned (.bool (ordP l)) ∧ w.grownBy w' none := fun a c w h => c35 a c l hl HR.out w h
    have hvl : Hid ((vals l).length = (firsts l).length) := Lib.hid (by unfold vals; simp)
    have hvg := Lib.hid (fun k => vals_getD (l := l) (k := k))
    have H29 := Lib.hid K29
    have H31 := Lib.hid K31
    have H32 := Lib.hid K32
    have H33 := Lib.hid K33
    have H34 := Lib.hid K34
    have H35 := Lib.hid K35
    clear K29 K31 K32 K33 K34 K35 h3
    go_enter Try.func7, Try.ntmps7
    go_wp2_with (first
      | (go_at_call 29; (with_reducible refine (c29 a c l hl w (by exact HA.out)).mono ?_); rintro e w1 ⟨a1, c1, rfl, h2, hg⟩; have HG := Lib.hid hg; have HR1 := Lib.hid h2; clear hg h2)
      | (go_at_call 30; (with_reducible refine (c30 a c l hl HR.out w1 (by exact recAt_by HA.out HG.out)).mono ?_); rintro e w2 ⟨a2, c2, rfl, h2, hg⟩; have HF := Lib.hid h2; replace HR1 := Lib.hid (recAt_by HR1.out hg); replace HG := Lib.hid (HG.out.trans hg); clear hg h2)
      | (go_at_call 29; (with_reducible refine (H29.out a2 c2 w2 (by exact HF.out)).mono ?_); rintro e w3 ⟨a3, c3, rfl, h2, hg⟩; have HA3 := Lib.hid h2; replace HR1 := Lib.hid (recAt_by HR1.out hg); replace HG := Lib.hid (HG.out.trans hg); clear hg h2)
      | (go_at_call 31; (with_reducible refine (H31.out a1 c1 w3 (by exact HR1.out)).mono ?_); rintro e w4 ⟨a4, c4, rfl, h2, hg⟩; have HB4 := Lib.hid h2; replace HA3 := Lib.hid (recAt_by HA3.out hg); replace HR1 := Lib.hid (recAt_by HR1.out hg); replace HG := Lib.hid (HG.out.trans hg); clear hg h2)
      | (go_at_call 32; (with_reducible refine (H32.out w4 (by exact recAt_by HA.out HG.out)).mono ?_); rintro e w5 ⟨a5, c5, rfl, h2, hg⟩; have HV5 := Lib.hid h2; replace HB4 := Lib.hid (recAt_by HB4.out hg); replace HA3 := Lib.hid (recAt_by HA3.out hg); replace HR1 := Lib.hid (recAt_by HR1.out hg); replace HG := Lib.hid (HG.out.trans hg); clear hg h2; rw [hvl.out])
      | (go_at_call 33; (with_reducible refine (H33.out w5 (by exact recAt_by HA.out HG.out)).mono ?_); rintro e w6 ⟨rfl, hg⟩; replace HV5 := Lib.hid (intAt_by HV5.out hg); replace HB4 := Lib.hid (recAt_by HB4.out hg); replace HA3 := Lib.hid (recAt_by HA3.out hg); replace HR1 := Lib.hid (recAt_by HR1.out hg); replace HG := Lib.hid (HG.out.trans hg); clear hg)
      | (go_at_call 34; (with_reducible refine (H34.out w6 (by exact recAt_by HA.out HG.out)).mono ?_); rintro e w7 ⟨rfl, hg⟩; replace HV5 := Lib.hid (intAt_by HV5.out hg); replace HB4 := Lib.hid (recAt_by HB4.out hg); replace HA3 := Lib.hid (recAt_by HA3.out hg); replace HR1 := Lib.hid (recAt_by HR1.out hg); replace HG := Lib.hid (HG.out.trans hg); clear hg)
      | (go_at_call 35; (with_reducible refine (H35.out a1 c1 w7 (by exact HR1.out)).mono ?_); rintro e w8 ⟨rfl, hg⟩; replace HV5 := Lib.hid (intAt_by HV5.out hg); replace HB4 := Lib.hid (recAt_by HB4.out hg); replace HA3 := Lib.hid (recAt_by HA3.out hg); replace HR1 := Lib.hid (recAt_by HR1.out hg); replace HG := Lib.hid (HG.out.trans hg); clear hg))
    clear H29 H31 H32 H33 H34 H35
    generalize firsts l = fl at *
    have HB0 := Lib.hid (by_refl w8)
    go_loopw [7] (fun q wr => ∃ k : Nat, k ≤ fl.length ∧ q = .int .i64 k ∧ Hid (w8.grownBy wr none)) (fun q _ => fl.length - (intOf q).toNat)
    case atStart => exact ⟨0, by omega, rfl, HB0⟩
    case round =>
      obtain ⟨k, hk, rfl, HW⟩ := hrel
      clear HB0
      by_cases hlt : k < fl.length
      · obtain ⟨b3, o3, rfl, x0, x1⟩ := recAt_by HA3.out HW.out k hlt
        obtain ⟨b4, o4, rfl, y0, y1⟩ := recAt_by HB4.out HW.out k hlt
        obtain ⟨b5, o5, rfl, z0⟩ := intAt_by HV5.out HW.out k (by rw [hvl.out]; exact hlt)
        rw [hvg.out k hlt] at z0
        have hlt' : (k : Int) < fl.length := by omega
        have hge : (0 : Int) ≤ k := by omega
        generalize fl.getD k (0, 0) = r at *
        go_wp2
        go_quiet (fail)
        go_wp2
        go_roundw
        case rel => exact ⟨k + 1, by omega, by go_num, Lib.hid (by_drewN HW.out _)⟩
        case measure => simp [intOf]; omega
      · have hk4 : k = fl.length := by omega
        subst hk4
        go_wp2_with (go_at_call 28; (with_reducible refine (c28 _).mono ?_); rintro e w9 ⟨rfl, hg⟩; have HG3 := Lib.hid ((HG.out.trans HW.out).trans hg); clear hg)
        go_ret
        exact ⟨rfl, HG3.out⟩

set_option maxRecDepth 100000 in
theorem lifted (os : Os) (started : os.Started) (H : Type) (enc : TypeId × Value → H) :
    ReturnsInHanded {} Try.checked os 7 .any (Rows.recordFirstsSpec.pre6 enc Try.prog Try.f7 Rows.recordFirstsRow.domain false) (Rows.recordFirstsSpec.post enc Try.prog Try.f7 false true false false) := by
  refine returnsInHanded_of_change (C := Try.checked) own started (by kernel_rfl) Try.func7
    (ChangeSpec.witness6 (enc := enc) (C := Try.checked) false ⟨#[], #[.slice none 0 0], []⟩ 8 (by kernel_rfl) (by kernel_rfl) (by kernel_rfl) (by kernel_rfl)) ?_
  intro W base args ds gs before hval0 hW hcnd _
  have hval : ∀ (j : Nat) t v, Try.f7.params[j]? = some t → args[j]? = some v → Value.okWide Try.prog W .any base t v := hval0
  have hW' := hW
  obtain ⟨p, q, hA0, hV, rfl, hfz, hnd⟩ := hW
  have hA : DataW.TrodAll enc Try.prog W 0 (fun _ => true) true Try.f7.params.toList args.toList ds p := hA0
  rw [Try.params7] at hA hval
  obtain ⟨v0, vs0, d0, ds0, p0, q0, hargs, rfl, rfl, h0, r0⟩ := trodAll_cons hA
  obtain ⟨rfl, rfl, rfl⟩ := trodAll_nil r0
  obtain rfl : args = #[v0] := by cases args; simp_all
  obtain ⟨rfl, rfl⟩ := trodVars_none hV
  have hlt : ∀ x ∈ p0 ++ [], x.block < W.heap.size := fun x hx => by simpa using hW'.lt x (by simpa using hx)
  obtain ⟨b0, m0, k0, rfl⟩ := okWide_slice Try.underlying50 (hval 0 50 v0 rfl rfl)
  obtain ⟨fuel, hf⟩ := h0
  obtain ⟨a, l, c, hcs, hr, hat, hml⟩ := open_recs hf
  have h0 : DataW.Trod enc Try.prog W 0 (fun _ => true) true 50 (.slice b0 m0 k0) d0 p0 := ⟨fuel, hf⟩
  simp only [Value.cells, List.cons.injEq, and_true, Value.slice.injEq] at hcs
  obtain ⟨rfl, rfl, rfl⟩ := hcs
  clear hA0 hval0
  refine (walk b0 l k0 hr (by unfold maxLen at hml; omega) W hat).mono fun e W' ⟨he, hg⟩ => ?_
  subst he
  have hb := below_by hg
  exact ⟨_, rfl, post_by hW' (trodAll_cons_mk (shut_bool Try.underlying4 _) trodAll_mk0) (trodAll_cons_mk (Below.trod laidOut (by kernel_rfl) (of_decide_eq_true (by kernel_rfl)) h0 hb (fun x hx => hlt x (by simpa using hx))) trodAll_mk0) rfl rfl hb⟩

theorem over : Rows.recordFirstsRow.holds Try.pinned (OpenSpec.ofChange Rows.recordFirstsSpec) :=
  OpenClaim.holds_of_wide 7 Try.f7 rfl rfl rfl rfl rfl rfl rfl ⟨rfl, rfl, rfl, rfl, rfl⟩ rfl rfl rfl rfl rfl (by kernel_rfl) Try.func7 (by kernel_rfl)
    (of_decide_eq_true (by kernel_rfl)) (by unfold Func.isWrapper; first | (rw [if_pos (by decide +kernel)]; kernel_rfl) | (rw [if_neg (by decide +kernel)]; exact ⟨rfl, rfl⟩))
    (fun os started H enc _ => lifted os started H enc)

/-- The statement. -/
theorem proved : Rows.RecordFirstsSaid :=
  over
end Go.Proofs.Ytipfefkddnogjaa.recordFirsts
