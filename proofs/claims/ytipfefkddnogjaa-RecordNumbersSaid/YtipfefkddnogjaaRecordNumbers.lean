/-
  Proved here: of any consistent list of records the first records have the numbers 0, 1, 2 and so on: the law answers true for every input, without a condition.
-/
import Derived.Test.YtipfefkddnogjaaRows
import Derived.Test.YtipfefkddnogjaaArg
import Derived.WalkKit
import Derived.ProofKit
import Derived.OpenShut
namespace Go.Proofs.Ytipfefkddnogjaa.recordNumbers
open Go.ChangeShapes Go.WideShapes Go.ChangeAt Go.RowKit Go.Maps
set_option linter.unusedVariables false
set_option linter.unusedSimpArgs false

theorem own : ownKnob Try.prog.godebug = none := by kernel_rfl

set_option maxRecDepth 100000 in
set_option maxHeartbeats 8000000 in
theorem walk (a : Option Addr) (l : List Rc) (c : Nat) (hr : Rcs l) (hml : l.length ≤ 9223372036854775807) (w : World) (hat : RecAt w a l) :
    Calls Try.prog 9 #[.slice a l.length c] w fun e w' => e = .returned (.bool true) ∧ w.grownBy w' none := by
  have HA := Lib.hid hat
  have HR := Lib.hid hr
  clear hat hr
  by_cases h3 : 300 < (l.length : Int)
  · go_enter Try.func9, Try.ntmps9
    go_wp2_with (go_at_call 28; (with_reducible refine (c28 _).mono ?_); rintro e w1 ⟨rfl, hg⟩; have HG := Lib.hid hg; clear hg)
    go_ret
    exact ⟨rfl, HG.out⟩
  · have h3' : (l.length : Int) ≤ 300 := by omega
    have hl : l.length < 1000000 := by omega
    have K34 : ∀ w, RecAt w a l → Calls Try.prog 34 #[.slice a l.length c] w fun e w' => e = .returned (.bool (ordP l)) ∧ w.grownBy w' none := fun w h => c34 a c l hl HR.out w h
    cases ho : ordP l
    · rw [ho] at K34
      have H34 := Lib.hid K34
      clear K34 ho h3
      go_enter Try.func9, Try.ntmps9
      go_wp2_with (first
        | (go_at_call 34; (with_reducible refine (H34.out w HA.out).mono ?_); rintro e w1 ⟨rfl, hg⟩; have HG := Lib.hid hg; clear hg)
        | (go_at_call 28; (with_reducible refine (c28 _).mono ?_); rintro e w2 ⟨rfl, hg⟩; have HG2 := Lib.hid (HG.out.trans hg); clear hg))
      go_ret
      exact ⟨rfl, HG2.out⟩
    · rw [ho] at K34
      have H34 := Lib.hid K34
      have HN := Lib.hid (ord_numbers (l := l) (k := l.length) (Nat.le_refl _) ho)
      have hf := length_firsts l
      clear K34 ho h3
      go_enter Try.func9, Try.ntmps9
      go_wp2_with (first
        | (go_at_call 34; (with_reducible refine (H34.out w HA.out).mono ?_); rintro e w1 ⟨rfl, hg⟩; have HG := Lib.hid hg; clear hg)
        | (go_at_call 30; (with_reducible refine (c30 a c l hl HR.out w1 (by exact recAt_by HA.out HG.out)).mono ?_); rintro e w2 ⟨a1, c1, rfl, h2, hg⟩; have HG2 := Lib.hid (HG.out.trans hg); have H2 := Lib.hid h2; clear hg h2))
      have hfe : Hid (firsts (l.take l.length) = firsts l) := Lib.hid (by rw [List.take_length])
      generalize firsts l = fl at *
      have HB0 := Lib.hid (by_refl w2)
      go_loopw [4] (fun q wr => ∃ k : Nat, k ≤ fl.length ∧ q = .int .i64 k ∧ Hid (w2.grownBy wr none)) (fun q _ => fl.length - (intOf q).toNat)
      case atStart => exact ⟨0, by omega, rfl, HB0⟩
      case round =>
        obtain ⟨k, hk, rfl, HW⟩ := hrel
        clear HB0
        by_cases hlt : k < fl.length
        · obtain ⟨b, o, rfl, c0, c1'⟩ := recAt_by H2.out HW.out k hlt
          have hn := HN.out k (by rw [hfe.out]; exact hlt)
          rw [hfe.out] at hn
          rw [hn] at c0
          have hlt' : (k : Int) < fl.length := by omega
          have hge : (0 : Int) ≤ k := by omega
          have hle : (k : Int) ≤ 300 := by omega
          clear hn c1'
          go_wp2
          go_roundw
          case rel => exact ⟨k + 1, by omega, by go_num, HW⟩
          case measure => simp [intOf]; omega
        · have hk4 : k = fl.length := by omega
          subst hk4
          go_wp2_with (go_at_call 28; (with_reducible refine (c28 _).mono ?_); rintro e w3 ⟨rfl, hg⟩; have HG3 := Lib.hid ((HG2.out.trans HW.out).trans hg); clear hg)
          go_ret
          exact ⟨rfl, HG3.out⟩

set_option maxRecDepth 100000 in
theorem lifted (os : Os) (started : os.Started) (H : Type) (enc : TypeId × Value → H) :
    ReturnsInHanded {} Try.checked os 9 .any (Rows.recordNumbersSpec.pre6 enc Try.prog Try.f9 Rows.recordNumbersRow.domain false) (Rows.recordNumbersSpec.post enc Try.prog Try.f9 false true false false) := by
  refine returnsInHanded_of_change (C := Try.checked) own started (by kernel_rfl) Try.func9
    (ChangeSpec.witness6 (enc := enc) (C := Try.checked) false ⟨#[], #[.slice none 0 0], []⟩ 8 (by kernel_rfl) (by kernel_rfl) (by kernel_rfl) (by kernel_rfl)) ?_
  intro W base args ds gs before hval0 hW hcnd _
  have hval : ∀ (j : Nat) t v, Try.f9.params[j]? = some t → args[j]? = some v → Value.okWide Try.prog W .any base t v := hval0
  have hW' := hW
  obtain ⟨p, q, hA0, hV, rfl, hfz, hnd⟩ := hW
  have hA : DataW.TrodAll enc Try.prog W 0 (fun _ => true) true Try.f9.params.toList args.toList ds p := hA0
  rw [Try.params9] at hA hval
  obtain ⟨v0, vs0, d0, ds0, p0, q0, hargs, rfl, rfl, h0, r0⟩ := trodAll_cons hA
  obtain ⟨rfl, rfl, rfl⟩ := trodAll_nil r0
  obtain rfl : args = #[v0] := by cases args; simp_all
  obtain ⟨rfl, rfl⟩ := trodVars_none hV
  have hlt : ∀ x ∈ p0 ++ [], x.block < W.heap.size := fun x hx => by simpa using hW'.lt x (by simpa using hx)
  obtain ⟨b0, m0, k0, rfl⟩ := okWide_slice Try.underlying50 (hval 0 50 v0 rfl rfl)
  obtain ⟨fuel, hf⟩ := h0
  obtain ⟨a, l, c, hcs, hr, hat, hml⟩ := open_recs hf
  have h0 : DataW.Trod enc Try.prog W 0 (fun _ => true) true 50 (.slice b0 m0 k0) d0 p0 := ⟨fuel, hf⟩
  simp only [Value.cells, List.cons.injEq, and_true, Value.slice.injEq] at hcs
  obtain ⟨rfl, rfl, rfl⟩ := hcs
  clear hA0 hval0
  refine (walk b0 l k0 hr (by unfold maxLen at hml; omega) W hat).mono fun e W' ⟨he, hg⟩ => ?_
  subst he
  have hb := below_by hg
  exact ⟨_, rfl, post_by hW' (trodAll_cons_mk (shut_bool Try.underlying4 _) trodAll_mk0) (trodAll_cons_mk (Below.trod laidOut (by kernel_rfl) (of_decide_eq_true (by kernel_rfl)) h0 hb (fun x hx => hlt x (by simpa using hx))) trodAll_mk0) rfl rfl hb⟩

theorem over : Rows.recordNumbersRow.holds Try.pinned (OpenSpec.ofChange Rows.recordNumbersSpec) :=
  OpenClaim.holds_of_wide 9 Try.f9 rfl rfl rfl rfl rfl rfl rfl ⟨rfl, rfl, rfl, rfl, rfl⟩ rfl rfl rfl rfl rfl (by kernel_rfl) Try.func9 (by kernel_rfl)
    (of_decide_eq_true (by kernel_rfl)) (by unfold Func.isWrapper; first | (rw [if_pos (by decide +kernel)]; kernel_rfl) | (rw [if_neg (by decide +kernel)]; exact ⟨rfl, rfl⟩))
    (fun os started H enc _ => lifted os started H enc)

/-- The statement. -/
theorem proved : Rows.RecordNumbersSaid :=
  over
end Go.Proofs.Ytipfefkddnogjaa.recordNumbers
