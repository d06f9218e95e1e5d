/-
  Proved here: of any list of records and any list of words, whether the list begins, or is, what should come out, is what the document says: the law answers true for every input, without a condition.
-/
import Derived.Test.YtipfefkddnogjaaRows
import Derived.Test.YtipfefkddnogjaaArg
import Derived.WalkKit
import Derived.ProofKit
import Derived.OpenShut
namespace Go.Proofs.Ytipfefkddnogjaa.recordBegins
open Go.ChangeShapes Go.WideShapes Go.ChangeAt Go.RowKit Go.Maps
set_option linter.unusedVariables false
set_option linter.unusedSimpArgs false

theorem own : ownKnob Try.prog.godebug = none := by kernel_rfl

theorem whole_of_begins {l : List Rc} {out : List Int} (h : beginsP l out = true) : wholeP l out = (((firsts l).length : Int) == (out.length : Int)) := by
  unfold beginsP at h
  simp only [Bool.and_eq_true, decide_eq_true_eq, beq_iff_eq] at h
  obtain ⟨h1, h2, h3⟩ := h
  have e : (vals l).length = (firsts l).length := by unfold vals; simp
  unfold wholeP
  rw [h1, Bool.true_and, Bool.eq_iff_iff, beq_iff_eq, beq_iff_eq]
  constructor
  · intro h; rw [← e, h]
  · intro h
    rw [h3, List.take_of_length_le (by omega)]
theorem whole_not_begins {l : List Rc} {out : List Int} (h : beginsP l out = false) : wholeP l out = false := by
  cases hw : wholeP l out with
  | false => rfl
  | true =>
    unfold wholeP at hw
    simp only [Bool.and_eq_true, beq_iff_eq] at hw
    obtain ⟨h1, h2⟩ := hw
    have : beginsP l out = true := by
      unfold beginsP; rw [h1, h2]; simp
    rw [h] at this; cases this
set_option maxRecDepth 100000 in
set_option maxHeartbeats 8000000 in
theorem walk (a : Option Addr) (v : Value) (l : List Rc) (c : Nat) (out : List Int) (hr : Rcs l) (hml : l.length ≤ 9223372036854775807) (w : World) (hat : RecAt w a l) (hou : IntV w v out) :
    Calls Try.prog 8 #[.slice a l.length c, v] w fun e w' => e = .returned (.bool true) ∧ w.grownBy w' none := by
  have HA := Lib.hid hat
  have HR := Lib.hid hr
  have HO := Lib.hid hou
  obtain ⟨a', c', rfl, hio⟩ := intV_at hou
  have HI := Lib.hid hio
  have hmo : out.length ≤ 9223372036854775807 := by
    rcases hou with ⟨e, h⟩ | ⟨_, c2, e, h1, h2, _⟩
    · subst h; simp
    · omega
  clear hat hr hou hio
  by_cases h3 : 300 < (l.length : Int)
  · go_enter Try.func8, Try.ntmps8
    go_wp2_with (go_at_call 28; (with_reducible refine (c28 _).mono ?_); rintro e w1 ⟨rfl, hg⟩; have HG := Lib.hid hg; clear hg)
    go_ret
    exact ⟨rfl, HG.out⟩
  · have h3' : (l.length : Int) ≤ 300 := by omega
    clear h3
    by_cases h4 : 300 < (out.length : Int)
    · go_enter Try.func8, Try.ntmps8
      go_wp2_with (go_at_call 28; (with_reducible refine (c28 _).mono ?_); rintro e w1 ⟨rfl, hg⟩; have HG := Lib.hid hg; clear hg)
      go_ret
      exact ⟨rfl, HG.out⟩
    · have h4' : (out.length : Int) ≤ 300 := by omega
      clear h4
      have hl : l.length < 1000000 := by omega
      have hl2 : out.length < 1000000 := by omega
      have K36 : ∀ a1 c1 w, RecAt w a1 l → IntV w (.slice a' out.length c') out → Calls Try.prog 36 #[.slice a1 l.length c1, .slice a' out.length c'] w fun e w' => e = .returned (.bool (beginsP l out)) ∧ w.grownBy w' none := fun a1 c1 w h h' => c36 a1 _ c1 l out hl hl2 HR.out w h h'
      have K37 : ∀ w, RecAt w a l → IntV w (.slice a' out.length c') out → Calls Try.prog 37 #[.slice a l.length c, .slice a' out.length c'] w fun e w' => e = .returned (.bool (beginsP l out)) ∧ w.grownBy w' none := fun w h h' => c37 a _ c l out hl hl2 HR.out w h h'
      have K38 : ∀ w, RecAt w a l → IntAt w a' out → Calls Try.prog 38 #[.slice a l.length c, .slice a' out.length c'] w fun e w' => e = .returned (.bool (wholeP l out)) ∧ w.grownBy w' none := fun w h h' => c38 a a' c c' l out hl HR.out w h h'
      cases hb : beginsP l out
      · rw [whole_not_begins hb] at K38
        rw [hb] at K36 K37
        have H36 := Lib.hid K36
        have H37 := Lib.hid K37
        have H38 := Lib.hid K38
        clear K36 K37 K38 hb
        go_enter Try.func8, Try.ntmps8
        go_wp2_with (first
          | (go_at_call 29; (with_reducible refine (c29 a c l hl w HA.out).mono ?_); rintro e w1 ⟨a1, c1, rfl, h2, hg⟩; have HG := Lib.hid hg; have H2 := Lib.hid h2; clear hg h2)
          | (go_at_call 36; (with_reducible refine (H36.out a1 c1 w1 (by exact H2.out) (by exact intV_by HO.out HG.out)).mono ?_); rintro e w2 ⟨rfl, hg⟩; replace H2 := Lib.hid (recAt_by H2.out hg); replace HG := Lib.hid (HG.out.trans hg); clear hg)
          | (go_at_call 28; (with_reducible refine (c28 _).mono ?_); rintro e w3 ⟨rfl, hg⟩; replace H2 := Lib.hid (recAt_by H2.out hg); replace HG := Lib.hid (HG.out.trans hg); clear hg)
          | (go_at_call 37; (with_reducible refine (H37.out w3 (by exact recAt_by HA.out HG.out) (by exact intV_by HO.out HG.out)).mono ?_); rintro e w4 ⟨rfl, hg⟩; replace H2 := Lib.hid (recAt_by H2.out hg); replace HG := Lib.hid (HG.out.trans hg); clear hg)
          | (go_at_call 38; (with_reducible refine (H38.out w4 (by exact recAt_by HA.out HG.out) (by exact intAt_by HI.out HG.out)).mono ?_); rintro e w5 ⟨rfl, hg⟩; replace H2 := Lib.hid (recAt_by H2.out hg); replace HG := Lib.hid (HG.out.trans hg); clear hg))
        go_ret
        exact ⟨rfl, HG.out⟩
      · rw [whole_of_begins hb] at K38
        rw [hb] at K36 K37
        have K31 : ∀ a1 c1 w, RecAt w a1 l → Calls Try.prog 31 #[.slice a1 l.length c1] w (FirstP l w) := fun a1 c1 w h => c31 a1 c1 l hl w h
        have H36 := Lib.hid K36
        have H37 := Lib.hid K37
        have H38 := Lib.hid K38
        have H31 := Lib.hid K31
        clear K36 K37 K38 K31 hb
        go_enter Try.func8, Try.ntmps8
        go_wp2_with (first
          | (go_at_call 29; (with_reducible refine (c29 a c l hl w HA.out).mono ?_); rintro e w1 ⟨a1, c1, rfl, h2, hg⟩; have HG := Lib.hid hg; have H2 := Lib.hid h2; clear hg h2)
          | (go_at_call 36; (with_reducible refine (H36.out a1 c1 w1 (by exact H2.out) (by exact intV_by HO.out HG.out)).mono ?_); rintro e w2 ⟨rfl, hg⟩; replace H2 := Lib.hid (recAt_by H2.out hg); replace HG := Lib.hid (HG.out.trans hg); clear hg)
          | (go_at_call 28; (with_reducible refine (c28 _).mono ?_); rintro e w3 ⟨rfl, hg⟩; replace H2 := Lib.hid (recAt_by H2.out hg); replace HG := Lib.hid (HG.out.trans hg); clear hg)
          | (go_at_call 37; (with_reducible refine (H37.out w3 (by exact recAt_by HA.out HG.out) (by exact intV_by HO.out HG.out)).mono ?_); rintro e w4 ⟨rfl, hg⟩; replace H2 := Lib.hid (recAt_by H2.out hg); replace HG := Lib.hid (HG.out.trans hg); clear hg)
          | (go_at_call 38; (with_reducible refine (H38.out w4 (by exact recAt_by HA.out HG.out) (by exact intAt_by HI.out HG.out)).mono ?_); rintro e w5 ⟨rfl, hg⟩; replace H2 := Lib.hid (recAt_by H2.out hg); replace HG := Lib.hid (HG.out.trans hg); clear hg)
          | (go_at_call 31; (with_reducible refine (H31.out a1 c1 w5 (by exact H2.out)).mono ?_); rintro e w6 ⟨a3, c3, rfl, _, hg⟩; replace HG := Lib.hid (HG.out.trans hg); clear hg))
        go_ret
        exact ⟨rfl, HG.out⟩

set_option maxRecDepth 100000 in
theorem lifted (os : Os) (started : os.Started) (H : Type) (enc : TypeId × Value → H) :
    ReturnsInHanded {} Try.checked os 8 .any (Rows.recordBeginsSpec.pre6 enc Try.prog Try.f8 Rows.recordBeginsRow.domain false) (Rows.recordBeginsSpec.post enc Try.prog Try.f8 false true false false) := by
  refine returnsInHanded_of_change (C := Try.checked) own started (by kernel_rfl) Try.func8
    (ChangeSpec.witness6 (enc := enc) (C := Try.checked) false ⟨#[], #[.slice none 0 0, .slice none 0 0], []⟩ 8 (by kernel_rfl) (by kernel_rfl) (by kernel_rfl) (by kernel_rfl)) ?_
  intro W base args ds gs before hval0 hW hcnd _
  have hval : ∀ (j : Nat) t v, Try.f8.params[j]? = some t → args[j]? = some v → Value.okWide Try.prog W .any base t v := hval0
  have hW' := hW
  obtain ⟨p, q, hA0, hV, rfl, hfz, hnd⟩ := hW
  have hA : DataW.TrodAll enc Try.prog W 0 (fun _ => true) true Try.f8.params.toList args.toList ds p := hA0
  rw [Try.params8] at hA hval
  obtain ⟨v0, vs0, d0, ds0, p0, q0, hargs, rfl, rfl, h0, r0⟩ := trodAll_cons hA
  obtain ⟨v1, vs1, d1, ds1, p1, q1, rfl, rfl, rfl, h1, r1⟩ := trodAll_cons r0
  obtain ⟨rfl, rfl, rfl⟩ := trodAll_nil r1
  obtain rfl : args = #[v0, v1] := by cases args; simp_all
  obtain ⟨rfl, rfl⟩ := trodVars_none hV
  have hlt : ∀ x ∈ p0 ++ (p1 ++ []), x.block < W.heap.size := fun x hx => by simpa using hW'.lt x (by simpa using hx)
  obtain ⟨b0, m0, k0, rfl⟩ := okWide_slice Try.underlying50 (hval 0 50 v0 rfl rfl)
  obtain ⟨b1, m1, k1, rfl⟩ := okWide_slice Try.underlying39 (hval 1 39 v1 rfl rfl)
  obtain ⟨fuel, hf⟩ := h0
  obtain ⟨fuel1, hf1⟩ := h1
  obtain ⟨a, l, c, hcs, hr, hat, hml⟩ := open_recs hf
  obtain ⟨v, out, hcs1, hou⟩ := open_words hf1
  have h0 : DataW.Trod enc Try.prog W 0 (fun _ => true) true 50 (.slice b0 m0 k0) d0 p0 := ⟨fuel, hf⟩
  have h1 : DataW.Trod enc Try.prog W 0 (fun _ => true) true 39 (.slice b1 m1 k1) d1 p1 := ⟨fuel1, hf1⟩
  simp only [Value.cells, List.cons.injEq, and_true, Value.slice.injEq] at hcs hcs1
  obtain ⟨rfl, rfl, rfl⟩ := hcs
  clear hA0 hval0
  rw [← hcs1] at hou
  refine (walk b0 _ l k0 out hr (by unfold maxLen at hml; omega) W hat hou).mono fun e W' ⟨he, hg⟩ => ?_
  subst he
  have hb := below_by hg
  exact ⟨_, rfl, post_by hW' (trodAll_cons_mk (shut_bool Try.underlying4 _) trodAll_mk0) (trodAll_cons_mk (Below.trod laidOut (by kernel_rfl) (of_decide_eq_true (by kernel_rfl)) h0 hb (fun x hx => hlt x (by simp [hx])))
    (trodAll_cons_mk (Below.trod laidOut (by kernel_rfl) (of_decide_eq_true (by kernel_rfl)) h1 hb (fun x hx => hlt x (by simp [hx]))) trodAll_mk0)) rfl rfl hb⟩

theorem over : Rows.recordBeginsRow.holds Try.pinned (OpenSpec.ofChange Rows.recordBeginsSpec) :=
  OpenClaim.holds_of_wide 8 Try.f8 rfl rfl rfl rfl rfl rfl rfl ⟨rfl, rfl, rfl, rfl, rfl⟩ rfl rfl rfl rfl rfl (by kernel_rfl) Try.func8 (by kernel_rfl)
    (of_decide_eq_true (by kernel_rfl)) (by unfold Func.isWrapper; first | (rw [if_pos (by decide +kernel)]; kernel_rfl) | (rw [if_neg (by decide +kernel)]; exact ⟨rfl, rfl⟩))
    (fun os started H enc _ => lifted os started H enc)

/-- The statement. -/
theorem proved : Rows.RecordBeginsSaid :=
  over
end Go.Proofs.Ytipfefkddnogjaa.recordBegins
