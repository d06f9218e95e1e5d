/-
  Proved here: for any dividend and any divisor other than 0, the quotient times the divisor plus the remainder is the dividend, and the remainder is smaller than the divisor and has the sign of the dividend: the law answers true for every input, without a condition.
-/
import Derived.Test.YtkocgnnaolnilaaRows
import Derived.Test.YtkocgnnaolnilaaShift
import Derived.Test.YtkocgnnaolnilaaMath2
import Derived.WalkKit
import Derived.ProofKit
import Derived.OpenShut
namespace Go.Proofs.Ytkocgnnaolnilaa.wordDivides
open Go.ChangeShapes Go.WideShapes Go.ChangeAt Go.RowKit
set_option linter.unusedVariables false      -- a walk need not use every 'w<i>' (that an integer argument fits its kind)

theorem own : ownKnob Try.prog.godebug = none := by kernel_rfl

/-! ### STEP 1: THE WALK: the Go text returns true. 'Grown w w'': the world has at most new blocks (Derived/RowKit3.lean). Part the cases AHEAD of 'go_enter' where a test parts the walk; take each callee by a contract of your own. -/
set_option maxHeartbeats 4000000 in
theorem walk (a0 : Int) (a1 : Int) (w0 : (Lit.int .u32 a0).wf = true) (w1 : (Lit.int .u32 a1).wf = true) (w : World) :
    Calls Try.prog 9 #[.int .u32 a0, .int .u32 a1] w fun e w' => e = .returned (.bool true) ∧ Grown w w' := by
  obtain ⟨h0, h1⟩ := wf_u32 w0
  obtain ⟨g0, g1⟩ := wf_u32 w1
  clear w0 w1
  have HG := Lib.hid (Grown.refl w)
  by_cases hb : a1 = 0
  · subst hb
    go_enter Try.func9, Try.ntmps9
    go_wp2_with (first
    | (go_at_call 15; (with_reducible refine (c15 _).mono ?_); rintro e w' ⟨rfl, hg⟩; replace HG := Lib.hid (grown_trans HG.out hg); clear hg))
    go_ret
    exact ⟨rfl, HG.out⟩
  have hb1 : 1 ≤ a1 := by omega
  have hby : sg a1 ≠ 0 := by have := sg_zero g0 g1; omega
  have eU : divUF a0 a1 = a0 / a1 := by unfold divUF; rw [if_neg hb]
  have eV : remUF a0 a1 = a0 % a1 := by unfold remUF; rw [if_neg hb]
  obtain ⟨u0, u1⟩ := remU_in (a := a0) hb1 g1
  obtain ⟨v0, v1⟩ := divU_in (b := a1) h0 h1 g0
  obtain ⟨B1, B2⟩ := divU_back h0 h1 hb1
  have B3 := div_back h0 h1 g0 g1 hb
  have C32 := c32 a0 a1 h0 h1 g0 g1
  have C34 := c34 a0 a1 h0 h1 g0 g1
  rw [eU] at C32
  rw [eV] at C34
  generalize a0 / a1 = qu at *
  generalize a0 % a1 = ru at *
  have C28 := c28 a0 a1 h0 h1 g0 g1
  have C30 := c30 a0 a1 h0 h1 g0 g1
  obtain ⟨tl, th⟩ := tmod_in (x := sg a0) (y := sg a1) (sg_lo g0 g1) (sg_hi g0 g1) hby
  obtain ⟨f1, f2, f3, f4⟩ := tmod_facts (sg a0) (sg a1) hby
  have ez : sg (remF a0 a1) = (sg a0).tmod (sg a1) := by unfold remF; rw [if_neg hb]; exact sg_of_mod tl (by have := sg_hi g0 g1; have := sg_lo g0 g1; omega)
  obtain ⟨d0, d1⟩ : 0 ≤ divF a0 a1 ∧ divF a0 a1 ≤ 4294967295 := by unfold divF; rw [if_neg hb]; exact mod_in _
  obtain ⟨m0, m1⟩ : 0 ≤ remF a0 a1 ∧ remF a0 a1 ≤ 4294967295 := by unfold remF; rw [if_neg hb]; exact mod_in _
  obtain ⟨n0, n1⟩ : 0 ≤ mulF (divF a0 a1) a1 ∧ mulF (divF a0 a1) a1 ≤ 4294967295 := mod_in _
  obtain ⟨o0, o1⟩ : 0 ≤ mulF qu a1 ∧ mulF qu a1 ≤ 4294967295 := mod_in _
  have C50c := c50 (remF a0 a1) m0 m1
  rw [ez] at C50c
  have C16a := c16 (mulF (divF a0 a1) a1) (remF a0 a1) n0 n1 m0 m1
  rw [B3] at C16a
  have C16b := c16 (mulF qu a1) ru o0 o1 u0 u1
  rw [B1] at C16b
  have K20a := Lib.hid (c20 (divF a0 a1) a1 d0 d1 g0 g1)
  have K20b := Lib.hid (c20 qu a1 v0 v1 g0 g1)
  have K50a := Lib.hid (c50 a0 h0 h1)
  have K50b := Lib.hid (c50 a1 g0 g1)
  have l1 := sg_lo h0 h1
  have l2 := sg_hi h0 h1
  have l3 := sg_lo g0 g1
  have l4 := sg_hi g0 g1
  have K32 := Lib.hid C32
  have K34 := Lib.hid C34
  have K28 := Lib.hid C28
  have K30 := Lib.hid C30
  have K50c := Lib.hid C50c
  have K16a := Lib.hid C16a
  have K16b := Lib.hid C16b
  clear C32 C34 C28 C30 C50c C16a C16b eU eV ez B1 B3
  generalize (sg a0).tmod (sg a1) = z at *
  generalize sg a0 = x at *
  generalize sg a1 = y at *
  have hz : x < 0 ∧ z ≤ 0 ∨ 0 ≤ x ∧ x ≤ 0 ∧ 0 ≤ z ∧ z ≤ 0 ∨ 0 < x ∧ 0 ≤ z := by omega
  have hzy : y < 0 ∧ y < z ∧ z < -y ∨ 0 < y ∧ -y < z ∧ z < y := by omega
  have hzn : (z < 0 ∨ 0 < z) ∨ 0 ≤ z ∧ z ≤ 0 := by omega
  clear f1 f2 f3 f4 hb
  rcases hz with ⟨i1, i2⟩ | ⟨i1, i2, i3, i4⟩ | ⟨i1, i2⟩ <;> rcases hzy with ⟨j1, j2, j3⟩ | ⟨j1, j2, j3⟩
  all_goals
    go_enter Try.func9, Try.ntmps9
    go_wp2_with (first
      | (go_at_call 15; (with_reducible refine (c15 _).mono ?_); rintro e w' ⟨rfl, hg⟩; replace HG := Lib.hid (grown_trans HG.out hg); clear hg)
      | (go_at_call 30; (with_reducible refine (K30.out _).mono ?_); rintro e w' ⟨rfl, rfl⟩)
      | (go_at_call 34; (with_reducible refine (K34.out _).mono ?_); rintro e w' ⟨rfl, rfl⟩)
      | (go_at_call 28; (with_reducible refine (K28.out _).mono ?_); rintro e w' ⟨rfl, rfl⟩)
      | (go_at_call 32; (with_reducible refine (K32.out _).mono ?_); rintro e w' ⟨rfl, rfl⟩)
      | (go_at_call 50; (with_reducible refine (K50a.out _).mono ?_); rintro e w' ⟨rfl, rfl⟩)
      | (go_at_call 50; (with_reducible refine (K50b.out _).mono ?_); rintro e w' ⟨rfl, rfl⟩)
      | (go_at_call 50; (with_reducible refine (K50c.out _).mono ?_); rintro e w' ⟨rfl, rfl⟩)
      | (go_at_call 20; (with_reducible refine (K20a.out _).mono ?_); rintro e w' ⟨rfl, rfl⟩)
      | (go_at_call 20; (with_reducible refine (K20b.out _).mono ?_); rintro e w' ⟨rfl, rfl⟩)
      | (go_at_call 16; (with_reducible refine (K16a.out _).mono ?_); rintro e w' ⟨rfl, rfl⟩)
      | (go_at_call 16; (with_reducible refine (K16b.out _).mono ?_); rintro e w' ⟨rfl, rfl⟩))
    go_ret
    exact ⟨rfl, HG.out⟩

/-! ### THE ROW's STEP: WRITTEN OUT: LEAVE IT -/
set_option maxRecDepth 100000 in
theorem lifted (os : Os) (started : os.Started) (H : Type) (enc : TypeId × Value → H) :
    ReturnsInHanded {} Try.checked os 9 .any (Rows.wordDividesSpec.pre6 enc Try.prog Try.f9 Rows.wordDividesRow.domain false) (Rows.wordDividesSpec.post enc Try.prog Try.f9 false true false false) := by
  refine returnsInHanded_of_change (C := Try.checked) own started (by kernel_rfl) Try.func9
    (ChangeSpec.witness6 (enc := enc) (C := Try.checked) false ⟨#[], #[.int .u32 0, .int .u32 0], []⟩ 8 (by kernel_rfl) (by kernel_rfl) (by kernel_rfl) (by kernel_rfl)) ?_
  intro W base args ds gs before hval0 hW hcnd _
  have hval : ∀ (j : Nat) t v, Try.f9.params[j]? = some t → args[j]? = some v → Value.okWide Try.prog W .any base t v := hval0
  have hW' := hW
  obtain ⟨p, q, hA0, hV, rfl, hfz, hnd⟩ := hW
  have hA : DataW.TrodAll enc Try.prog W 0 (fun _ => true) true Try.f9.params.toList args.toList ds p := hA0
  rw [Try.params9] at hA hval
  obtain ⟨v0, vs0, d0, ds0, p0, q0, hargs, rfl, rfl, h0, r0⟩ := trodAll_cons hA
  obtain ⟨v1, vs1, d1, ds1, p1, q1, rfl, rfl, rfl, h1, r1⟩ := trodAll_cons r0
  obtain ⟨rfl, rfl, rfl⟩ := trodAll_nil r1
  obtain rfl : args = #[v0, v1] := by cases args; simp_all
  obtain ⟨rfl, rfl⟩ := trodVars_none hV
  obtain ⟨a0, rfl, rfl, rfl, w0⟩ := open_int Try.underlying22 (hval 0 22 v0 rfl rfl) h0
  obtain ⟨a1, rfl, rfl, rfl, w1⟩ := open_int Try.underlying22 (hval 1 22 v1 rfl rfl) h1
  clear hA0 hval0
  simp only [List.append_nil] at hW'
  refine (walk a0 a1 w0 w1 W).mono fun e W' ⟨he, hg⟩ => ?_
  subst he
  exact ⟨_, rfl, post_of_same (pa := []) (pv := []) hW' (fun _ _ _ => (trodAll_cons_mk (shut_bool Try.underlying4 _) trodAll_mk0)) (fun sp _ => (trodAll_cons_mk (shut_int Try.underlying22 w0) (trodAll_cons_mk (shut_int Try.underlying22 w1) trodAll_mk0))) (fun _ _ => rfl) rfl
    (hg.frame _) hg.2.1 (ok_one (by kernel_rfl) rfl (okWide_bool_mk Try.underlying4 _))⟩

theorem over : Rows.wordDividesRow.holds Try.pinned (OpenSpec.ofChange Rows.wordDividesSpec) :=
  OpenClaim.holds_of_wide 9 Try.f9 rfl rfl rfl rfl rfl rfl rfl ⟨rfl, rfl, rfl, rfl, rfl⟩ rfl rfl rfl rfl rfl (by kernel_rfl) Try.func9 (by kernel_rfl)
    (of_decide_eq_true (by kernel_rfl)) (by unfold Func.isWrapper; first | (rw [if_pos (by decide +kernel)]; kernel_rfl) | (rw [if_neg (by decide +kernel)]; exact ⟨rfl, rfl⟩))
    (fun os started H enc _ => lifted os started H enc)

/-- ████ THE STATEMENT ████ -/
theorem proved : Rows.WordDividesSaid :=
  over
end Go.Proofs.Ytkocgnnaolnilaa.wordDivides
