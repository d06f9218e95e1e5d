/-
  Proved here: the signed number in any number of the lowest bits of any word, and the two parts of any word, are those of the document: the law answers true for every input, without a condition.
-/
import Derived.Test.YtkocgnnaolnilaaRows
import Derived.Test.YtkocgnnaolnilaaShift
import Derived.Test.YtkocgnnaolnilaaMath2
import Derived.WalkKit
import Derived.ProofKit
import Derived.OpenShut
namespace Go.Proofs.Ytkocgnnaolnilaa.wordSigns
open Go.ChangeShapes Go.WideShapes Go.ChangeAt Go.RowKit
set_option linter.unusedVariables false      -- a walk need not use every 'w<i>' (that an integer argument fits its kind)

theorem own : ownKnob Try.prog.godebug = none := by kernel_rfl

/-! ### STEP 1: THE WALK: the Go text returns true. 'Grown w w'': the world has at most new blocks (Derived/RowKit3.lean). Part the cases AHEAD of 'go_enter' where a test parts the walk; take each callee by a contract of your own. -/
theorem walk (a0 : Int) (a1 : Int) (w0 : (Lit.int .u32 a0).wf = true) (w1 : (Lit.int .i64 a1).wf = true) (w : World) :
    Calls Try.prog 8 #[.int .u32 a0, .int .i64 a1] w fun e w' => e = .returned (.bool true) ∧ Grown w w' := by
  obtain ⟨h0, h1⟩ := wf_u32 w0
  clear w0 w1
  obtain ⟨l0, l1⟩ := sign12_in a0
  obtain ⟨r0, r1⟩ := mod_in (a0 - signF a0 12)
  have C46 : ∀ w, Calls Try.prog 46 #[.int .u32 a0] w fun e w' => e = .returned (.tuple #[.int .u32 ((a0 - signF a0 12) % 4294967296), .int .u32 (signF a0 12)]) ∧ Grown w w' := c46 a0 h0 h1
  have P1 := parts_h h0 h1
  have P2 := parts_whole h0 h1
  generalize (a0 - signF a0 12) % 4294967296 = h at *
  have C49 := c49 h (signF a0 12) r0 r1 l0 l1
  rw [P2] at C49
  have H46 := Lib.hid C46
  have H49 := Lib.hid C49
  clear C46 C49 P2
  have HG := Lib.hid (Grown.refl w)
  go_enter Try.func8, Try.ntmps8
  go_wp2_with (first
    | (go_at_call 46; (with_reducible refine (H46.out _).mono ?_); rintro e w' ⟨rfl, hg⟩; replace HG := Lib.hid (grown_trans HG.out hg); clear hg)
    | (go_at_call 49; (with_reducible refine (H49.out _).mono ?_); rintro e w' ⟨rfl, rfl⟩)
    | (go_at_call 15; (with_reducible refine (c15 _).mono ?_); rintro e w' ⟨rfl, hg⟩; replace HG := Lib.hid (grown_trans HG.out hg); clear hg)
    | (go_at_call 47; (with_reducible refine (c47 _ _ h0 h1 _).mono ?_); rintro e w' ⟨rfl, hg⟩; replace HG := Lib.hid (grown_trans HG.out hg); clear hg)
    | (go_at_call 48; (with_reducible refine (c48 _ _ h0 h1 _).mono ?_); rintro e w' ⟨rfl, rfl⟩))
  go_ret
  exact ⟨rfl, HG.out⟩

/-! ### THE ROW's STEP: WRITTEN OUT: LEAVE IT -/
set_option maxRecDepth 100000 in
theorem lifted (os : Os) (started : os.Started) (H : Type) (enc : TypeId × Value → H) :
    ReturnsInHanded {} Try.checked os 8 .any (Rows.wordSignsSpec.pre6 enc Try.prog Try.f8 Rows.wordSignsRow.domain false) (Rows.wordSignsSpec.post enc Try.prog Try.f8 false true false false) := by
  refine returnsInHanded_of_change (C := Try.checked) own started (by kernel_rfl) Try.func8
    (ChangeSpec.witness6 (enc := enc) (C := Try.checked) false ⟨#[], #[.int .u32 0, .int .i64 0], []⟩ 8 (by kernel_rfl) (by kernel_rfl) (by kernel_rfl) (by kernel_rfl)) ?_
  intro W base args ds gs before hval0 hW hcnd _
  have hval : ∀ (j : Nat) t v, Try.f8.params[j]? = some t → args[j]? = some v → Value.okWide Try.prog W .any base t v := hval0
  have hW' := hW
  obtain ⟨p, q, hA0, hV, rfl, hfz, hnd⟩ := hW
  have hA : DataW.TrodAll enc Try.prog W 0 (fun _ => true) true Try.f8.params.toList args.toList ds p := hA0
  rw [Try.params8] at hA hval
  obtain ⟨v0, vs0, d0, ds0, p0, q0, hargs, rfl, rfl, h0, r0⟩ := trodAll_cons hA
  obtain ⟨v1, vs1, d1, ds1, p1, q1, rfl, rfl, rfl, h1, r1⟩ := trodAll_cons r0
  obtain ⟨rfl, rfl, rfl⟩ := trodAll_nil r1
  obtain rfl : args = #[v0, v1] := by cases args; simp_all
  obtain ⟨rfl, rfl⟩ := trodVars_none hV
  obtain ⟨a0, rfl, rfl, rfl, w0⟩ := open_int Try.underlying22 (hval 0 22 v0 rfl rfl) h0
  obtain ⟨a1, rfl, rfl, rfl, w1⟩ := open_int Try.underlying3 (hval 1 3 v1 rfl rfl) h1
  clear hA0 hval0
  simp only [List.append_nil] at hW'
  refine (walk a0 a1 w0 w1 W).mono fun e W' ⟨he, hg⟩ => ?_
  subst he
  exact ⟨_, rfl, post_of_same (pa := []) (pv := []) hW' (fun _ _ _ => (trodAll_cons_mk (shut_bool Try.underlying4 _) trodAll_mk0)) (fun sp _ => (trodAll_cons_mk (shut_int Try.underlying22 w0) (trodAll_cons_mk (shut_int Try.underlying3 w1) trodAll_mk0))) (fun _ _ => rfl) rfl
    (hg.frame _) hg.2.1 (ok_one (by kernel_rfl) rfl (okWide_bool_mk Try.underlying4 _))⟩

theorem over : Rows.wordSignsRow.holds Try.pinned (OpenSpec.ofChange Rows.wordSignsSpec) :=
  OpenClaim.holds_of_wide 8 Try.f8 rfl rfl rfl rfl rfl rfl rfl ⟨rfl, rfl, rfl, rfl, rfl⟩ rfl rfl rfl rfl rfl (by kernel_rfl) Try.func8 (by kernel_rfl)
    (of_decide_eq_true (by kernel_rfl)) (by unfold Func.isWrapper; first | (rw [if_pos (by decide +kernel)]; kernel_rfl) | (rw [if_neg (by decide +kernel)]; exact ⟨rfl, rfl⟩))
    (fun os started H enc _ => lifted os started H enc)

/-- ████ THE STATEMENT ████ -/
theorem proved : Rows.WordSignsSaid :=
  over
end Go.Proofs.Ytkocgnnaolnilaa.wordSigns
