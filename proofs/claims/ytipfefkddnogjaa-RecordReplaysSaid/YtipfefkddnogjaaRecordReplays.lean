/-
  Proved here: with a replay more, anywhere behind its first record, a list has the same first records and one replay more, and is as consistent; with a replay of another value it is not consistent: the law answers true for every input, without a condition.
-/
import Derived.Test.YtipfefkddnogjaaRows
import Derived.Test.YtipfefkddnogjaaArg
import Derived.Test.YtipfefkddnogjaaRecS
import Derived.Lib.SmallJoins
import Derived.WalkKit
import Derived.ProofKit
import Derived.OpenShut
namespace Go.Proofs.Ytipfefkddnogjaa.recordReplays
open Go.Joins Go.Deep Go.ChangeShapes Go.WideShapes Go.ChangeAt Go.RowKit Go.Maps
set_option linter.unusedVariables false
set_option linter.unusedSimpArgs false

theorem own : ownKnob Try.prog.godebug = none := by kernel_rfl

theorem walk (a : Option Addr) (l : List Rc) (c : Nat) (f t v : Int) (hv : (Lit.int .u32 v).wf = true) (hr : Rcs l) (hml : l.length ≤ 9223372036854775807) (w : World) (hat : RecAt w a l) :
    Calls Try.prog 10 #[.agg #[.slice a l.length c, .int .i64 f, .int .i64 t, .int .u32 v]] w fun e w' => e = .returned (.bool true) ∧ w.grownBy w' none := by
  obtain ⟨v0, v1⟩ := wf_u32 hv
  by_cases h : (l.length : Int) ≤ 300 ∧ 0 ≤ f ∧ f < t ∧ t ≤ (l.length : Int)
  · exact rep_main a c l f t v h.1 h.2.1 h.2.2.1 h.2.2.2 v0 v1 hr w hat
  · exact rep_idle a l.length c f t v (by omega) hml w

set_option maxRecDepth 100000 in
theorem lifted (os : Os) (started : os.Started) (H : Type) (enc : TypeId × Value → H) :
    ReturnsInHanded {} Try.checked os 10 .any (Rows.recordReplaysSpec.pre6 enc Try.prog Try.f10 Rows.recordReplaysRow.domain false) (Rows.recordReplaysSpec.post enc Try.prog Try.f10 false true false false) := by
  refine returnsInHanded_of_change (C := Try.checked) own started (by kernel_rfl) Try.func10
    (ChangeSpec.witness6 (enc := enc) (C := Try.checked) false ⟨#[], #[.agg #[.slice none 0 0, .int .i64 0, .int .i64 0, .int .u32 0]], []⟩ 8 (by kernel_rfl) (by kernel_rfl) (by kernel_rfl) (by kernel_rfl)) ?_
  intro W base args ds gs before hval0 hW hcnd _
  have hval : ∀ (j : Nat) t v, Try.f10.params[j]? = some t → args[j]? = some v → Value.okWide Try.prog W .any base t v := hval0
  have hW' := hW
  obtain ⟨p, q, hA0, hV, rfl, hfz, hnd⟩ := hW
  have hA : DataW.TrodAll enc Try.prog W 0 (fun _ => true) true Try.f10.params.toList args.toList ds p := hA0
  rw [Try.params10] at hA hval
  obtain ⟨v0, vs0, d0, ds0, p0, q0, hargs, rfl, rfl, h0, r0⟩ := trodAll_cons hA
  obtain ⟨rfl, rfl, rfl⟩ := trodAll_nil r0
  obtain rfl : args = #[v0] := by cases args; simp_all
  obtain ⟨rfl, rfl⟩ := trodVars_none hV
  have hlt : ∀ x ∈ p0 ++ [], x.block < W.heap.size := fun x hx => by simpa using hW'.lt x (by simpa using hx)
  obtain ⟨u0, u1, u2, u3, y0, y1, y2, y3, n, rfl, _, _, t0, t1, t2, t3⟩ := open_agg4 Try.underlying68 (by kernel_rfl) (by kernel_rfl) (hval 0 68 v0 rfl rfl) h0
  obtain ⟨a, l, c, hcs, hr, hat, hml⟩ := open_recs t0
  obtain ⟨f, e1, _, w1⟩ := DataW.trod_int Try.underlying3 t1
  obtain ⟨t, e2, _, w2⟩ := DataW.trod_int Try.underlying3 t2
  obtain ⟨v, e3, _, w3⟩ := DataW.trod_int Try.underlying24 t3
  simp only [List.cons.injEq, and_true] at hcs e1 e2 e3
  subst hcs e1 e2 e3
  clear hA0 hval0
  refine (walk a l c f t v w3 hr (by unfold maxLen at hml; omega) W hat).mono fun e W' ⟨he, hg⟩ => ?_
  subst he
  have hb := below_by hg
  exact ⟨_, rfl, post_by hW' (trodAll_cons_mk (shut_bool Try.underlying4 _) trodAll_mk0) (trodAll_cons_mk (Below.trod laidOut (by kernel_rfl) (of_decide_eq_true (by kernel_rfl)) h0 hb (fun x hx => hlt x (by simpa using hx))) trodAll_mk0) rfl rfl hb⟩

theorem over : Rows.recordReplaysRow.holds Try.pinned (OpenSpec.ofChange Rows.recordReplaysSpec) :=
  OpenClaim.holds_of_wide 10 Try.f10 rfl rfl rfl rfl rfl rfl rfl ⟨rfl, rfl, rfl, rfl, rfl⟩ rfl rfl rfl rfl rfl (by kernel_rfl) Try.func10 (by kernel_rfl)
    (of_decide_eq_true (by kernel_rfl)) (by unfold Func.isWrapper; first | (rw [if_pos (by decide +kernel)]; kernel_rfl) | (rw [if_neg (by decide +kernel)]; exact ⟨rfl, rfl⟩))
    (fun os started H enc _ => lifted os started H enc)

/-- The statement. -/
theorem proved : Rows.RecordReplaysSaid :=
  over
end Go.Proofs.Ytipfefkddnogjaa.recordReplays
