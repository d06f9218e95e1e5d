/-
  Proved here: a machine never writes its code and inputs, and what it is given and what it hands out are copies: it runs on as the document's own though these are written over: the law answers true for every input, without a condition.
-/
import Derived.Test.YthhahfggbjegmaaGreatRows
import Derived.Test.YthhahfggbjegmaaGreatQCase
import Derived.Test.YthhahfggbjegmaaGreatQCodeC
import Derived.WalkKit
import Derived.ProofKit
import Derived.OpenShut
namespace Go.Proofs.YthhahfggbjegmaaGreat.deviceCode
open Go.ChangeShapes Go.WideShapes Go.ChangeAt Go.RowKit
set_option linter.unusedVariables false
set_option linter.unusedSimpArgs false

theorem own : ownKnob Tryz.prog.godebug = none := by kernel_rfl

theorem code_all {v : Value} {w : World} (h : CaseAt w v) : Calls Tryz.prog 5 #[v] w fun e w' => e = .returned (.bool true) ∧ Fr (fun _ => False) w w' := by
  obtain ⟨a0, a1, a2, a3, ws, ds, ins, fs, c0, c1, c2, c3, N, rfl, L0, L1, L2, L3, b0, b1, b2, _, _⟩ := h
  cases hf : fewB ws.length ds.length ins.length fs.length N with
  | false => exact code_few a0 a1 a2 a3 _ _ _ _ c0 c1 c2 c3 N w hf
  | true =>
    cases hm : mayB ws.length ds.length with
    | false => exact code_no a0 a1 a2 a3 _ _ _ _ c0 c1 c2 c3 N w ws ds ins fs rfl rfl rfl rfl L0 L1 L2 L3 b0 b1 b2 hf hm
    | true => exact code_yes a0 a1 a2 a3 _ _ _ _ c0 c1 c2 c3 N w ws ds ins fs rfl rfl rfl rfl L0 L1 L2 L3 b0 b1 b2 hf hm

set_option maxRecDepth 100000 in
theorem lifted (os : Os) (started : os.Started) (H : Type) (enc : TypeId × Value → H) :
    ReturnsInHanded {} Tryz.checked os 5 .any (Rows.deviceCodeSpec.pre6 enc Tryz.prog Tryz.f5 Rows.deviceCodeRow.domain false) (Rows.deviceCodeSpec.post enc Tryz.prog Tryz.f5 false true false false) := by
  refine returnsInHanded_of_change (C := Tryz.checked) own started (by kernel_rfl) Tryz.func5
    (ChangeSpec.witness6 (enc := enc) (C := Tryz.checked) false ⟨#[], #[.agg #[.slice none 0 0, .slice none 0 0, .slice none 0 0, .slice none 0 0, .int .i64 0]], []⟩ 8 (by kernel_rfl) (by kernel_rfl) (by kernel_rfl) (by kernel_rfl)) ?_
  intro W base args ds gs before hval0 hW hcnd _
  have hval : ∀ (j : Nat) t v, Tryz.f5.params[j]? = some t → args[j]? = some v → Value.okWide Tryz.prog W .any base t v := hval0
  have hW' := hW
  obtain ⟨p, q, hA0, hV, rfl, hfz, hnd⟩ := hW
  have hA : DataW.TrodAll enc Tryz.prog W 0 (fun _ => true) true Tryz.f5.params.toList args.toList ds p := hA0
  rw [Tryz.params5] at hA hval
  obtain ⟨v0, vs0, d0, ds0, p0, q0, hargs, rfl, rfl, h0, r0⟩ := trodAll_cons hA
  obtain ⟨rfl, rfl, rfl⟩ := trodAll_nil r0
  obtain rfl : args = #[v0] := by cases args; simp_all
  obtain ⟨rfl, rfl⟩ := trodVars_none hV
  have hlt : ∀ x ∈ p0 ++ [], x.block < W.heap.size := fun x hx => by simpa using hW'.lt x (by simpa using hx)
  have hcase := open_case (hval 0 26 v0 rfl rfl) h0
  clear hA0 hval0
  refine (code_all hcase).mono fun e W' ⟨he, hb⟩ => ?_
  subst he
  exact ⟨_, rfl, post_fr hW' (trodAll_cons_mk (shut_bool Tryz.underlying4 _) trodAll_mk0) (trodAll_cons_mk (Fr.trod caseLaid (by kernel_rfl) (of_decide_eq_true (by kernel_rfl)) h0 hb (fun x hx => hlt x (by simp [hx]))) trodAll_mk0) rfl rfl hb⟩

theorem over : Rows.deviceCodeRow.holds Tryz.pinned (OpenSpec.ofChange Rows.deviceCodeSpec) :=
  OpenClaim.holds_of_wide 5 Tryz.f5 rfl rfl rfl rfl rfl rfl rfl ⟨rfl, rfl, rfl, rfl, rfl⟩ rfl rfl rfl rfl rfl (by kernel_rfl) Tryz.func5 (by kernel_rfl)
    (of_decide_eq_true (by kernel_rfl)) (by unfold Func.isWrapper; first | (rw [if_pos (by decide +kernel)]; kernel_rfl) | (rw [if_neg (by decide +kernel)]; exact ⟨rfl, rfl⟩))
    (fun os started H enc _ => lifted os started H enc)

/-- The statement. -/
theorem proved : Rows.DeviceCodeSaid :=
  over
end Go.Proofs.YthhahfggbjegmaaGreat.deviceCode
