/-
  Proved here: steps and power failures of the program's machine, one by one in any order, are those of the document's own machine: the law answers true for every input, without a condition.
-/
import Derived.Test.YthhahfggbjegmaaGreatRows
import Derived.Test.YthhahfggbjegmaaGreatQCase
import Derived.Test.YthhahfggbjegmaaGreatQStepsA
import Derived.Deep.Grids
import Derived.WalkKit
import Derived.ProofKit
import Derived.OpenShut
namespace Go.Proofs.YthhahfggbjegmaaGreat.deviceSteps
open Go.ChangeShapes Go.WideShapes Go.ChangeAt Go.RowKit
set_option linter.unusedVariables false
set_option linter.unusedSimpArgs false

theorem own : ownKnob Tryz.prog.godebug = none := by kernel_rfl

theorem boolCells : Tryz.prog.cellsOf 4 = 1 := by kernel_rfl
theorem steps_all {v : Value} {w : World} (h : CaseAt w v) (a4 : Option Addr) (q c4 : Nat) (F : Nat → Bool) (hq : q ≤ 9223372036854775807) (L4 : ∀ k, k < q → ∃ b o, a4 = some ⟨b, o, none⟩ ∧ w.cell? ⟨b, o + k, none⟩ = some (.bool (F k))) :
    Calls Tryz.prog 4 #[v, .slice a4 q c4] w fun e w' => e = .returned (.bool true) ∧ Fr (fun _ => False) w w' := by
  obtain ⟨a0, a1, a2, a3, ws, ds, ins, fs, c0, c1, c2, c3, N, rfl, L0, L1, L2, L3, b0, b1, b2, _, _⟩ := h
  cases hf : fewB ws.length ds.length ins.length fs.length N with
  | false => exact steps_few a0 a1 a2 a3 a4 _ _ _ _ q c0 c1 c2 c3 c4 N w hq (.inl hf)
  | true =>
    by_cases h : 400 < q ∨ 32768 < ws.length ∨ 65536 < ds.length
    · exact steps_few a0 a1 a2 a3 a4 _ _ _ _ q c0 c1 c2 c3 c4 N w hq (.inr ⟨hf, h⟩)
    · cases hm : mayB ws.length ds.length with
      | false => exact steps_no a0 a1 a2 a3 a4 _ _ _ _ q c0 c1 c2 c3 c4 N w hf (by omega) (by omega) (by omega) hm
      | true => exact steps_yes a0 a1 a2 a3 a4 _ _ _ _ q c0 c1 c2 c3 c4 N w ws ds ins fs F rfl rfl rfl hf (by omega) (by omega) (by omega) hm L0 L1 L2 b0 b1 b2 L4
theorem open_flags {H : Type} {enc : TypeId × Value → H} {w : World} {held : Bool} {fuel : Nat} {a : Option Addr} {q c : Nat} {x : DataW H × List MemPlace} (h : DataW.trod enc Tryz.prog w 0 (fun _ => true) held fuel 46 [.slice a q c] = some x) :
    ∃ F : Nat → Bool, q ≤ 9223372036854775807 ∧ ∀ k, k < q → ∃ b o, a = some ⟨b, o, none⟩ ∧ w.cell? ⟨b, o + k, none⟩ = some (.bool (F k)) := by
  rcases Deep.open_bools Tryz.underlying46 Tryz.underlying4 boolCells h with ⟨e, _⟩ | ⟨ad, len, cap, B, e, _, hl, hm, _, hc⟩
  · simp only [List.cons.injEq, and_true, Value.slice.injEq] at e
    obtain ⟨rfl, rfl, rfl⟩ := e
    exact ⟨fun _ => false, by omega, fun k hk => by omega⟩
  · simp only [List.cons.injEq, and_true, Value.slice.injEq] at e
    obtain ⟨rfl, rfl, rfl⟩ := e
    refine ⟨B, by unfold maxLen at hm; omega, fun k hk => ?_⟩
    have c0 := hc k (by omega)
    have cz := hc 0 (by omega)
    obtain ⟨b, off, spot⟩ := ad
    have hspot : spot = none := by simpa [Addr.add] using World.cell?_spot cz
    subst hspot
    rw [Addr.add_lit] at c0
    exact ⟨b, off, rfl, c0⟩

set_option maxRecDepth 100000 in
theorem lifted (os : Os) (started : os.Started) (H : Type) (enc : TypeId × Value → H) :
    ReturnsInHanded {} Tryz.checked os 4 .any (Rows.deviceStepsSpec.pre6 enc Tryz.prog Tryz.f4 Rows.deviceStepsRow.domain false) (Rows.deviceStepsSpec.post enc Tryz.prog Tryz.f4 false true false false) := by
  refine returnsInHanded_of_change (C := Tryz.checked) own started (by kernel_rfl) Tryz.func4
    (ChangeSpec.witness6 (enc := enc) (C := Tryz.checked) false ⟨#[], #[.agg #[.slice none 0 0, .slice none 0 0, .slice none 0 0, .slice none 0 0, .int .i64 0], .slice none 0 0], []⟩ 8 (by kernel_rfl) (by kernel_rfl) (by kernel_rfl) (by kernel_rfl)) ?_
  intro W base args ds gs before hval0 hW hcnd _
  have hval : ∀ (j : Nat) t v, Tryz.f4.params[j]? = some t → args[j]? = some v → Value.okWide Tryz.prog W .any base t v := hval0
  have hW' := hW
  obtain ⟨p, q, hA0, hV, rfl, hfz, hnd⟩ := hW
  have hA : DataW.TrodAll enc Tryz.prog W 0 (fun _ => true) true Tryz.f4.params.toList args.toList ds p := hA0
  rw [Tryz.params4] at hA hval
  obtain ⟨v0, vs0, d0, ds0, p0, q0, hargs, rfl, rfl, h0, r0⟩ := trodAll_cons hA
  obtain ⟨v1, vs1, d1, ds1, p1, q1, rfl, rfl, rfl, h1, r1⟩ := trodAll_cons r0
  obtain ⟨rfl, rfl, rfl⟩ := trodAll_nil r1
  obtain rfl : args = #[v0, v1] := by cases args; simp_all
  obtain ⟨rfl, rfl⟩ := trodVars_none hV
  have hlt : ∀ x ∈ p0 ++ (p1 ++ []), x.block < W.heap.size := fun x hx => by simpa using hW'.lt x (by simpa using hx)
  have hcase := open_case (hval 0 26 v0 rfl rfl) h0
  obtain ⟨b1, m1, k1, rfl⟩ := okWide_slice Tryz.underlying46 (hval 1 46 v1 rfl rfl)
  obtain ⟨fuel1, hf1⟩ := h1
  obtain ⟨F, hq, L4⟩ := open_flags hf1
  have h1 : DataW.Trod enc Tryz.prog W 0 (fun _ => true) true 46 (.slice b1 m1 k1) d1 p1 := ⟨fuel1, hf1⟩
  clear hA0 hval0
  refine (steps_all hcase b1 m1 k1 F hq L4).mono fun e W' ⟨he, hb⟩ => ?_
  subst he
  exact ⟨_, rfl, post_fr hW' (trodAll_cons_mk (shut_bool Tryz.underlying4 _) trodAll_mk0) (trodAll_cons_mk (Fr.trod caseLaid (by kernel_rfl) (of_decide_eq_true (by kernel_rfl)) h0 hb (fun x hx => hlt x (by simp [hx])))
    (trodAll_cons_mk (Fr.trod caseLaid (by kernel_rfl) (of_decide_eq_true (by kernel_rfl)) h1 hb (fun x hx => hlt x (by simp [hx]))) trodAll_mk0)) rfl rfl hb⟩

theorem over : Rows.deviceStepsRow.holds Tryz.pinned (OpenSpec.ofChange Rows.deviceStepsSpec) :=
  OpenClaim.holds_of_wide 4 Tryz.f4 rfl rfl rfl rfl rfl rfl rfl ⟨rfl, rfl, rfl, rfl, rfl⟩ rfl rfl rfl rfl rfl (by kernel_rfl) Tryz.func4 (by kernel_rfl)
    (of_decide_eq_true (by kernel_rfl)) (by unfold Func.isWrapper; first | (rw [if_pos (by decide +kernel)]; kernel_rfl) | (rw [if_neg (by decide +kernel)]; exact ⟨rfl, rfl⟩))
    (fun os started H enc _ => lifted os started H enc)

/-- The statement. -/
theorem proved : Rows.DeviceStepsSaid :=
  over
end Go.Proofs.YthhahfggbjegmaaGreat.deviceSteps
