/-
  The contract of the document's own Begins (layer 4), and of the page's examples.
-/
import Derived.Test.YtipfefkddnogjaaRecO
namespace Go.Proofs.Ytipfefkddnogjaa
open Go.RowKit Go.Maps
set_option linter.unusedVariables false
set_option linter.unusedSimpArgs false

theorem vals_getD {l : List Rc} {k : Nat} (hk : k < (firsts l).length) : (vals l).getD k 0 = ((firsts l).getD k (0, 0)).2 := by
  unfold vals
  rw [List.getD_eq_getElem?_getD, List.getElem?_map, List.getD_eq_getElem?_getD, List.getElem?_eq_getElem hk]; rfl
theorem begins_all {l : List Rc} {out : List Int} (h : ∀ j, j < (vals l).length → j < out.length ∧ (vals l).getD j 0 = out.getD j 0) : beginsP l out = ordP l := by
  have hle : (vals l).length ≤ out.length := by
    by_cases h0 : (vals l).length = 0
    · omega
    · have := (h ((vals l).length - 1) (by omega)).1; omega
  have e : vals l = out.take (vals l).length := by
    refine eq_prefix (by rw [List.length_take]; omega) (fun i hi => ?_)
    rw [(h i hi).2, List.getD_eq_getElem?_getD, List.getD_eq_getElem?_getD, List.getElem?_take, if_pos hi]
  unfold beginsP
  rw [decide_eq_true hle, beq_iff_eq.2 e]
  simp
theorem begins_not {l : List Rc} {out : List Int} {k : Nat} (hk : k < (vals l).length) (h : out.length ≤ k ∨ (vals l).getD k 0 ≠ out.getD k 0) : beginsP l out = false := by
  unfold beginsP
  rcases h with h | h
  · rw [decide_eq_false (by omega)]; simp
  · have : (vals l == out.take (vals l).length) = false := by
      rw [beq_eq_false_iff_ne]
      intro e
      apply h
      have e2 : (vals l).getD k 0 = (out.take (vals l).length).getD k 0 := by rw [← e]
      rw [e2, List.getD_eq_getElem?_getD, List.getElem?_take, if_pos hk, ← List.getD_eq_getElem?_getD]
    rw [this]; simp
set_option maxRecDepth 100000 in
set_option maxHeartbeats 8000000 in
theorem c36 (a : Option Addr) (v : Value) (c : Nat) (l : List Rc) (out : List Int) (hl : l.length < 1000000) (hout : out.length < 1000000) (hr : Rcs l) (w : World) (hat : RecAt w a l) (hou : IntV w v out) :
    Calls Try.prog 36 #[.slice a l.length c, v] w fun e w' => e = .returned (.bool (beginsP l out)) ∧ w.grownBy w' none := by
  obtain ⟨a', c', rfl, hio⟩ := intV_at hou
  have HA := Lib.hid hat
  have HI := Lib.hid hio
  have HR := Lib.hid hr
  have hf := length_firsts l
  clear hat hr hou hio
  have HFL : Hid ((vals l).length = (firsts l).length) := Lib.hid (by unfold vals; simp)
  have VG := Lib.hid (fun k => vals_getD (l := l) (k := k))
  have K35 := Lib.hid (fun w h => c35 a c l hl HR.out w h)
  go_enter Try.func36, Try.ntmps36
  go_wp2_with (go_at_call 31; (with_reducible refine (c31 a c l hl w HA.out).mono ?_); rintro e w1 ⟨a1, c1, rfl, ha1, hg⟩; have HG := Lib.hid hg; have HA1 := Lib.hid ha1; clear hg ha1)
  generalize firsts l = fl at *
  have H0 : Hid (∀ j : Nat, j < 0 → j < out.length ∧ (vals l).getD j 0 = out.getD j 0) := Lib.hid (fun i hi => absurd hi (by omega))
  have HB0 := Lib.hid (by_refl w1)
  go_loopw [6] (fun q wr => ∃ k : Nat, k ≤ fl.length ∧ q = .int .i64 k ∧ Hid (∀ j : Nat, j < k → j < out.length ∧ (vals l).getD j 0 = out.getD j 0) ∧ Hid (w1.grownBy wr none)) (fun q _ => fl.length - (intOf q).toNat)
  case atStart => exact ⟨0, by omega, rfl, H0, HB0⟩
  case round =>
    obtain ⟨k, hk, rfl, HE, HW⟩ := hrel
    clear H0 HB0
    by_cases hlt : k < fl.length
    · obtain ⟨b, o, rfl, c0, z0⟩ := recAt_by HA1.out HW.out k hlt
      rw [← VG.out k hlt] at z0
      have hlt' : (k : Int) < fl.length := by omega
      have hge : (0 : Int) ≤ k := by omega
      clear c0
      by_cases hk2 : k < out.length
      · obtain ⟨b', o', rfl, z1⟩ := intAt_by HI.out (HG.out.trans HW.out) k hk2
        have hd : decide ((out.length : Int) ≤ k) = false := decide_eq_false (by omega)
        have hk3 : (k : Int) < out.length := by omega
        cases he : ((vals l).getD k 0 == out.getD k 0)
        · have HP : Hid (beginsP l out = false) := Lib.hid (begins_not (k := k) (by rw [HFL.out]; exact hlt) (Or.inr (by simpa using he)))
          have he' : ((vals l).getD k 0 != out.getD k 0) = true := by unfold bne; rw [he]; rfl
          clear he
          generalize (vals l).getD k 0 = x at *
          generalize out.getD k 0 = y at *
          go_wp2
          go_quiet (fail)
          go_wp2
          go_ret
          exact ⟨by rw [HP.out]; rfl, by_drewN (HG.out.trans HW.out) _⟩
        · have HE' : Hid (∀ j : Nat, j < k + 1 → j < out.length ∧ (vals l).getD j 0 = out.getD j 0) := Lib.hid (fun j hj => by
            by_cases h : j = k
            · subst h; exact ⟨hk2, by simpa using he⟩
            · exact HE.out j (by omega))
          have he' : ((vals l).getD k 0 != out.getD k 0) = false := by unfold bne; rw [he]; rfl
          clear he
          generalize (vals l).getD k 0 = x at *
          generalize out.getD k 0 = y at *
          go_wp2
          go_quiet (fail)
          go_wp2
          go_roundw
          case rel => exact ⟨k + 1, by omega, by go_num, HE', Lib.hid (by_drewN HW.out _)⟩
          case measure => simp [intOf]; omega
      · have hd : decide ((out.length : Int) ≤ k) = true := decide_eq_true (by omega)
        have HP : Hid (beginsP l out = false) := Lib.hid (begins_not (k := k) (by rw [HFL.out]; exact hlt) (Or.inl (by omega)))
        clear z0
        go_wp2
        go_quiet (fail)
        go_wp2
        go_ret
        exact ⟨by rw [HP.out]; rfl, by_drewN (HG.out.trans HW.out) _⟩
    · have hk4 : k = fl.length := by omega
      subst hk4
      have HP : Hid (beginsP l out = ordP l) := Lib.hid (begins_all (by rw [HFL.out]; exact HE.out))
      go_wp2_with (go_at_call 35; (with_reducible refine (K35.out _ (by exact recAt_by HA.out (HG.out.trans HW.out))).mono ?_); rintro e w3 ⟨rfl, hg⟩; have HG3 := Lib.hid ((HG.out.trans HW.out).trans hg); clear hg)
      go_ret
      exact ⟨by rw [HP.out]; rfl, HG3.out⟩
end Go.Proofs.Ytipfefkddnogjaa
