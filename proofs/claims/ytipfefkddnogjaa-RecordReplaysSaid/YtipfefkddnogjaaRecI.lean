/-
  The contracts of Begins and Whole (layer 4).
-/
import Derived.Test.YtipfefkddnogjaaRecH
namespace Go.Proofs.Ytipfefkddnogjaa
open Go.RowKit Go.Maps
set_option linter.unusedVariables false
set_option linter.unusedSimpArgs false

def beginsP (l : List Rc) (out : List Int) : Bool := ordP l && (decide ((vals l).length ≤ out.length) && (vals l == out.take (vals l).length))
def wholeP (l : List Rc) (out : List Int) : Bool := ordP l && (vals l == out)
theorem intAt_take {w : World} {a : Option Addr} {xs : List Int} {n : Nat} (h : IntAt w a xs) (hn : n ≤ xs.length) : IntAt w a (xs.take n) := fun k hk => by
  rw [List.length_take] at hk
  obtain ⟨b, o, e, c⟩ := h k (by omega)
  refine ⟨b, o, e, ?_⟩
  rw [List.getD_eq_getElem?_getD, List.getElem?_take, if_pos (by omega), ← List.getD_eq_getElem?_getD]; exact c
theorem length_vals (l : List Rc) : (vals l).length ≤ l.length := by unfold vals; rw [List.length_map]; exact length_firsts l
set_option maxHeartbeats 4000000 in
theorem c38 (a a' : Option Addr) (c c' : Nat) (l : List Rc) (out : List Int) (hl : l.length < 1000000) (hr : Rcs l) (w : World) (hat : RecAt w a l) (hou : IntAt w a' out) :
    Calls Try.prog 38 #[.slice a l.length c, .slice a' out.length c'] w fun e w' => e = .returned (.bool (wholeP l out)) ∧ w.grownBy w' none := by
  have HA := Lib.hid hat
  have HO := Lib.hid hou
  have HR := Lib.hid hr
  have hv := length_vals l
  clear hat hou hr
  have K34 : ∀ w, RecAt w a l → Calls Try.prog 34 #[.slice a l.length c] w fun e w' => e = .returned (.bool (ordP l)) ∧ w.grownBy w' none := fun w h => c34 a c l hl HR.out w h
  cases ho : ordP l
  · have HP : Hid (wholeP l out = false) := Lib.hid (by unfold wholeP; rw [ho]; rfl)
    rw [ho] at K34
    have H34 := Lib.hid K34
    clear K34 ho
    go_enter Try.func38, Try.ntmps38
    go_wp2_with (go_at_call 34; (with_reducible refine (H34.out w HA.out).mono ?_); rintro e w1 ⟨rfl, hg⟩; have HG := Lib.hid hg; clear hg)
    go_ret
    exact ⟨by rw [HP.out]; rfl, HG.out⟩
  · rw [ho] at K34
    have H34 := Lib.hid K34
    clear K34
    by_cases hn : (vals l).length = out.length
    · have HP : Hid (wholeP l out = (vals l == out)) := Lib.hid (by unfold wholeP; rw [ho]; rfl)
      have HN := Lib.hid hn
      clear ho hn
      go_enter Try.func38, Try.ntmps38
      go_wp2_with (first
        | (go_at_call 34; (with_reducible refine (H34.out w HA.out).mono ?_); rintro e w1 ⟨rfl, hg⟩; have HG := Lib.hid hg; clear hg)
        | (go_at_call 32; (with_reducible refine (c32 a c l hl HR.out w1 (by exact recAt_by HA.out HG.out)).mono ?_); rintro e w2 ⟨a2, c2, rfl, h2, hg⟩
           have HG2 := Lib.hid (HG.out.trans hg); have H2 := Lib.hid h2; clear hg h2; rw [← HN.out])
        | (go_at_call 64; (with_reducible refine (c64_eq a2 a' c2 c' (vals l) out HN.out (by omega) w2 (by exact H2.out) (by exact intAt_by HO.out HG2.out)).mono ?_); rintro e w3 ⟨rfl, hg⟩
           have HG3 := Lib.hid (HG2.out.trans hg); clear hg))
      go_ret
      exact ⟨by rw [HP.out]; rfl, HG3.out⟩
    · have HP : Hid (wholeP l out = false) := Lib.hid (by
        unfold wholeP; rw [ho]
        cases h : (vals l == out) with
        | false => rfl
        | true => exact absurd (by rw [beq_iff_eq.1 h]) hn)
      have HN := Lib.hid hn
      clear ho hn
      go_enter Try.func38, Try.ntmps38
      go_wp2_with (first
        | (go_at_call 34; (with_reducible refine (H34.out w HA.out).mono ?_); rintro e w1 ⟨rfl, hg⟩; have HG := Lib.hid hg; clear hg)
        | (go_at_call 32; (with_reducible refine (c32 a c l hl HR.out w1 (by exact recAt_by HA.out HG.out)).mono ?_); rintro e w2 ⟨a2, c2, rfl, h2, hg⟩
           have HG2 := Lib.hid (HG.out.trans hg); have H2 := Lib.hid h2; clear hg h2)
        | (go_at_call 64; (with_reducible refine (c64_ne a2 a' c2 c' (vals l).length out.length HN.out w2).mono ?_); rintro e w3 ⟨rfl, hg⟩
           have HG3 := Lib.hid (HG2.out.trans hg); clear hg))
      go_ret
      exact ⟨by rw [HP.out]; rfl, HG3.out⟩
theorem c37_no (a : Option Addr) (v : Value) (c : Nat) (l : List Rc) (out : List Int) (hl : l.length < 1000000) (hr : Rcs l) (w : World) (hat : RecAt w a l) (ho : ordP l = false) :
    Calls Try.prog 37 #[.slice a l.length c, v] w fun e w' => e = .returned (.bool (beginsP l out)) ∧ w.grownBy w' none := by
  have HA := Lib.hid hat
  have HR := Lib.hid hr
  clear hat hr
  have HP : Hid (beginsP l out = false) := Lib.hid (by unfold beginsP; rw [ho]; rfl)
  have K34 : ∀ w, RecAt w a l → Calls Try.prog 34 #[.slice a l.length c] w fun e w' => e = .returned (.bool (ordP l)) ∧ w.grownBy w' none := fun w h => c34 a c l hl HR.out w h
  rw [ho] at K34
  have H34 := Lib.hid K34
  clear K34 ho
  go_enter Try.func37, Try.ntmps37
  go_wp2_with (first
    | (go_at_call 32; (with_reducible refine (c32 a c l hl HR.out w HA.out).mono ?_); rintro e w2 ⟨a2, c2, rfl, h2, hg⟩
       have HG2 := Lib.hid hg; have H2 := Lib.hid h2; clear hg h2)
    | (go_at_call 34; (with_reducible refine (H34.out w2 (by exact recAt_by HA.out HG2.out)).mono ?_); rintro e w3 ⟨rfl, hg⟩; have HG := Lib.hid (HG2.out.trans hg); clear hg))
  go_ret
  exact ⟨by rw [HP.out]; rfl, HG.out⟩
/-- How a slice of words may stand: nil, or with an address and room. -/
def IntV (w : World) (v : Value) (out : List Int) : Prop :=
  (v = .slice none 0 0 ∧ out = []) ∨ ∃ (ad : Addr) (c : Nat), v = .slice (some ad) out.length c ∧ out.length ≤ c ∧ c ≤ 9223372036854775807 ∧ IntAt w (some ad) out
theorem intV_at {w : World} {v : Value} {out : List Int} (h : IntV w v out) : ∃ a c, v = .slice a out.length c ∧ IntAt w a out := by
  rcases h with ⟨rfl, rfl⟩ | ⟨ad, c, rfl, _, _, h⟩
  · exact ⟨none, 0, rfl, fun k hk => absurd hk (by simp)⟩
  · exact ⟨_, c, rfl, h⟩
theorem intV_by {w w' : World} {v : Value} {out : List Int} (h : IntV w v out) (hg : w.grownBy w' none) : IntV w' v out := by
  rcases h with h | ⟨ad, c, e, h1, h2, h⟩
  · exact Or.inl h
  · exact Or.inr ⟨ad, c, e, h1, h2, intAt_by h hg⟩
set_option maxHeartbeats 4000000 in
theorem c37 (a : Option Addr) (v : Value) (c : Nat) (l : List Rc) (out : List Int) (hl : l.length < 1000000) (hout : out.length < 1000000) (hr : Rcs l) (w : World) (hat : RecAt w a l) (hou : IntV w v out) :
    Calls Try.prog 37 #[.slice a l.length c, v] w fun e w' => e = .returned (.bool (beginsP l out)) ∧ w.grownBy w' none := by
  cases ho : ordP l
  · exact c37_no a v c l out hl hr w hat ho
  · have HA := Lib.hid hat
    have HO := Lib.hid hou
    have HR := Lib.hid hr
    have hv := length_vals l
    clear hat hr
    have K34 : ∀ w, RecAt w a l → Calls Try.prog 34 #[.slice a l.length c] w fun e w' => e = .returned (.bool (ordP l)) ∧ w.grownBy w' none := fun w h => c34 a c l hl HR.out w h
    rw [ho] at K34
    have H34 := Lib.hid K34
    clear K34
    by_cases hn : (vals l).length ≤ out.length
    · have HP : Hid (beginsP l out = (vals l == out.take (vals l).length)) := Lib.hid (by unfold beginsP; rw [ho, decide_eq_true hn]; rfl)
      have ht : Hid ((vals l).length = (out.take (vals l).length).length) := Lib.hid (by rw [List.length_take]; omega)
      clear ho
      rcases hou with ⟨rfl, rfl⟩ | ⟨ad, c', rfl, hc1, hc2, hou⟩
      · have h0 : (vals l).length = 0 := by simpa using hn
        have H0 := Lib.hid h0
        have hle : decide (((vals l).length : Int) ≤ 0) = true := decide_eq_true (by omega)
        clear h0 hn
        go_enter Try.func37, Try.ntmps37
        go_wp2_with (first
          | (go_at_call 32; (with_reducible refine (c32 a c l hl HR.out w HA.out).mono ?_); rintro e w2 ⟨a2, c2, rfl, h2, hg⟩
             have HG2 := Lib.hid hg; have H2 := Lib.hid h2; clear hg h2; rw [H0.out])
          | (go_at_call 34; (with_reducible refine (H34.out w2 (by exact recAt_by HA.out HG2.out)).mono ?_); rintro e w3 ⟨rfl, hg⟩; have HG := Lib.hid (HG2.out.trans hg); have H2' := Lib.hid (intAt_by H2.out hg); clear hg)
          | (go_at_call 64; (refine Calls.mono (by have K := c64_eq a2 none c2 0 (vals l) [] (by rw [H0.out]; rfl) (by rw [H0.out]; decide) w3 H2'.out (fun k hk => absurd hk (by simp)); rw [H0.out] at K; exact K) ?_); rintro e w4 ⟨rfl, hg⟩
             have HG3 := Lib.hid (HG.out.trans hg); clear hg))
        go_ret
        refine ⟨?_, HG3.out⟩
        rw [HP.out]; simp
      · go_enter Try.func37, Try.ntmps37
        go_wp2_with (first
          | (go_at_call 32; (with_reducible refine (c32 a c l hl HR.out w HA.out).mono ?_); rintro e w2 ⟨a2, c2, rfl, h2, hg⟩
             have HG2 := Lib.hid hg; have H2 := Lib.hid h2; clear hg h2)
          | (go_at_call 34; (with_reducible refine (H34.out w2 (by exact recAt_by HA.out HG2.out)).mono ?_); rintro e w3 ⟨rfl, hg⟩; have HG := Lib.hid (HG2.out.trans hg); have H2' := Lib.hid (intAt_by H2.out hg); clear hg)
          | (go_at_call 64; (with_reducible refine (c64_eq a2 (some ad) c2 c' (vals l) (out.take (vals l).length) ht.out (by omega) w3 (by exact H2'.out) (by exact intAt_take (intAt_by hou HG.out) hn)).mono ?_); rintro e w4 ⟨rfl, hg⟩
             have HG3 := Lib.hid (HG.out.trans hg); clear hg))
        go_ret
        exact ⟨by rw [HP.out]; rfl, HG3.out⟩
    · have HP : Hid (beginsP l out = false) := Lib.hid (by unfold beginsP; rw [decide_eq_false hn]; simp)
      obtain ⟨a', c', rfl, _⟩ := intV_at hou
      have hle : decide (((vals l).length : Int) ≤ out.length) = false := by simp; omega
      clear ho hou
      go_enter Try.func37, Try.ntmps37
      go_wp2_with (first
        | (go_at_call 32; (with_reducible refine (c32 a c l hl HR.out w HA.out).mono ?_); rintro e w2 ⟨a2, c2, rfl, h2, hg⟩
           have HG2 := Lib.hid hg; have H2 := Lib.hid h2; clear hg h2)
        | (go_at_call 34; (with_reducible refine (H34.out w2 (by exact recAt_by HA.out HG2.out)).mono ?_); rintro e w3 ⟨rfl, hg⟩; have HG := Lib.hid (HG2.out.trans hg); clear hg))
      go_ret
      exact ⟨by rw [HP.out]; rfl, HG.out⟩
end Go.Proofs.Ytipfefkddnogjaa
