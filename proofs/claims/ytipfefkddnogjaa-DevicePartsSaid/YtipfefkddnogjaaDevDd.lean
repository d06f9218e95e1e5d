/-
  The contract of skip (layer 3).
-/
import Derived.Test.YtipfefkddnogjaaDevCc
import Derived.LoopTactic
namespace Go.Proofs.Ytipfefkddnogjaa
open Go.RowKit
set_option linter.unusedVariables false
set_option linter.unusedSimpArgs false
/-- A slice of numbers: nothing, or cells in a block. -/
def I64s (P : Nat → Prop) (w : World) (v : Value) (l : List Int) : Prop :=
  ∃ a c, v = .slice a l.length c ∧ l.length ≤ c ∧ c ≤ 9223372036854775807 ∧ (l = [] ∨ ∃ b o, a = some ⟨b, o, none⟩ ∧ P b ∧ ∀ k, k < l.length → w.cell? ⟨b, o + k, none⟩ = some (.int .i64 (l.getD k 0)))
def lenV : Value → Nat | .slice _ n _ => n | _ => 0
theorem I64s.tail {P : Nat → Prop} {w : World} {b o c n : Nat} {x : Int} {t : List Int} (hn : t.length = n) (hc : n + 1 ≤ c) (hcm : c ≤ 9223372036854775807) (hP : P b) (h : ∀ k, k < (x :: t).length → w.cell? ⟨b, o + k, none⟩ = some (.int .i64 ((x :: t).getD k 0))) :
    I64s P w (.slice (some ⟨b, o + 1, none⟩) n (c - 1)) t := by
  refine ⟨_, _, by rw [hn], by omega, by omega, .inr ⟨b, o + 1, rfl, hP, fun k hk => ?_⟩⟩
  have := h (k + 1) (by simp; omega)
  rw [show o + 1 + k = o + (k + 1) by omega, this]; rfl
theorem skip_lt {st x : Int} {t : List Int} (h : x < st) : skipM st (x :: t) = skipM st t := List.dropWhile_cons_of_pos (by simpa using h)
theorem skip_ge {st x : Int} {t : List Int} (h : ¬ x < st) : skipM st (x :: t) = x :: t := List.dropWhile_cons_of_neg (by simpa using h)
theorem c59 (P : Nat → Prop) (v : Value) (l : List Int) (st : Int) (w : World) (h : I64s P w v l) :
    Calls Try.prog 59 #[v, .int .i64 st] w fun e w' => (∃ v', e = .returned v' ∧ I64s P w v' (skipM st l)) ∧ w = w' := by
  have H := Lib.hid h
  clear h
  have H0 : Hid (∃ l', I64s P w v l' ∧ skipM st l' = skipM st l) := Lib.hid ⟨l, H.out, rfl⟩
  go_enter Try.func59, Try.ntmps59
  go_wp2
  go_loop [0] (fun v => Hid (∃ l', I64s P w v l' ∧ skipM st l' = skipM st l)) (fun v => lenV v)
  case atStart => exact H0
  case round =>
    obtain ⟨l', ⟨a, c, rfl, hc, hcm, hl⟩, hs⟩ := hrel.out
    have hS := Lib.hid hs
    clear hs hrel H0
    cases l' with
    | nil =>
      clear hl hc
      go_wp2
      go_ret
      exact ⟨⟨_, rfl, by rw [← hS.out]; exact ⟨a, c, rfl, Nat.zero_le _, hcm, .inl rfl⟩⟩, rfl⟩
    | cons x t =>
      obtain ⟨b, o, rfl, hP, hcell⟩ := hl.resolve_left (by simp)
      have c0 : w.cell? ⟨b, o, none⟩ = some (.int .i64 x) := hcell 0 (by simp)
      have HC := Lib.hid hcell
      have HP := Lib.hid hP
      obtain ⟨n, hn⟩ : ∃ n, t.length = n := ⟨_, rfl⟩
      have e1 : (x :: t).length = n + 1 := by simp [hn]
      rw [e1]
      have e2 : n + 1 ≤ c := by omega
      have HN := Lib.hid hn
      clear hl hP hcell hn e1 hc
      by_cases hx : x < st
      · by_cases h1 : c = 1
        · obtain rfl : n = 0 := by omega
          subst h1
          go_wp2
          refine ⟨Lib.hid ⟨t, ⟨_, 0, by rw [HN.out], by rw [HN.out]; exact Nat.le_refl _, by omega, .inl (List.length_eq_zero_iff.1 HN.out)⟩, ?_⟩, by simp [lenV]⟩
          rw [← hS.out, skip_lt hx]
        · go_wp2
          refine ⟨Lib.hid ⟨t, I64s.tail HN.out e2 hcm HP.out HC.out, ?_⟩, by simp [lenV]⟩
          rw [← hS.out, skip_lt hx]
      · go_wp2
        go_ret
        refine ⟨⟨.slice (some ⟨b, o, none⟩) (n + 1) c, rfl, ?_⟩, rfl⟩
        rw [← hS.out, skip_ge (Int.not_lt.2 hx)]
        exact ⟨_, c, by rw [List.length_cons, HN.out], by rw [List.length_cons, HN.out]; exact e2, hcm, .inr ⟨b, o, rfl, HP.out, HC.out⟩⟩
end Go.Proofs.Ytipfefkddnogjaa
