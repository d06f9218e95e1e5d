/-
  Lex (layer 7): reading step by step, plainly.
-/
import Derived.Test.YtoffbjfgledjfaaDoorLyI
namespace Go.Proofs.YtoffbjfgledjfaaDoor
open Go.RowKit
set_option linter.unusedVariables false
set_option linter.unusedSimpArgs false
set_option linter.unnecessarySimpa false
theorem O.retc3 {P : Program} {N : Nat} {s : List (Nat × Value)} {w : World} {fn : Func} {R : Ending → World → Prop} {t0 t u : Nat} {ty : TypeId} {p : Addr} {v0 v v' : Value} (hr : fn.results = #[.tmp t0, .cell t ty, .tmp u]) (hv0 : lk s t0 = some v0) (hv : lk s t = some (.pointer (some p))) (hv' : lk s u = some v') (hl : (loadVar ty p).run P w = .ok v w) (h : R (.returned (.tuple #[v0, v, v'])) w) : Xw .ret N (bodyPost P fn R) s w := fun a k => by
  refine ⟨k.defers, .tuple #[v0, v, v'], ?_, h⟩
  have h0 := k.has t0 _ hv0
  have h1 := k.has t _ hv
  have h2 := k.has u v' hv'
  simp [results, hr, h0, h1, h2, asAddr, hl]
theorem more_lex : ∀ (f g : Nat) (s : List UInt8) (p : Int × Int), s.length < f → s.length < g → lexF f s p = lexF g s p
  | 0, _, _, _, h, _ => by omega
  | _ + 1, 0, _, _, _, h => by omega
  | f + 1, g + 1, s, p, hf, hg => by
    unfold lexF
    cases hb : blankF s with
    | none => rfl
    | some n =>
      cases n with
      | succ n =>
        have := blank_le hb
        exact more_lex f g _ _ (by rw [List.length_drop]; omega) (by rw [List.length_drop]; omega)
      | zero =>
        simp only []
        by_cases hs : s = []
        · rw [if_pos hs, if_pos hs]
        · rw [if_neg hs, if_neg hs]
          cases ht : tokF s with
          | error e => rfl
          | ok t =>
            obtain ⟨hG, hT, hl⟩ := tok_good hs hb ht
            have h1 : 1 ≤ t.t.length := by
              rcases Nat.eq_zero_or_pos t.t.length with q | q
              · exact absurd (List.eq_nil_of_length_eq_zero q) hG.ne
              · exact q
            simp only []
            rw [more_lex f g _ _ (by rw [List.length_drop]; omega) (by rw [List.length_drop]; omega)]
/-- A reading, step by step. -/
def NxL (F : Nat) (s : List UInt8) (p : Int × Int) : Except (Int × Int × Int) (Option (Tk × Int × Int) × List UInt8 × Int × Int) → Prop
  | .error x => lexF F s p = .error x ∧ x.1 ≠ 0
  | .ok (none, u, a) => lexF F s p = .ok ([], a)
  | .ok (some (t, b), u, a) => t.k ≠ 0 ∧ Good t ∧ u.length + t.t.length ≤ s.length ∧ u.length < s.length ∧ 0 ≤ a.1 ∧ a.1 ≤ p.1 + ((s.length : Int) - u.length) ∧ 0 ≤ a.2 ∧ a.2 ≤ p.2 + 2 * ((s.length : Int) - u.length) ∧ ∀ g, u.length < g → lexF F s p = (lexF g u a).map fun x => ((t, b) :: x.1, x.2)
theorem tok_kind {s : List UInt8} {t : Tk} (h : tokF s = .ok t) : t.k ≠ 0 := by
  unfold tokF at h
  split at h
  · unfold nameF at h
    split at h
    · cases h
    · injection h with h; subst h; show (if _ then (2 : Int) else 1) ≠ 0; split <;> decide
  · split at h
    · unfold numF at h
      split at h
      · cases h
      · split at h
        · cases h
        · injection h with h; subst h; first | (show (3 : Int) ≠ 0; decide) | (show (4 : Int) ≠ 0; decide)
    · split at h
      · unfold chrF at h
        split at h
        · cases h
        · split at h
          · cases h
          · injection h with h; subst h; first | (show (3 : Int) ≠ 0; decide) | (show (4 : Int) ≠ 0; decide)
      · unfold markF at h
        split at h
        · cases h
        · injection h with h; subst h; first | (show (3 : Int) ≠ 0; decide) | (show (4 : Int) ≠ 0; decide)
theorem nx_lex : ∀ (f : Nat) (s : List UInt8) (p : Int × Int) (F : Nat), s.length < f → s.length < F → 0 ≤ p.1 → 0 ≤ p.2 → NxL F s p (nxF f s p)
  | 0, _, _, _, h, _, _, _ => by omega
  | f + 1, s, p, 0, _, h, _, _ => by omega
  | f + 1, s, p, F + 1, hf, hF, h1, h2 => by
    cases hb : blankF s with
    | none =>
      rw [nx_none hb]
      refine ⟨?_, by show (3 : Int) ≠ 0; decide⟩
      unfold lexF
      rw [hb]
    | some n =>
      cases n with
      | succ n =>
        have hle := blank_le hb
        obtain ⟨a1, a2, a3, a4⟩ := after_in p h1 h2 (s.take (n + 1))
        rw [List.length_take] at a2 a4
        have ih := nx_lex f (s.drop (n + 1)) (afterF p (s.take (n + 1))) F (by rw [List.length_drop]; omega) (by rw [List.length_drop]; omega) (by omega) a3
        rw [nx_more hb]
        have e : lexF (F + 1) s p = lexF F (s.drop (n + 1)) (afterF p (s.take (n + 1))) := by
          conv => lhs; unfold lexF
          rw [hb]
        revert ih
        generalize nxF f (s.drop (n + 1)) (afterF p (s.take (n + 1))) = x
        intro ih
        match x, ih with
        | .error x, ih => exact ⟨by rw [e]; exact ih.1, ih.2⟩
        | .ok (none, u, a), ih => exact e.trans ih
        | .ok (some (t, b), u, a), ih =>
          obtain ⟨i1, i2, i3, i4, i5, i6, i7, i8, i9⟩ := ih
          rw [List.length_drop] at i3 i4 i6 i8
          refine ⟨i1, i2, by omega, by omega, i5, by omega, i7, by omega, fun g hg => by rw [e]; exact i9 g hg⟩
      | zero =>
        by_cases hs : s = []
        · subst hs
          rw [nx_end]
          show lexF (F + 1) [] p = _
          unfold lexF
          simp [show blankF [] = some 0 from rfl]
        · cases ht : tokF s with
          | error e =>
            rw [nx_err hb hs ht]
            refine ⟨?_, by show e ≠ 0; rcases tok_err ht with rfl | rfl | rfl <;> decide⟩
            unfold lexF
            rw [hb]
            simp only []
            rw [if_neg hs, ht]
          | ok t =>
            obtain ⟨hG, hT, hl⟩ := tok_good hs hb ht
            have h1' : 1 ≤ t.t.length := by
              rcases Nat.eq_zero_or_pos t.t.length with q | q
              · exact absurd (List.eq_nil_of_length_eq_zero q) hG.ne
              · exact q
            obtain ⟨a1, a2, a3, a4⟩ := after_in p h1 h2 t.t
            rw [nx_tok hb hs ht]
            refine ⟨tok_kind ht, hG, by rw [List.length_drop]; omega, by rw [List.length_drop]; omega, by omega, by rw [List.length_drop]; omega, a3, by rw [List.length_drop]; omega, fun g hg => ?_⟩
            conv => lhs; unfold lexF
            rw [hb]
            simp only []
            rw [if_neg hs, ht]
            simp only []
            rw [more_lex F g _ _ (by rw [List.length_drop]; omega) hg]
end Go.Proofs.YtoffbjfgledjfaaDoor
