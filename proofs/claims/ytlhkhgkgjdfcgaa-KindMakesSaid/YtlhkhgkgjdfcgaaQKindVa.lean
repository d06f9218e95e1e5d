/-
  Tables of types (layer 8): what is told of one type of a table.
-/
import Derived.Test.YtlhkhgkgjdfcgaaQKindUa
import Derived.Outline
namespace Go.Proofs.Ytlhkhgkgjdfcgaa
open Go.RowKit
set_option linter.unusedVariables false
set_option linter.unusedSimpArgs false
def fsOf (fss : Nat → List Fld) (n : Int) : List Fld := if n < 3 then [] else fss (n - 3).toNat
theorem firstEnt_lie (es : List Ent) (n : Int) : LieE es (firstEnt n) [] ∧ (firstEnt n).fn = 0 := by
  unfold firstEnt
  split
  · exact ⟨⟨fun e => absurd rfl e, .inl rfl, fun _ => ⟨rfl, rfl, rfl⟩, fun _ _ => ⟨rfl, rfl⟩, fun k hk => absurd hk (Nat.not_lt_zero _), Int.le_refl _⟩, rfl⟩
  · split
    · exact ⟨⟨fun _ => by decide, .inr (.inr rfl), fun _ => ⟨rfl, rfl, rfl⟩, fun e => (by cases e), fun k hk => absurd hk (Nat.not_lt_zero _), by show (0 : Int) ≤ 4; decide⟩, rfl⟩
    · exact ⟨⟨fun _ => by decide, .inr (.inl rfl), fun _ => ⟨rfl, rfl, rfl⟩, fun e => (by cases e), fun k hk => absurd hk (Nat.not_lt_zero _), by show (0 : Int) ≤ 1; decide⟩, rfl⟩
theorem lie_of {w0 w : World} {tb : Nat} {es : List Ent} {fss : Nat → List Fld} (ht : Tab w0 w tb es fss) (h : Lie es fss) {n : Int} (h0 : entE es n = 0) : LieE es (entF es n) (fsOf fss n) ∧ (entF es n).fn = (fsOf fss n).length ∧ FldAt w (entF es n).fa (entF es n).fn (fsOf fss n) ∧ (fsOf fss n).length ≤ 1000 := by
  unfold entE at h0
  unfold entF fsOf
  by_cases q0 : n < 0 ∨ 3 + (es.length : Int) ≤ n
  · rw [if_pos q0] at h0; cases h0
  · rw [if_neg q0]
    by_cases q1 : n < 3
    · rw [if_pos q1, if_pos q1]
      obtain ⟨a, b⟩ := firstEnt_lie es n
      exact ⟨a, b, ⟨b, fun k hk => absurd hk (Nat.not_lt_zero _)⟩, Nat.zero_le _⟩
    · rw [if_neg q1, if_neg q1]
      have hk : (n - 3).toNat < es.length := by omega
      obtain ⟨v, _, hfl⟩ := ht.ex
      exact ⟨h _ hk, Tab.fn_is ht _ hk, (hfl _ hk).1, ht.few _⟩
theorem type_tab {w0 w : World} {tb : Nat} {es : List Ent} {fss : Nat → List Fld} (ht : Tab w0 w tb es fss) (h : Lie es fss) {n : Int} (h0 : entE es n = 0) :
    Calls Try.prog 13 #[.pointer (some ⟨tb, 0, none⟩), .int .i64 n] w fun r w' => ∃ g2 c2, r = .returned (.tuple #[.agg #[.int .i64 (entF es n).kind, .int .i64 (entF es n).elem, .int .i64 (entF es n).len, .string (entF es n).name, .slice g2 (entF es n).fn c2], .int .i64 0]) ∧ Fr (fun _ => False) w w' ∧ FldAt w' g2 (entF es n).fn (fsOf fss n) := by
  obtain ⟨l1, l2, l3, l4⟩ := lie_of ht h h0
  obtain ⟨v, hv, _⟩ := ht.ex
  have H : EntH w (.pointer (some ⟨tb, 0, none⟩)) n 0 (entF es n) := by have := entry_ent hv n _ rfl; rw [h0] at this; exact this
  refine type_ok _ n _ w (fun g2 c2 V => FldAt V g2 (entF es n).fn (fsOf fss n)) H (Lib.hid fun W hW hlt => ?_)
  generalize entF es n = e at *
  generalize fsOf fss n = fs at *
  by_cases hf : fs = []
  · obtain ⟨e1, e2, e3⟩ := l1.nof hf
    rw [e1, e2, e3]
    refine (clone_nil W).mono fun r w' ⟨a, b⟩ => ⟨none, 0, a, b ▸ Fr.refl _ _, fun V _ => ⟨by rw [hf]; rfl, fun k hk => by rw [hf] at hk; simp at hk⟩⟩
  · have hl : 1 ≤ fs.length := List.length_pos_iff.2 hf
    obtain ⟨g, o, ea, _⟩ := l3.2 0 (by omega)
    have l3' := l3.quiet hW
    rw [ea] at l3' ⊢
    refine (clone_at W g o e.fn e.fc fs l3' ⟨hl, l4⟩).mono fun r w' hr => ?_
    obtain ⟨g2, c2, r1, r2, r3, r4, r5⟩ := hr
    refine ⟨some ⟨g2, 0, none⟩, c2, r1, r3, fun V hV => r2.kept hV (fun g' o' e' _ hh => ?_)⟩
    injection e' with e'
    injection e' with e'
    omega
theorem lie_up {es : List Ent} {e : Ent} {fs : List Fld} (h : LieE es e fs) (hok : EsOk es) : ∀ k, k < fs.length → endAt es fs k ≤ (fs.getD k fld0).off ∧ endAt es fs (k + 1) = (fs.getD k fld0).off + (entF es (fs.getD k fld0).type).size ∧ (fs.getD k fld0).off ≤ endAt es fs (k + 1) := by
  intro k hk
  have h1 := (h.fld k hk).1
  have h2 : endAt es fs (k + 1) = (fs.getD k fld0).off + (entF es (fs.getD k fld0).type).size := by
    unfold endAt
    rw [if_neg (by omega), Nat.add_sub_cancel]
  have h3 := (entF_ok hok (fs.getD k fld0).type).1.1
  exact ⟨h1, h2, by omega⟩
theorem lie_ge {es : List Ent} {e : Ent} {fs : List Fld} (h : LieE es e fs) (hok : EsOk es) : ∀ k, k ≤ fs.length → 0 ≤ endAt es fs k := by
  intro k
  induction k with
  | zero => intro _; exact Int.le_refl _
  | succ k ih =>
    intro hk
    obtain ⟨a, b, c⟩ := lie_up h hok k (by omega)
    have := ih (by omega)
    omega
theorem lie_le {es : List Ent} {e : Ent} {fs : List Fld} (h : LieE es e fs) (hok : EsOk es) : ∀ d k, k + d = fs.length → endAt es fs k ≤ endAt es fs fs.length := by
  intro d
  induction d with
  | zero => intro k hk; rw [← hk]; exact Int.le_refl _
  | succ d ih =>
    intro k hk
    obtain ⟨a, b, c⟩ := lie_up h hok k (by omega)
    have := ih (k + 1) (by omega)
    omega
/-- All that a round over the fields needs. -/
theorem lie_field {es : List Ent} {e : Ent} {fs : List Fld} (h : LieE es e fs) (hok : EsOk es) (he : e.size ≤ 32768) {k : Nat} (hk : k < fs.length) {f : Fld} (hf : fs.getD k fld0 = f) :
    (0 ≤ endAt es fs k ∧ endAt es fs k ≤ f.off ∧ f.off ≤ 32768) ∧ (1 ≤ (entF es f.type).align ∧ (entF es f.type).align ≤ 4) ∧ f.off.tmod (entF es f.type).align = 0 ∧ e.align.tmod (entF es f.type).align = 0 ∧ (0 ≤ (entF es f.type).size ∧ (entF es f.type).size ≤ 32768) ∧ endAt es fs (k + 1) = f.off + (entF es f.type).size := by
  obtain ⟨f1, f2, f3, f4⟩ := h.fld k hk
  obtain ⟨a, b, c⟩ := lie_up h hok k hk
  have d1 := lie_ge h hok k (by omega)
  have d2 := lie_le h hok (fs.length - (k + 1)) (k + 1) (by omega)
  have d3 := h.fin
  subst hf
  have o := entF_ok hok (fs.getD k fld0).type
  exact ⟨⟨d1, a, by omega⟩, ⟨f2, o.2.1.2⟩, Int.tmod_eq_zero_of_dvd (Int.dvd_of_emod_eq_zero f3), Int.tmod_eq_zero_of_dvd (Int.dvd_of_emod_eq_zero f4), o.1, b⟩
end Go.Proofs.Ytlhkhgkgjdfcgaa
