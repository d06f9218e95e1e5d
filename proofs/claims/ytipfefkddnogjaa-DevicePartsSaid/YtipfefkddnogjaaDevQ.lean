/-
  Runs of a machine (layer 3) as plain data: a run of so many steps is one of fewer, and then of these.
-/
import Derived.Test.YtipfefkddnogjaaDevP
namespace Go.Proofs.Ytipfefkddnogjaa
open Go.RowKit
set_option linter.unusedVariables false
set_option linter.unusedSimpArgs false
theorem updN_same (f : Nat → Int) (k : Nat) (v : Int) : updN f k v k = v := by simp [updN]
theorem updN_other {f : Nat → Int} {k o : Nat} {v : Int} (h : o ≠ k) : updN f k v o = f o := by simp [updN, h]
theorem setR_other {c : Nat → Int} {r o : Nat} {v : Int} (h : o ≠ r) : setR c r v o = c o := by
  unfold setR; split
  · rfl
  · exact updN_other h
theorem storeM_steps {L : Lay} {s t : MSt} {op a v : Int} (h : storeM L s op a v = some t) : t.c 39 = s.c 39 := by
  unfold storeM at h
  (repeat' split at h) <;> simp only [Option.some.injEq, reduceCtorEq] at h <;> subst h <;> simp [updN]
theorem exec5_steps {L : Lay} {op imm : Int} {rd r1 r2 : Nat} {s t : MSt} (hr : rd < 32) (h : exec5 L op rd r1 r2 imm s = some t) : t.c 39 = s.c 39 := by
  have e1 : ∀ v, setR s.c rd v 39 = s.c 39 := fun v => setR_other (by omega)
  unfold exec5 at h
  split at h; · simp at h
  split at h; · simp only [Option.some.injEq] at h; subst h; simp [updN, e1]
  split at h; · simp only [Option.some.injEq] at h; subst h; simp [updN, e1]
  split at h; · simp only [Option.some.injEq] at h; subst h; simp [updN, e1]
  split at h; · simp only [Option.some.injEq] at h; subst h; simp [updN, e1]
  split at h; · simp only [Option.some.injEq] at h; subst h; simp [updN, e1]
  split at h
  · simp only [Option.map_eq_some_iff] at h
    obtain ⟨v, _, rfl⟩ := h
    simp [updN, e1]
  split at h
  · simp only [Option.map_eq_some_iff] at h
    obtain ⟨u, hu, rfl⟩ := h
    have := storeM_steps hu
    simp [updN, this]
  · simp only [Option.some.injEq] at h; subst h; simp [updN, e1]
theorem fetch_ok {L : Lay} (h : CodeOk L) (s : MSt) : (fetchM L s).length = 5 ∧ 0 ≤ (fetchM L s).getD 0 0 ∧ (fetchM L s).getD 0 0 ≤ 45 ∧ (0 ≤ (fetchM L s).getD 1 0 ∧ (fetchM L s).getD 1 0 < 32) ∧ (0 ≤ (fetchM L s).getD 2 0 ∧ (fetchM L s).getD 2 0 < 32) ∧ (0 ≤ (fetchM L s).getD 3 0 ∧ (fetchM L s).getD 3 0 < 32) := by
  unfold fetchM
  split
  · rename_i hc
    by_cases hn : (s.c 32 / 4).toNat < L.code.length
    · refine h.2 _ ?_
      rw [List.getD_eq_getElem?_getD, List.getElem?_eq_getElem hn]
      exact List.getElem_mem hn
    · have := h.1
      exfalso; omega
  · simp
theorem adv_steps {L : Lay} (h : CodeOk L) (s : MSt) : (advM L s).c 40 ≠ 0 ∨ (advM L s).c 39 = s.c 39 + 1 := by
  unfold advM
  split
  · rename_i t ht
    right
    have := exec5_steps (by have := (fetch_ok h s).2.2.2.1; omega) ht
    simp [updN, this]
  · left; simp [updN]
theorem runM_stop {L : Lay} {n : Int} {s : MSt} (f : Nat) (l : List Int) (h : ¬ (s.c 40 = 0 ∧ s.c 39 < n)) : runM L n f l s = s := by
  cases f with
  | zero => rfl
  | succ f => rw [runM, if_neg h]
def enough (n : Int) (f : Nat) (s : MSt) : Prop := s.c 40 = 0 → (n - s.c 39).toNat ≤ f
/-- One round. -/
def roundM (L : Lay) (l : List Int) (s : MSt) : List Int × MSt :=
  match skipM (s.c 39) l with
  | [] => ([], advM L s)
  | x :: t => if x = s.c 39 then (t, advM L (failM s)) else (x :: t, advM L s)
theorem runM_round {L : Lay} {n : Int} {f : Nat} {l : List Int} {s : MSt} (h : s.c 40 = 0 ∧ s.c 39 < n) : runM L n (f + 1) l s = runM L n f (roundM L l s).1 (roundM L l s).2 := by
  rw [runM, if_pos h]
  unfold roundM
  cases skipM (s.c 39) l with
  | nil => rfl
  | cons x t => by_cases hx : x = s.c 39 <;> simp [hx]
theorem fail_steps (s : MSt) : (failM s).c 39 = s.c 39 ∧ (failM s).c 40 = s.c 40 := by simp [failM]
theorem round_steps {L : Lay} (h : CodeOk L) (l : List Int) (s : MSt) : (roundM L l s).2.c 40 ≠ 0 ∨ (roundM L l s).2.c 39 = s.c 39 + 1 := by
  unfold roundM
  split
  · exact adv_steps h s
  · split
    · have := adv_steps h (failM s); rw [(fail_steps s).1] at this; exact this
    · exact adv_steps h s
theorem enough_round {L : Lay} (hc : CodeOk L) {n : Int} {f : Nat} {l : List Int} {s : MSt} (h : s.c 40 = 0 ∧ s.c 39 < n) (he : enough n (f + 1) s) : enough n f (roundM L l s).2 := by
  intro h0
  have h1 := he h.1
  rcases round_steps hc l s with h2 | h2
  · exact absurd h0 h2
  · rw [h2]; omega
theorem runM_fuel {L : Lay} (hc : CodeOk L) {n : Int} : ∀ (f g : Nat) (l : List Int) (s : MSt), enough n f s → enough n g s → runM L n f l s = runM L n g l s := by
  intro f
  induction f with
  | zero =>
    intro g l s hf hg
    have hn : ¬ (s.c 40 = 0 ∧ s.c 39 < n) := fun h => by have := hf h.1; omega
    rw [runM_stop _ _ hn, runM_stop _ _ hn]
  | succ f ih =>
    intro g l s hf hg
    by_cases h : s.c 40 = 0 ∧ s.c 39 < n
    · cases g with
      | zero => have := hg h.1; omega
      | succ g =>
        rw [runM_round h, runM_round h]
        exact ih g _ _ (enough_round hc h hf) (enough_round hc h hg)
    · rw [runM_stop _ _ h, runM_stop _ _ h]
theorem runM_congr {L : Lay} {n : Int} {f : Nat} {l l' : List Int} {s : MSt} (h : s.c 40 = 0 → skipM (s.c 39) l = skipM (s.c 39) l') : runM L n f l s = runM L n f l' s := by
  by_cases hr : s.c 40 = 0 ∧ s.c 39 < n
  · cases f with
    | zero => rfl
    | succ f =>
      rw [runM_round hr, runM_round hr]
      unfold roundM
      rw [h hr.1]
  · rw [runM_stop _ _ hr, runM_stop _ _ hr]
/-- Rising lists. -/
def Rising (l : List Int) : Prop := l.Pairwise (· < ·)
theorem skip_filter {l : List Int} (h : Rising l) (st : Int) : skipM st l = l.filter fun x => decide (st ≤ x) := by
  induction l with
  | nil => rfl
  | cons a t ih =>
    obtain ⟨h1, h2⟩ := List.pairwise_cons.1 h
    unfold skipM
    by_cases ha : a < st
    · rw [List.dropWhile_cons_of_pos (by simpa using ha), List.filter_cons_of_neg (by simpa using ha)]
      exact ih h2
    · rw [List.dropWhile_cons_of_neg (by simpa using ha), List.filter_cons_of_pos (by simpa using Int.not_lt.1 ha)]
      congr 1
      symm
      rw [List.filter_eq_self]
      intro x hx
      have := h1 x hx
      simp; omega
theorem skip_more {l : List Int} (h : Rising l) {st st' : Int} (hs : st ≤ st') : skipM st' (skipM st l) = skipM st' l := by
  rw [skip_filter h, skip_filter (h.filter _), skip_filter h, List.filter_filter]
  congr 1
  funext x
  by_cases h1 : st' ≤ x
  · have : st ≤ x := by omega
    simp [h1, this]
  · simp [h1]
theorem round_skip {L : Lay} {l l0 : List Int} {s : MSt} (h0 : Rising l0) (hl : skipM (s.c 39) l = skipM (s.c 39) l0) :
    skipM (s.c 39 + 1) (roundM L l s).1 = skipM (s.c 39 + 1) l0 := by
  have hm := skip_more h0 (show s.c 39 ≤ s.c 39 + 1 by omega)
  rw [← hl] at hm
  rw [← hm]
  unfold roundM
  split
  · rename_i e; rw [e]
  · rename_i x t e
    rw [e]
    split
    · rename_i hx
      show _ = List.dropWhile _ _
      rw [List.dropWhile_cons_of_pos (by simp; omega)]
      rfl
    · rfl
theorem runM_parts {L : Lay} (hc : CodeOk L) {l0 : List Int} (h0 : Rising l0) {k n : Int} (hkn : k ≤ n) : ∀ (f F F' : Nat) (l : List Int) (s : MSt), enough k f s → enough n F s →
    (s.c 40 = 0 → skipM (s.c 39) l = skipM (s.c 39) l0) → enough n F' (runM L k f l s) →
    runM L n F l s = runM L n F' (l0.filter fun x => decide ((runM L k f l s).c 39 ≤ x)) (runM L k f l s) := by
  intro f
  induction f with
  | zero =>
    intro F F' l s hk hF hl hF'
    have e : runM L k 0 l s = s := rfl
    rw [e] at hF' ⊢
    rw [runM_fuel hc F F' l s hF hF']
    refine runM_congr fun h => ?_
    rw [hl h, ← skip_filter h0, skip_more h0 (Int.le_refl _)]
  | succ f ih =>
    intro F F' l s hk hF hl hF'
    by_cases h : s.c 40 = 0 ∧ s.c 39 < k
    · have hn : s.c 40 = 0 ∧ s.c 39 < n := ⟨h.1, by omega⟩
      cases F with
      | zero => have := hF h.1; omega
      | succ F =>
        rw [runM_round h] at hF' ⊢
        rw [runM_round hn]
        refine ih F F' _ _ (enough_round hc h hk) (enough_round hc hn hF) (fun hz => ?_) hF'
        rcases round_steps hc l s with h2 | h2
        · exact absurd hz h2
        · rw [h2]
          exact round_skip h0 (hl h.1)
    · have e : runM L k (f + 1) l s = s := runM_stop _ _ h
      rw [e] at hF' ⊢
      rw [runM_fuel hc F F' l s hF hF']
      refine runM_congr fun h => ?_
      rw [hl h, ← skip_filter h0, skip_more h0 (Int.le_refl _)]
/-- A run to n steps. -/
def runE (L : Lay) (n : Int) (l : List Int) (s : MSt) : MSt := runM L n (n - s.c 39).toNat l s
theorem enough_E (n : Int) (s : MSt) : enough n (n - s.c 39).toNat s := fun _ => Nat.le_refl _
theorem runE_stop {L : Lay} {n : Int} {l : List Int} {s : MSt} (h : ¬ (s.c 40 = 0 ∧ s.c 39 < n)) : runE L n l s = s := runM_stop _ _ h
theorem runE_round {L : Lay} (hc : CodeOk L) {n : Int} {l : List Int} {s : MSt} (h : s.c 40 = 0 ∧ s.c 39 < n) : runE L n l s = runE L n (roundM L l s).1 (roundM L l s).2 := by
  have e := runM_fuel hc (n - s.c 39).toNat ((n - s.c 39).toNat + 1) l s (enough_E n s) (fun _ => by omega)
  unfold runE
  rw [e, runM_round h]
  exact runM_fuel hc _ _ _ _ (enough_round hc h (fun _ => by omega)) (enough_E _ _)
theorem runE_parts {L : Lay} (hc : CodeOk L) {l : List Int} (hl : Rising l) {k n : Int} (hkn : k ≤ n) (s : MSt) :
    runE L n l s = runE L n (l.filter fun x => decide ((runE L k l s).c 39 ≤ x)) (runE L k l s) :=
  runM_parts hc hl hkn _ _ _ l s (enough_E _ _) (enough_E _ _) (fun _ => rfl) (enough_E _ _)
end Go.Proofs.Ytipfefkddnogjaa
