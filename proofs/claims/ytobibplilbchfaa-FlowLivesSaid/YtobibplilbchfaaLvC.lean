/-
  Flow (layer 16): what is live, spread backward over the predecessors, plainly.
-/
import Derived.Test.YtobibplilbchfaaLvB
namespace Go.Proofs.Ytobibplilbchfaa
open Go.RowKit
set_option linter.unusedVariables false
set_option linter.unusedSimpArgs false
set_option linter.unnecessarySimpa false
def bit (l : List (List Bool)) (b r : Nat) : Bool := (l.getD b []).getD r false
def setB (l : List (List Bool)) (b r : Nat) : List (List Bool) := l.set b ((l.getD b []).set r true)
theorem getD_setT {α : Type} (l : List α) (k j : Nat) (x d : α) (hk : k < l.length) : (l.set k x).getD j d = if j = k then x else l.getD j d := getD_setV l k j x d hk
theorem bit_set {l : List (List Bool)} {b r : Nat} (hb : b < l.length) (hr : r < (l.getD b []).length) (b' r' : Nat) : bit (setB l b r) b' r' = if b' = b ∧ r' = r then true else bit l b' r' := by
  unfold bit setB
  rw [getD_setT _ _ _ _ _ hb]
  by_cases e : b' = b
  · subst e
    rw [if_pos rfl, getD_setT _ _ _ _ _ hr]
    by_cases e2 : r' = r
    · rw [if_pos e2, if_pos ⟨rfl, e2⟩]
    · rw [if_neg e2, if_neg (fun q => e2 q.2)]
  · rw [if_neg e, if_neg (fun q => e q.1)]
theorem setB_len (l : List (List Bool)) (b r : Nat) : (setB l b r).length = l.length := by simp [setB]
theorem setB_row {l : List (List Bool)} {b r : Nat} (hb : b < l.length) (k : Nat) : ((setB l b r).getD k []).length = (l.getD k []).length := by
  unfold setB
  rw [getD_setT _ _ _ _ _ hb]
  split
  · rename_i e; rw [List.length_set, e]
  · rfl
def cntF : List (List Bool) → Nat
  | [] => 0
  | l :: ls => l.count false + cntF ls
theorem count_set1 : ∀ (l : List Bool) (r : Nat), r < l.length → l.getD r false = false → (l.set r true).count false + 1 = l.count false
  | [], r, h, _ => by simp at h
  | x :: l, 0, _, h => by
    have : x = false := by simpa using h
    subst this
    simp
  | x :: l, r + 1, h, hx => by
    have := count_set1 l r (by simpa using h) (by simpa using hx)
    rw [List.set_cons_succ, List.count_cons, List.count_cons]
    omega
theorem cnt_set : ∀ (ls : List (List Bool)) (b r : Nat), b < ls.length → r < (ls.getD b []).length → bit ls b r = false → cntF (setB ls b r) + 1 = cntF ls
  | [], b, r, h, _, _ => by simp at h
  | l :: ls, 0, r, _, hr, hx => by
    have := count_set1 l r (by simpa using hr) (by simpa [bit] using hx)
    show (l.set r true).count false + cntF ls + 1 = l.count false + cntF ls
    omega
  | l :: ls, b + 1, r, h, hr, hx => by
    have := cnt_set ls b r (by simpa using h) (by simpa using hr) (by simpa [bit] using hx)
    show l.count false + cntF (setB ls b r) + 1 = l.count false + cntF ls
    omega
theorem cntF_le : ∀ (ls : List (List Bool)) (m : Nat), (∀ k, k < ls.length → (ls.getD k []).length = m) → cntF ls ≤ ls.length * m
  | [], m, _ => by simp [cntF]
  | l :: ls, m, h => by
    have h0 : l.length = m := by simpa using h 0 (by simp)
    have h1 := cntF_le ls m (fun k hk => by simpa using h (k + 1) (by simpa using hk))
    have h2 : l.count false ≤ l.length := List.count_le_length
    show l.count false + cntF ls ≤ _
    rw [List.length_cons, Nat.succ_mul]
    omega
section
variable {n m : Nat} {pl sl : List (List Int)} {il0 ol0 il ol : List (List Bool)} {wk : List (Nat × Nat)}
inductive LI (n m : Nat) (pl sl : List (List Int)) (il0 : List (List Bool)) : Nat → Nat → Prop
  | gen {b r : Nat} : b < n → r < m → bit il0 b r = true → LI n m pl sl il0 b r
  | step {s b r : Nat} : s < n → LI n m pl sl il0 s r → (b : Int) ∈ pl.getD s [] → b < n → (r : Int) ∉ sl.getD b [] → LI n m pl sl il0 b r
def LO (n m : Nat) (pl sl : List (List Int)) (il0 ol0 : List (List Bool)) (b r : Nat) : Prop := bit ol0 b r = true ∨ ∃ s, s < n ∧ LI n m pl sl il0 s r ∧ (b : Int) ∈ pl.getD s []
structure SpI (n m : Nat) (pl sl : List (List Int)) (il0 ol0 il ol : List (List Bool)) (wk : List (Nat × Nat)) (cur : Option (Nat × Nat × Nat)) : Prop where
  ni : il.length = n
  no : ol.length = n
  li : ∀ b, b < n → (il.getD b []).length = m
  lo : ∀ b, b < n → (ol.getD b []).length = m
  si : ∀ b r, b < n → r < m → bit il b r = true → LI n m pl sl il0 b r
  so : ∀ b r, b < n → r < m → bit ol b r = true → LO n m pl sl il0 ol0 b r
  mi : ∀ b r, b < n → r < m → bit il0 b r = true → bit il b r = true
  mo : ∀ b r, b < n → r < m → bit ol0 b r = true → bit ol b r = true
  co : ∀ b r, b < n → r < m → bit ol b r = true → (r : Int) ∈ sl.getD b [] ∨ bit il b r = true
  wi : ∀ x ∈ wk, x.1 < n ∧ x.2 < m ∧ bit il x.1 x.2 = true
  dn : ∀ s r, s < n → r < m → bit il s r = true → (s, r) ∈ wk ∨ (∃ k, cur = some (s, r, k) ∧ ∀ j b : Nat, j < k → (pl.getD s []).getD j 0 = (b : Int) → bit ol b r = true) ∨ ∀ b : Nat, b < n → (b : Int) ∈ pl.getD s [] → bit ol b r = true
theorem SpI.start (ni : il0.length = n) (no : ol0.length = n) (li : ∀ b, b < n → (il0.getD b []).length = m) (lo : ∀ b, b < n → (ol0.getD b []).length = m)
    (co : ∀ b r, b < n → r < m → bit ol0 b r = true → (r : Int) ∈ sl.getD b [] ∨ bit il0 b r = true) (hw : ∀ b r, (b, r) ∈ wk ↔ b < n ∧ r < m ∧ bit il0 b r = true) : SpI n m pl sl il0 ol0 il0 ol0 wk none :=
  ⟨ni, no, li, lo, fun b r hb hr h => .gen hb hr h, fun b r hb hr h => .inl h, fun _ _ _ _ h => h, fun _ _ _ _ h => h, co, fun x hx => (hw x.1 x.2).1 hx, fun s r hs hr h => .inl ((hw s r).2 ⟨hs, hr, h⟩)⟩
theorem SpI.pop {s r : Nat} (h : SpI n m pl sl il0 ol0 il ol (wk ++ [(s, r)]) none) : SpI n m pl sl il0 ol0 il ol wk (some (s, r, 0)) ∧ s < n ∧ r < m ∧ bit il s r = true := by
  have hx := h.wi (s, r) (by simp)
  refine ⟨⟨h.ni, h.no, h.li, h.lo, h.si, h.so, h.mi, h.mo, h.co, fun x hx => h.wi x (by simp [hx]), fun s' r' hs hr hb => ?_⟩, hx⟩
  rcases h.dn s' r' hs hr hb with q | ⟨k, q, _⟩ | q
  · rcases List.mem_append.1 q with q | q
    · exact .inl q
    · have : (s', r') = (s, r) := by simpa using q
      injection this with e1 e2
      subst e1 e2
      exact .inr (.inl ⟨0, rfl, fun j b hj => absurd hj (by omega)⟩)
  · cases q
  · exact .inr (.inr q)
theorem SpI.next {s r k b : Nat} (h : SpI n m pl sl il0 ol0 il ol wk (some (s, r, k))) (hb : (pl.getD s []).getD k 0 = (b : Int)) (ho : bit ol b r = true) : SpI n m pl sl il0 ol0 il ol wk (some (s, r, k + 1)) :=
  ⟨h.ni, h.no, h.li, h.lo, h.si, h.so, h.mi, h.mo, h.co, h.wi, fun s' r' hs hr hbit => by
    rcases h.dn s' r' hs hr hbit with q | ⟨k', q, q2⟩ | q
    · exact .inl q
    · cases q
      refine .inr (.inl ⟨k + 1, rfl, fun j b' hj hb' => ?_⟩)
      by_cases e : j = k
      · subst e
        have : b' = b := by rw [hb] at hb'; omega
        subst this
        exact ho
      · exact q2 j b' (by omega) hb'
    · exact .inr (.inr q)⟩
theorem SpI.mark {s r k b : Nat} (h : SpI n m pl sl il0 ol0 il ol wk (some (s, r, k))) (hs : s < n) (hr : r < m) (hsb : bit il s r = true) (hbm : (b : Int) ∈ pl.getD s []) (hbn : b < n) (hc : (r : Int) ∈ sl.getD b [] ∨ bit il b r = true) : SpI n m pl sl il0 ol0 il (setB ol b r) wk (some (s, r, k)) := by
  have hset := fun b' r' => bit_set (l := ol) (b := b) (r := r) (by rw [h.no]; exact hbn) (by rw [h.lo b hbn]; exact hr) b' r'
  have hmono : ∀ b' r', bit ol b' r' = true → bit (setB ol b r) b' r' = true := fun b' r' q => by
    rw [hset]; split
    · rfl
    · exact q
  refine ⟨h.ni, by rw [setB_len]; exact h.no, h.li, fun b' hb' => by rw [setB_row (by rw [h.no]; exact hbn)]; exact h.lo b' hb', h.si, fun b' r' hb' hr' q => ?_, h.mi, fun b' r' hb' hr' q => hmono _ _ (h.mo b' r' hb' hr' q), fun b' r' hb' hr' q => ?_, h.wi, fun s' r' hs' hr' q => ?_⟩
  · rw [hset] at q
    split at q
    · rename_i e
      obtain ⟨rfl, rfl⟩ := e
      exact .inr ⟨s, hs, h.si s _ hs hr hsb, hbm⟩
    · exact h.so b' r' hb' hr' q
  · rw [hset] at q
    split at q
    · rename_i e
      obtain ⟨rfl, rfl⟩ := e
      exact hc
    · exact h.co b' r' hb' hr' q
  · rcases h.dn s' r' hs' hr' q with q | ⟨k', q, q2⟩ | q
    · exact .inl q
    · exact .inr (.inl ⟨k', q, fun j b' hj hb' => hmono _ _ (q2 j b' hj hb')⟩)
    · exact .inr (.inr fun b' hb1 hb' => hmono _ _ (q b' hb1 hb'))
theorem SpI.push {s r k b : Nat} (h : SpI n m pl sl il0 ol0 il ol wk (some (s, r, k))) (hs : s < n) (hr : r < m) (hsb : bit il s r = true) (hbm : (b : Int) ∈ pl.getD s []) (hbn : b < n) (hc : (r : Int) ∉ sl.getD b []) : SpI n m pl sl il0 ol0 (setB il b r) ol (wk ++ [(b, r)]) (some (s, r, k)) := by
  have hset := fun b' r' => bit_set (l := il) (b := b) (r := r) (by rw [h.ni]; exact hbn) (by rw [h.li b hbn]; exact hr) b' r'
  have hmono : ∀ b' r', bit il b' r' = true → bit (setB il b r) b' r' = true := fun b' r' q => by
    rw [hset]; split
    · rfl
    · exact q
  refine ⟨by rw [setB_len]; exact h.ni, h.no, fun b' hb' => by rw [setB_row (by rw [h.ni]; exact hbn)]; exact h.li b' hb', h.lo, fun b' r' hb' hr' q => ?_, h.so, fun b' r' hb' hr' q => hmono _ _ (h.mi b' r' hb' hr' q), h.mo, fun b' r' hb' hr' q => ?_, fun x hx => ?_, fun s' r' hs' hr' q => ?_⟩
  · rw [hset] at q
    split at q
    · rename_i e
      obtain ⟨rfl, rfl⟩ := e
      exact .step hs (h.si s _ hs hr hsb) hbm hbn hc
    · exact h.si b' r' hb' hr' q
  · exact (h.co b' r' hb' hr' q).imp id (hmono _ _)
  · rcases List.mem_append.1 hx with hx | hx
    · have := h.wi x hx
      exact ⟨this.1, this.2.1, hmono _ _ this.2.2⟩
    · have : x = (b, r) := by simpa using hx
      subst this
      refine ⟨hbn, hr, ?_⟩
      rw [hset, if_pos ⟨rfl, rfl⟩]
  · rw [hset] at q
    split at q
    · rename_i e
      obtain ⟨rfl, rfl⟩ := e
      exact .inl (by simp)
    · rcases h.dn s' r' hs' hr' q with q | q | q
      · exact .inl (by simp [q])
      · exact .inr (.inl q)
      · exact .inr (.inr q)
theorem SpI.fin {s r k : Nat} (h : SpI n m pl sl il0 ol0 il ol wk (some (s, r, k))) (hk : (pl.getD s []).length ≤ k) : SpI n m pl sl il0 ol0 il ol wk none :=
  ⟨h.ni, h.no, h.li, h.lo, h.si, h.so, h.mi, h.mo, h.co, h.wi, fun s' r' hs hr hbit => by
    rcases h.dn s' r' hs hr hbit with q | ⟨k', q, q2⟩ | q
    · exact .inl q
    · cases q
      refine .inr (.inr fun b hb1 hb => ?_)
      obtain ⟨j, hj, e⟩ := List.getElem_of_mem hb
      exact q2 j b (by omega) (by rw [List.getD_eq_getElem?_getD, List.getElem?_eq_getElem hj]; exact e)
    · exact .inr (.inr q)⟩
theorem SpI.done (h : SpI n m pl sl il0 ol0 il ol [] none) : (∀ b r, b < n → r < m → (bit il b r = true ↔ LI n m pl sl il0 b r)) ∧ (∀ b r, b < n → r < m → (bit ol b r = true ↔ LO n m pl sl il0 ol0 b r)) := by
  have key : ∀ b r, LI n m pl sl il0 b r → b < n ∧ r < m ∧ bit il b r = true := fun b r q => by
    induction q with
    | gen hb hr hg => exact ⟨hb, hr, h.mi _ _ hb hr hg⟩
    | step hs _ hm hb hn ih =>
      obtain ⟨_, hr, hbit⟩ := ih
      rcases h.dn _ _ hs hr hbit with q | ⟨k, q, _⟩ | q
      · cases q
      · cases q
      · exact ⟨hb, hr, (h.co _ _ hb hr (q _ hb hm)).resolve_left hn⟩
  refine ⟨fun b r hb hr => ⟨h.si b r hb hr, fun q => (key b r q).2.2⟩, fun b r hb hr => ⟨h.so b r hb hr, fun q => ?_⟩⟩
  rcases q with q | ⟨s, hs, hl, hm⟩
  · exact h.mo b r hb hr q
  · obtain ⟨_, _, hbit⟩ := key s r hl
    rcases h.dn s r hs hr hbit with q | ⟨k, q, _⟩ | q
    · cases q
    · cases q
    · exact q b hb hm
end
end Go.Proofs.Ytobibplilbchfaa
