/-
  Lex (layer 7), plainly: what the program reads, and that what is read is read again.
-/
import Derived.Test.YtoffbjfgledjfaaDoorLexF
namespace Go.Proofs.YtoffbjfgledjfaaDoor
open Go.RowKit
set_option linter.unusedVariables false
set_option linter.unusedSimpArgs false
theorem spanN_nil (p : Int → Bool) : spanN p [] = 0 := rfl
theorem spanN_cons (p : Int → Bool) (b : UInt8) (l : List UInt8) : spanN p (b :: l) = if p (b.toNat : Int) then spanN p l + 1 else 0 := by
  unfold spanN
  rw [List.takeWhile_cons]
  split <;> simp
theorem span_take (p : Int → Bool) (l : List UInt8) : ∀ x ∈ l.take (spanN p l), p (x.toNat : Int) = true := by
  induction l with
  | nil => simp [spanN_nil]
  | cons b l ih =>
    rw [spanN_cons]
    split
    · next h =>
      intro x hx
      rw [List.take_succ_cons, List.mem_cons] at hx
      rcases hx with rfl | hx
      · exact h
      · exact ih x hx
    · simp
/-- What may stand behind a token: nothing, or a blank. -/
def Gap (r : List UInt8) : Prop := r = [] ∨ ∃ r', r = 32 :: r'
theorem Gap.span {r : List UInt8} (h : Gap r) {p : Int → Bool} (hp : p 32 = false) : spanN p r = 0 := by
  rcases h with rfl | ⟨r', rfl⟩
  · rfl
  · rw [spanN_cons, if_neg (by simpa using hp)]
theorem span_again (p : Int → Bool) (hp : p 32 = false) (s r : List UInt8) (hr : Gap r) : spanN p (s.take (spanN p s) ++ r) = spanN p s := by
  rw [spanN_split p _ _ (span_take p s), hr.span hp, List.length_take, Nat.min_eq_left (spanN_le p s), Nat.add_zero]
structure Tk where
  k : Int
  t : List UInt8
  n : Int
/-- A name's or number's letter or digit follows. -/
def runsB (s : List UInt8) (n : Nat) : Bool := match s.drop n with | [] => false | c :: _ => partB c.toNat
theorem runs_sep (t r : List UInt8) (h : Gap r) : runsB (t ++ r) t.length = false := by
  unfold runsB
  rw [List.drop_left]
  rcases h with rfl | ⟨r', rfl⟩
  · rfl
  · rfl
def digV (b : UInt8) : Nat := if b.toNat ≤ 57 then b.toNat - 48 else if b.toNat ≤ 70 then b.toNat - 55 else b.toNat - 87
def valF (base : Nat) (d : List UInt8) : Nat := d.foldl (fun a b => a * base + digV b) 0
def hexP (s : List UInt8) : Bool := match s with | 48 :: 120 :: _ => true | 48 :: 88 :: _ => true | _ => false
def numT (s : List UInt8) : List UInt8 := if hexP s then s.take (2 + spanN hexB (s.drop 2)) else s.take (spanN digB s)
def numD (s : List UInt8) : List UInt8 := if hexP s then (numT s).drop 2 else numT s
def numV (s : List UInt8) : Nat := valF (if hexP s then 16 else 10) (numD s)
def numF (s : List UInt8) : Except Int Tk :=
  if numD s = [] ∨ runsB s (numT s).length = true then .error 3
  else if 4294967295 < numV s then .error 7
  else .ok ⟨3, numT s, numV s⟩
def plainF (c : Int) : Option Int := if c < 32 ∨ 126 < c ∨ c = 39 ∨ c = 92 then none else some c
def escF (c : Int) : Option Int := if c = 110 then some 10 else if c = 116 then some 9 else if c = 114 then some 13 else if c = 48 then some 0 else if c = 92 ∨ c = 39 then some c else none
def bat (s : List UInt8) (k : Nat) : Int := ((s.getD k 0).toNat : Int)
def chrN (s : List UInt8) : Nat := if 1 < s.length ∧ bat s 1 = 92 then 4 else 3
def chrV (s : List UInt8) : Option Int := if chrN s = 4 then escF (bat s 2) else plainF (bat s 1)
def chrF (s : List UInt8) : Except Int Tk :=
  if s.length < chrN s ∨ bat s (chrN s - 1) ≠ 39 ∨ runsB s (chrN s) = true then .error 3
  else match chrV s with
    | none => .error 3
    | some n => .ok ⟨3, s.take (chrN s), n⟩
def nameF (s : List UInt8) : Except Int Tk :=
  if 31 < spanN partB s then .error 2
  else .ok ⟨if wordB (s.take (spanN partB s)) then 2 else 1, s.take (spanN partB s), 0⟩
def markF (s : List UInt8) : Except Int Tk := match symF s with | none => .error 3 | some t => .ok ⟨4, t, 0⟩
def tokF (s : List UInt8) : Except Int Tk :=
  if letB (bat s 0) then nameF s
  else if digB (bat s 0) then numF s
  else if bat s 0 = 39 then chrF s
  else markF s
/-- Where `*/` begins. -/
def endF : List UInt8 → Option Nat
  | [] => none
  | b :: l => if b = 42 ∧ bat l 0 = 47 ∧ l ≠ [] then some 0 else (endF l).map (· + 1)
def lineN (s : List UInt8) : Nat := (s.takeWhile (fun b => b != 10)).length
def blankF (s : List UInt8) : Option Nat :=
  if ([47, 47] : List UInt8).isPrefixOf s then some (lineN s)
  else if ([47, 42] : List UInt8).isPrefixOf s then (endF (s.drop 2)).map (· + 4)
  else some (spanN blankB s)
def afterF (p : Int × Int) : List UInt8 → Int × Int
  | [] => p
  | b :: l => afterF (if b = 10 then (p.1 + 1, 1) else (p.1, p.2 + 1)) l
def lexF : Nat → List UInt8 → Int × Int → Except (Int × Int × Int) (List (Tk × Int × Int) × Int × Int)
  | 0, _, p => .error (16, p)
  | f + 1, s, p =>
    match blankF s with
    | none => .error (3, p)
    | some (n + 1) => lexF f (s.drop (n + 1)) (afterF p (s.take (n + 1)))
    | some 0 =>
      if s = [] then .ok ([], p)
      else match tokF s with
        | .error e => .error (e, p)
        | .ok t => (lexF f (s.drop t.t.length) (afterF p t.t)).map fun x => ((t, p) :: x.1, x.2)
theorem bat_take {s : List UInt8} {n j : Nat} (hj : j < n) (hn : n ≤ s.length) (r : List UInt8) : bat (s.take n ++ r) j = bat s j := by
  unfold bat
  rw [List.getD_eq_getElem?_getD, List.getD_eq_getElem?_getD, List.getElem?_append_left (by rw [List.length_take]; omega), List.getElem?_take_of_lt hj]
theorem take_take_app {s r : List UInt8} {n : Nat} (hn : n ≤ s.length) : (s.take n ++ r).take n = s.take n := by
  rw [List.take_append_of_le_length (by rw [List.length_take]; omega), List.take_take, Nat.min_self]
theorem runs_take {s r : List UInt8} {n : Nat} (hn : n ≤ s.length) (h : Gap r) : runsB (s.take n ++ r) n = false := by
  have := runs_sep (s.take n) r h
  rwa [List.length_take, Nat.min_eq_left hn] at this
theorem part_all {p : Int → Bool} {s : List UInt8} {n : Nat} (hn : n = spanN p s) (hp : p 10 = false) : ∀ x ∈ s.take n, x ≠ 10 := fun x hx e => by
  subst hn
  have := span_take p s x hx
  subst e
  rw [show ((10 : UInt8).toNat : Int) = 10 from rfl, hp] at this
  cases this
/-- What is a token by itself is it again, whatever is behind. -/
structure Good (t : Tk) : Prop where
  tok : ∀ r, Gap r → tokF (t.t ++ r) = .ok t
  blank : ∀ r, Gap r → blankF (t.t ++ r) = some 0
  ne : t.t ≠ []
  no10 : ∀ x ∈ t.t, x ≠ 10
theorem blank0 {b : UInt8} {l : List UInt8} (h : blankF (b :: l) = some 0) : blankB b.toNat = false ∧ ¬(b = 47 ∧ bat l 0 = 47) ∧ ¬(b = 47 ∧ bat l 0 = 42) := by
  unfold blankF at h
  split at h
  · next q =>
    exfalso
    have hb : b = 47 := by
      simp only [List.isPrefixOf, Bool.and_eq_true, beq_iff_eq] at q
      exact q.1.symm
    subst hb
    simp [lineN] at h
  · next q =>
    split at h
    · cases hq : endF ((b :: l).drop 2) <;> rw [hq] at h <;> simp at h
    · next q2 =>
      refine ⟨?_, ?_, ?_⟩
      · rw [spanN_cons] at h
        split at h
        · simp at h
        · next q3 => simpa using q3
      · rintro ⟨rfl, h2⟩
        cases l with
        | nil => simp [bat] at h2
        | cons c l =>
          have : c = 47 := by
            have h3 : (c.toNat : Int) = 47 := h2
            exact UInt8.toNat_inj.1 (by have : (47 : UInt8).toNat = 47 := rfl; omega)
          subst this
          simp [List.isPrefixOf] at q
      · rintro ⟨rfl, h2⟩
        cases l with
        | nil => simp [bat] at h2
        | cons c l =>
          have : c = 42 := by
            have h3 : (c.toNat : Int) = 42 := h2
            exact UInt8.toNat_inj.1 (by have : (42 : UInt8).toNat = 42 := rfl; omega)
          subst this
          simp [List.isPrefixOf] at q2
theorem blank_of {b : UInt8} {l : List UInt8} (h1 : blankB b.toNat = false) (h2 : ¬(b = 47 ∧ bat l 0 = 47)) (h3 : ¬(b = 47 ∧ bat l 0 = 42)) : blankF (b :: l) = some 0 := by
  have k : ∀ c : UInt8, ¬(b = 47 ∧ bat l 0 = (c.toNat : Int)) → c ≠ 0 → ([47, c] : List UInt8).isPrefixOf (b :: l) = false := fun c h hc => by
    cases hq : ([47, c] : List UInt8).isPrefixOf (b :: l) with
    | false => rfl
    | true =>
      exfalso
      cases l with
      | nil => simp [List.isPrefixOf] at hq
      | cons d l =>
        simp only [List.isPrefixOf, Bool.and_eq_true, beq_iff_eq, and_true] at hq
        exact h ⟨hq.1.symm, by rw [hq.2]; rfl⟩
  unfold blankF
  rw [k 47 h2 (by decide), k 42 h3 (by decide)]
  simp only [Bool.false_eq_true, if_false]
  rw [spanN_cons, if_neg (by simpa using h1)]
theorem blank_again {s r : List UInt8} {n : Nat} (h : blankF s = some 0) (h1 : 1 ≤ n) (hn : n ≤ s.length) (hr : Gap r) : blankF (s.take n ++ r) = some 0 := by
  cases s with
  | nil => simp at hn; omega
  | cons b l =>
    obtain ⟨q1, q2, q3⟩ := blank0 h
    obtain ⟨m, rfl⟩ : ∃ m, n = m + 1 := ⟨n - 1, by omega⟩
    rw [List.take_succ_cons, List.cons_append]
    have key : bat (l.take m ++ r) 0 = bat l 0 ∨ bat (l.take m ++ r) 0 = 0 ∨ bat (l.take m ++ r) 0 = 32 := by
      cases m with
      | zero =>
        rcases hr with rfl | ⟨r', rfl⟩
        · exact .inr (.inl (by simp [bat]))
        · exact .inr (.inr (by simp [bat]))
      | succ m => exact .inl (bat_take (by omega) (by simp at hn; omega) r)
    refine blank_of q1 ?_ ?_
    · rintro ⟨e1, e2⟩
      rcases key with k | k | k
      · exact q2 ⟨e1, by rw [← k]; exact e2⟩
      · omega
      · omega
    · rintro ⟨e1, e2⟩
      rcases key with k | k | k
      · exact q3 ⟨e1, by rw [← k]; exact e2⟩
      · omega
      · omega
theorem span_pos {p : Int → Bool} {s : List UInt8} (hs : s ≠ []) (h : p (bat s 0) = true) : 1 ≤ spanN p s := by
  cases s with
  | nil => exact absurd rfl hs
  | cons b l =>
    rw [spanN_cons, if_pos (by simpa [bat] using h)]
    omega
theorem name_good {s : List UInt8} {t : Tk} (hs : s ≠ []) (hl : letB (bat s 0) = true) (hb : blankF s = some 0) (h : nameF s = .ok t) : Good t ∧ t.t = s.take t.t.length ∧ t.t.length ≤ s.length := by
  unfold nameF at h
  split at h
  · cases h
  · next h31 =>
    injection h with h
    subst h
    have hp := span_pos (p := partB) hs (by unfold partB; rw [hl]; rfl)
    have hle := spanN_le partB s
    have e1 : ∀ r, Gap r → spanN partB (s.take (spanN partB s) ++ r) = spanN partB s := fun r hr => span_again partB (by decide) s r hr
    refine ⟨⟨fun r hr => ?_, fun r hr => blank_again hb hp hle hr, ?_, part_all rfl (by decide)⟩, ?_, ?_⟩
    · unfold tokF
      rw [bat_take hp hle r, if_pos hl]
      unfold nameF
      rw [e1 r hr, if_neg h31, take_take_app hle]
    · intro e
      have := congrArg List.length e
      rw [List.length_take, Nat.min_eq_left hle, List.length_nil] at this
      omega
    · simp only [List.length_take, Nat.min_eq_left hle]
    · simp only [List.length_take]; omega

theorem hexP_iff (s : List UInt8) : hexP s = true ↔ 2 ≤ s.length ∧ s.take 2 = [48, 120] ∨ 2 ≤ s.length ∧ s.take 2 = [48, 88] := by
  match s with
  | [] => simp [hexP]
  | [a] => simp [hexP]
  | a :: b :: l =>
    simp only [List.take_succ_cons, List.take_zero, List.cons.injEq, and_true, List.length_cons]
    unfold hexP
    split
    · next heq => simp only [List.cons.injEq] at heq; simp [heq.1, heq.2.1]
    · next heq => simp only [List.cons.injEq] at heq; simp [heq.1, heq.2.1]
    · next h1 h2 =>
      constructor
      · intro h; cases h
      · rintro (⟨_, rfl, rfl⟩ | ⟨_, rfl, rfl⟩)
        · exact absurd rfl (h1 l)
        · exact absurd rfl (h2 l)
theorem hex_pre {s r : List UInt8} {n : Nat} (h2 : 2 ≤ n) (hn : n ≤ s.length) : hexP (s.take n ++ r) = hexP s := by
  have e : (s.take n ++ r).take 2 = s.take 2 := by
    rw [List.take_append_of_le_length (by rw [List.length_take]; omega), List.take_take, Nat.min_eq_left h2]
  have a := hexP_iff (s.take n ++ r)
  have b := hexP_iff s
  rw [e] at a
  have l1 : 2 ≤ (s.take n ++ r).length := by rw [List.length_append, List.length_take]; omega
  have l2 : 2 ≤ s.length := by omega
  have : hexP (s.take n ++ r) = true ↔ hexP s = true := by
    rw [a, b]
    simp only [l1, l2, true_and]
  cases h : hexP s <;> cases h' : hexP (s.take n ++ r) <;> simp_all
theorem numT_len (s : List UInt8) : (numT s).length ≤ s.length ∧ numT s = s.take (numT s).length := by
  have key : ∀ k, (s.take k).length ≤ s.length ∧ s.take k = s.take (s.take k).length := fun k => by
    rw [List.length_take]
    refine ⟨by omega, ?_⟩
    rcases Nat.le_total k s.length with h | h
    · rw [Nat.min_eq_left h]
    · rw [Nat.min_eq_right h, List.take_of_length_le h, List.take_of_length_le (Nat.le_refl _)]
  unfold numT
  split
  · exact key _
  · exact key _
theorem numT_hex {s : List UInt8} (h : hexP s = true) : numT s = s.take (2 + spanN hexB (s.drop 2)) := by unfold numT; rw [if_pos h]
theorem numT_dec {s : List UInt8} (h : hexP s = false) : numT s = s.take (spanN digB s) := by unfold numT; rw [h]; rfl
theorem num_again {s r : List UInt8} (hr : Gap r) (hd : numD s ≠ []) : hexP (numT s ++ r) = hexP s ∧ numT (numT s ++ r) = numT s := by
  cases hx : hexP s with
  | true =>
    have h2 := hx
    rw [hexP_iff] at h2
    have l2 : 2 ≤ s.length := by rcases h2 with h | h <;> exact h.1
    have e : numT s = s.take (2 + spanN hexB (s.drop 2)) := by unfold numT; rw [if_pos hx]
    have hle : 2 + spanN hexB (s.drop 2) ≤ s.length := by have := spanN_le hexB (s.drop 2); rw [List.length_drop] at this; omega
    have h3 : hexP (numT s ++ r) = true := by rw [e, hex_pre (by omega) hle, hx]
    refine ⟨h3, ?_⟩
    have e4 : (numT s ++ r).drop 2 = (s.drop 2).take (spanN hexB (s.drop 2)) ++ r := by
      rw [e, List.drop_append_of_le_length (by rw [List.length_take]; omega), List.drop_take, Nat.add_sub_cancel_left]
    rw [numT_hex h3, e4, span_again hexB (by decide) _ _ hr, e, take_take_app hle]
  | false =>
    have e : numT s = s.take (spanN digB s) := by unfold numT; rw [hx]; rfl
    have hD : numD s = numT s := by unfold numD; rw [hx]; rfl
    have hle := spanN_le digB s
    have h3 : hexP (numT s ++ r) = false := by
      rcases Nat.lt_or_ge (spanN digB s) 2 with h | h
      · have h1 : spanN digB s = 1 := by
          have : spanN digB s ≠ 0 := fun q => hd (by rw [hD, e, q]; rfl)
          omega
        rw [e, h1]
        cases s with
        | nil => simp [spanN_nil] at h1
        | cons b l =>
          rw [List.take_succ_cons, List.take_zero]
          rcases hr with rfl | ⟨r', rfl⟩
          · cases hq : hexP ([b] ++ []) with
            | false => rfl
            | true => rw [hexP_iff] at hq; simp at hq
          · cases hq : hexP ([b] ++ 32 :: r') with
            | false => rfl
            | true => rw [hexP_iff] at hq; simp at hq
      · rw [e, hex_pre h hle, hx]
    refine ⟨h3, ?_⟩
    rw [numT_dec h3, e, span_again digB (by decide) _ _ hr, take_take_app hle]
theorem num_good {s : List UInt8} {t : Tk} (hl : letB (bat s 0) = false) (hg : digB (bat s 0) = true) (hb : blankF s = some 0) (h : numF s = .ok t) : Good t ∧ t.t = s.take t.t.length ∧ t.t.length ≤ s.length := by
  unfold numF at h
  split at h
  · cases h
  · next h1 =>
    split at h
    · cases h
    · next h2 =>
      injection h with h
      subst h
      have hd : numD s ≠ [] := fun q => h1 (.inl q)
      obtain ⟨hle, hT⟩ := numT_len s
      have hne : numT s ≠ [] := fun q => hd (by unfold numD; rw [q]; split <;> rfl)
      have hp : 1 ≤ (numT s).length := by
        rcases Nat.eq_zero_or_pos (numT s).length with q | q
        · exact absurd (List.eq_nil_of_length_eq_zero q) hne
        · exact q
      refine ⟨⟨fun r hr => ?_, fun r hr => ?_, hne, ?_⟩, hT, hle⟩
      · obtain ⟨e1, e2⟩ := num_again hr hd
        have e3 : numD (numT s ++ r) = numD s := by unfold numD; rw [e1, e2]
        have e4 : numV (numT s ++ r) = numV s := by unfold numV; rw [e1, e3]
        have e5 : bat (numT s ++ r) 0 = bat s 0 := by have q := bat_take (s := s) (n := (numT s).length) (j := 0) hp hle r; rwa [← hT] at q
        show tokF (numT s ++ r) = _
        unfold tokF
        rw [e5, hl, hg]
        simp only [Bool.false_eq_true, if_false, if_true]
        unfold numF
        rw [e3, e4, e2, runs_sep _ _ hr, if_neg (by simp [hd]), if_neg h2]
      · show blankF (numT s ++ r) = some 0
        have q := blank_again hb hp hle hr
        rwa [← hT] at q
      · intro x hx e
        subst e
        have hx : (10 : UInt8) ∈ numT s := hx
        unfold numT at hx
        split at hx
        · next hq =>
          rw [hexP_iff] at hq
          have l2 : 2 ≤ s.length := by rcases hq with h | h <;> exact h.1
          rw [show s.take (2 + spanN hexB (s.drop 2)) = s.take 2 ++ (s.drop 2).take (spanN hexB (s.drop 2)) by rw [List.take_add]] at hx
          rcases List.mem_append.1 hx with hx | hx
          · rcases hq with hq | hq <;> · rw [hq.2] at hx; revert hx; decide
          · exact part_all rfl (by decide) _ hx rfl
        · exact part_all rfl (by decide) _ hx rfl

theorem bat_ne {s : List UInt8} {j : Nat} (hj : j < s.length) (h : bat s j ≠ 10) : s.getD j 0 ≠ 10 := fun e => h (by unfold bat; rw [e]; rfl)
theorem mem_take_get {s : List UInt8} {n : Nat} {x : UInt8} (h : x ∈ s.take n) : ∃ j, j < n ∧ j < s.length ∧ x = s.getD j 0 := by
  obtain ⟨j, hj, e⟩ := List.getElem_of_mem h
  rw [List.length_take] at hj
  rw [List.getElem_take] at e
  exact ⟨j, by omega, by omega, by rw [List.getD_eq_getElem?_getD, List.getElem?_eq_getElem (by omega)]; exact e.symm⟩
theorem chrN_of {s s' : List UInt8} (l1 : 1 < s'.length) (l2 : 1 < s.length) (e : bat s' 1 = bat s 1) : chrN s' = chrN s := by
  unfold chrN
  rw [e]
  simp only [l1, l2, true_and]
theorem chr_good {s : List UInt8} {t : Tk} (hl : letB (bat s 0) = false) (hg : digB (bat s 0) = false) (h39 : bat s 0 = 39) (hb : blankF s = some 0) (h : chrF s = .ok t) : Good t ∧ t.t = s.take t.t.length ∧ t.t.length ≤ s.length := by
  unfold chrF at h
  split at h
  · cases h
  · next h1 =>
    simp only [not_or] at h1
    obtain ⟨q1, q2, q3⟩ := h1
    have q2 : bat s (chrN s - 1) = 39 := by simpa using q2
    have hle : chrN s ≤ s.length := by omega
    cases hv : chrV s with
    | none => rw [hv] at h; cases h
    | some n =>
      rw [hv] at h
      injection h with h
      subst h
      have h34 : chrN s = 3 ∨ chrN s = 4 := by unfold chrN; split <;> simp
      have hlt : (s.take (chrN s)).length = chrN s := by rw [List.length_take, Nat.min_eq_left hle]
      have eN : ∀ r, chrN (s.take (chrN s) ++ r) = chrN s := fun r => by
        have e1 : bat (s.take (chrN s) ++ r) 1 = bat s 1 := bat_take (by omega) hle r
        have l1 : 1 < (s.take (chrN s) ++ r).length := by rw [List.length_append, hlt]; omega
        have l2 : 1 < s.length := by omega
        exact chrN_of l1 l2 e1
      have eV : ∀ r, chrV (s.take (chrN s) ++ r) = chrV s := fun r => by
        unfold chrV
        rw [eN r, bat_take (by omega) hle r, bat_take (by omega) hle r]
      refine ⟨⟨fun r hr => ?_, fun r hr => blank_again hb (by omega) hle hr, ?_, ?_⟩, ?_, ?_⟩
      · unfold tokF
        show (if letB (bat (s.take (chrN s) ++ r) 0) then _ else _) = _
        rw [bat_take (by omega) hle r, hl, hg, h39]
        simp only [Bool.false_eq_true, if_false, if_true]
        unfold chrF
        rw [eN r, eV r, hv, bat_take (by omega) hle r, runs_take hle hr, if_neg (by rw [List.length_append, hlt, q2]; simp), take_take_app hle]
      · intro e
        have := congrArg List.length e
        rw [hlt, List.length_nil] at this
        omega
      · intro x hx e
        obtain ⟨j, hj, hjs, rfl⟩ := mem_take_get hx
        have hbt : bat s j = 10 := by unfold bat; rw [e]; rfl
        unfold chrV at hv
        rcases h34 with h3 | h4
        · rw [h3] at hj q2 hv
          simp only [show (3 : Nat) - 1 = 2 from rfl] at q2
          rw [if_neg (by decide)] at hv
          match j, hj with
          | 0, _ => omega
          | 1, _ => rw [hbt, show plainF 10 = none from rfl] at hv; cases hv
          | 2, _ => omega
        · have hn : bat s 1 = 92 := by
            unfold chrN at h4
            split at h4
            · next q => exact q.2
            · cases h4
          rw [h4] at hj q2 hv
          simp only [show (4 : Nat) - 1 = 3 from rfl] at q2
          rw [if_pos rfl] at hv
          match j, hj with
          | 0, _ => omega
          | 1, _ => omega
          | 2, _ => rw [hbt, show escF 10 = none from rfl] at hv; cases hv
          | 3, _ => omega
      · rw [hlt]
      · rw [hlt]; exact hle
theorem sym_again {t : List UInt8} (h : t ∈ symL) (r : List UInt8) (hr : Gap r) : symF (t ++ r) = some t := by
  rcases hr with rfl | ⟨r', rfl⟩
  · rw [List.append_nil]
    revert h
    revert t
    decide
  · simp only [symL, List.mem_cons, List.not_mem_nil, or_false] at h
    rcases h with rfl | rfl | rfl | rfl | rfl | rfl | rfl | rfl | rfl | rfl | rfl | rfl | rfl | rfl | rfl | rfl | rfl | rfl | rfl | rfl | rfl | rfl | rfl | rfl | rfl | rfl | rfl | rfl | rfl | rfl | rfl | rfl | rfl | rfl | rfl | rfl | rfl | rfl | rfl | rfl | rfl | rfl | rfl | rfl | rfl <;> rfl
theorem sym_no10 {t : List UInt8} (h : t ∈ symL) : t ≠ [] ∧ ∀ x ∈ t, x ≠ 10 := by
  revert h
  revert t
  decide
theorem mark_good {s : List UInt8} {t : Tk} (hl : letB (bat s 0) = false) (hg : digB (bat s 0) = false) (h39 : ¬bat s 0 = 39) (hb : blankF s = some 0) (h : markF s = .ok t) : Good t ∧ t.t = s.take t.t.length ∧ t.t.length ≤ s.length := by
  unfold markF at h
  cases hq : symF s with
  | none => rw [hq] at h; cases h
  | some u =>
    rw [hq] at h
    injection h with h
    subst h
    have hm : u ∈ symL := List.mem_of_find?_eq_some hq
    have hp : u.isPrefixOf s = true := by
      have hq2 := hq
      unfold symF at hq2
      have := List.find?_some hq2
      exact this
    obtain ⟨r0, hr0⟩ := List.isPrefixOf_iff_prefix.1 hp
    obtain ⟨hne, h10⟩ := sym_no10 hm
    have hlen : 1 ≤ u.length := by
      rcases Nat.eq_zero_or_pos u.length with q | q
      · exact absurd (List.eq_nil_of_length_eq_zero q) hne
      · exact q
    have hle : u.length ≤ s.length := by rw [← hr0, List.length_append]; omega
    have hT : u = s.take u.length := by rw [← hr0, List.take_left]
    refine ⟨⟨fun r hr => ?_, fun r hr => ?_, hne, h10⟩, hT, hle⟩
    · have e5 : bat (u ++ r) 0 = bat s 0 := by have q := bat_take (s := s) (n := u.length) (j := 0) hlen hle r; rwa [← hT] at q
      show tokF (u ++ r) = _
      unfold tokF
      rw [e5, hl, hg]
      simp only [Bool.false_eq_true, if_false, h39]
      unfold markF
      rw [sym_again hm r hr]
    · have q := blank_again hb hlen hle hr
      rwa [← hT] at q
theorem tok_good {s : List UInt8} {t : Tk} (hs : s ≠ []) (hb : blankF s = some 0) (h : tokF s = .ok t) : Good t ∧ t.t = s.take t.t.length ∧ t.t.length ≤ s.length := by
  unfold tokF at h
  split at h
  · next h1 => exact name_good hs h1 hb h
  · next h1 =>
    split at h
    · next h2 => exact num_good (by simpa using h1) h2 hb h
    · next h2 =>
      split at h
      · next h3 => exact chr_good (by simpa using h1) (by simpa using h2) h3 hb h
      · next h3 => exact mark_good (by simpa using h1) (by simpa using h2) h3 hb h

/-- The tokens' text, behind another. -/
def tailT : List Tk → List UInt8
  | [] => []
  | t :: l => 32 :: (t.t ++ tailT l)
def joinT : List Tk → List UInt8
  | [] => []
  | t :: l => t.t ++ tailT l
theorem tail_gap (l : List Tk) : Gap (tailT l) := by
  cases l with
  | nil => exact .inl rfl
  | cons t l => exact .inr ⟨_, rfl⟩
theorem after_no {t : List UInt8} (h : ∀ x ∈ t, x ≠ 10) (a c : Int) : afterF (a, c) t = (a, c + t.length) := by
  induction t generalizing c with
  | nil => simp [afterF]
  | cons b l ih =>
    unfold afterF
    rw [if_neg (h b List.mem_cons_self)]
    rw [ih (fun x hx => h x (List.mem_cons_of_mem _ hx)), List.length_cons]
    simp only [Prod.mk.injEq, true_and]
    omega
def posT : Int → List Tk → List (Tk × Int × Int)
  | _, [] => []
  | c, t :: l => (t, 1, c) :: posT (c + t.t.length + 1) l
theorem Good.blank32 {t : Tk} (h : Good t) {r : List UInt8} (hr : Gap r) : blankF (32 :: (t.t ++ r)) = some 1 := by
  have h0 := h.blank r hr
  cases ht : t.t with
  | nil => exact absurd ht h.ne
  | cons b l =>
    rw [ht, List.cons_append] at h0
    obtain ⟨q, _, _⟩ := blank0 h0
    have k : ∀ c : UInt8, ([47, c] : List UInt8).isPrefixOf (32 :: (b :: l ++ r)) = false := fun c => rfl
    unfold blankF
    rw [k 47, k 42]
    simp only [Bool.false_eq_true, if_false]
    rw [spanN_cons, if_pos (by decide), List.cons_append, spanN_cons, if_neg (by rw [q]; decide)]
theorem lex_tok {t : Tk} (h : Good t) {r : List UInt8} (hr : Gap r) (f : Nat) (c : Int) : lexF (f + 1) (t.t ++ r) (1, c) = (lexF f r (1, c + t.t.length)).map fun x => ((t, (1, c)) :: x.1, x.2) := by
  conv => lhs; unfold lexF
  rw [h.blank r hr]
  simp only []
  rw [if_neg (by simp [h.ne]), h.tok r hr]
  simp only []
  rw [List.drop_left, after_no h.no10]
theorem lex_tail : ∀ (l : List Tk) (_ : ∀ t ∈ l, Good t) (f : Nat) (c : Int), (tailT l).length + 1 ≤ f → lexF f (tailT l) (1, c) = .ok (posT (c + 1) l, (1, c + (tailT l).length))
  | [], _, 0, c, hf => by simp at hf
  | [], _, f + 1, c, hf => by
    show lexF (f + 1) [] (1, c) = _
    unfold lexF
    simp [show blankF [] = some 0 from rfl, posT, tailT]
  | t :: l, h, 0, c, hf => by simp at hf
  | t :: l, h, 1, c, hf => by simp [tailT] at hf
  | t :: l, h, f + 2, c, hf => by
    have ht := h t List.mem_cons_self
    have hne : 1 ≤ t.t.length := by
      rcases Nat.eq_zero_or_pos t.t.length with q | q
      · exact absurd (List.eq_nil_of_length_eq_zero q) ht.ne
      · exact q
    have ih := lex_tail l (fun u hu => h u (List.mem_cons_of_mem _ hu)) f (c + 1 + t.t.length) (by
      simp only [tailT, List.length_cons, List.length_append] at hf
      omega)
    show lexF (f + 2) (32 :: (t.t ++ tailT l)) (1, c) = _
    conv => lhs; unfold lexF
    rw [ht.blank32 (tail_gap l)]
    simp only [List.drop_succ_cons, List.drop_zero, List.take_succ_cons, List.take_zero, Nat.zero_add]
    rw [after_no (t := [32]) (by decide)]
    simp only [List.length_singleton]
    rw [show ((c : Int) + ((1 : Nat) : Int)) = c + 1 by omega, lex_tok ht (tail_gap l), ih]
    simp only [Except.map, posT, tailT, List.length_cons, List.length_append]
    simp only [Except.ok.injEq, Prod.mk.injEq, true_and]
    omega
theorem lex_join (l : List Tk) (h : ∀ t ∈ l, Good t) (f : Nat) (hf : (joinT l).length + 1 ≤ f) : lexF f (joinT l) (1, 1) = .ok (posT 1 l, (1, 1 + (joinT l).length)) := by
  cases l with
  | nil =>
    obtain ⟨g, rfl⟩ : ∃ g, f = g + 1 := ⟨f - 1, by omega⟩
    show lexF (g + 1) [] (1, 1) = _
    unfold lexF
    simp [show blankF [] = some 0 from rfl, posT, joinT]
  | cons t l =>
    have ht := h t List.mem_cons_self
    have hne : 1 ≤ t.t.length := by
      rcases Nat.eq_zero_or_pos t.t.length with q | q
      · exact absurd (List.eq_nil_of_length_eq_zero q) ht.ne
      · exact q
    obtain ⟨g, rfl⟩ : ∃ g, f = g + 1 := ⟨f - 1, by omega⟩
    simp only [joinT, List.length_append] at hf
    show lexF (g + 1) (t.t ++ tailT l) (1, 1) = _
    rw [lex_tok ht (tail_gap l), lex_tail l (fun u hu => h u (List.mem_cons_of_mem _ hu)) g _ (by omega)]
    simp only [Except.map, posT, joinT, List.length_append]
    simp only [Except.ok.injEq, Prod.mk.injEq, true_and]
    omega
/-- What is read is good. -/
theorem lex_good : ∀ (f : Nat) (s : List UInt8) (p : Int × Int) {x : List (Tk × Int × Int) × Int × Int}, lexF f s p = .ok x → ∀ t ∈ x.1, Good t.1
  | 0, s, p, x, h => by unfold lexF at h; cases h
  | f + 1, s, p, x, h => by
    unfold lexF at h
    split at h
    · cases h
    · exact lex_good f _ _ h
    · next hb =>
      split at h
      · injection h with h
        subst h
        intro t ht
        cases ht
      · next hs =>
        split at h
        · cases h
        · next t hk =>
          cases hq : lexF f (s.drop t.t.length) (afterF p t.t) with
          | error e => rw [hq] at h; simp [Except.map] at h
          | ok y =>
            rw [hq] at h
            simp only [Except.map, Except.ok.injEq] at h
            subst h
            intro u hu
            rcases List.mem_cons.1 hu with rfl | hu
            · exact (tok_good hs hb hk).1
            · exact lex_good f _ _ hq u hu
end Go.Proofs.YtoffbjfgledjfaaDoor
