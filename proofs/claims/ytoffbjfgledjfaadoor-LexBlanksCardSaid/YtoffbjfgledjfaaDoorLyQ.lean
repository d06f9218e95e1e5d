/-
  Lex (layer 7), plainly: what stands between tokens changes nothing but where they stand.
-/
import Derived.Test.YtoffbjfgledjfaaDoorLyN
namespace Go.Proofs.YtoffbjfgledjfaaDoor
open Go.RowKit
set_option linter.unusedVariables false
set_option linter.unusedSimpArgs false
/-- What may stand behind a token: nothing, or a blank of any kind. -/
def Gap2 (r : List UInt8) : Prop := r = [] ∨ ∃ c r', blankB (c.toNat : Int) = true ∧ r = c :: r'
theorem blank_four {c : Int} (h : blankB c = true) : c = 9 ∨ c = 10 ∨ c = 13 ∨ c = 32 := by
  unfold blankB at h
  simp only [Bool.or_eq_true, beq_iff_eq] at h
  omega
theorem blank_no {p : Int → Bool} (h9 : p 9 = false) (h10 : p 10 = false) (h13 : p 13 = false) (h32 : p 32 = false) : ∀ c, blankB c = true → p c = false := fun c h => by
  rcases blank_four h with rfl | rfl | rfl | rfl <;> assumption
theorem blank_part : ∀ c, blankB c = true → partB c = false := blank_no (by decide) (by decide) (by decide) (by decide)
theorem blank_dig : ∀ c, blankB c = true → digB c = false := blank_no (by decide) (by decide) (by decide) (by decide)
theorem blank_hex : ∀ c, blankB c = true → hexB c = false := blank_no (by decide) (by decide) (by decide) (by decide)
theorem Gap2.span {r : List UInt8} (h : Gap2 r) {p : Int → Bool} (hp : ∀ c, blankB c = true → p c = false) : spanN p r = 0 := by
  rcases h with rfl | ⟨c, r', hc, rfl⟩
  · rfl
  · rw [spanN_cons, if_neg (by rw [hp _ hc]; decide)]
theorem span_again2 (p : Int → Bool) (hp : ∀ c, blankB c = true → p c = false) (s r : List UInt8) (hr : Gap2 r) : spanN p (s.take (spanN p s) ++ r) = spanN p s := by
  rw [spanN_split p _ _ (span_take p s), hr.span hp, List.length_take, Nat.min_eq_left (spanN_le p s), Nat.add_zero]
theorem runs_sep2 (t r : List UInt8) (h : Gap2 r) : runsB (t ++ r) t.length = false := by
  unfold runsB
  rw [List.drop_left]
  rcases h with rfl | ⟨c, r', hc, rfl⟩
  · rfl
  · exact blank_part _ hc
theorem runs_take2 {s r : List UInt8} {n : Nat} (hn : n ≤ s.length) (h : Gap2 r) : runsB (s.take n ++ r) n = false := by
  have := runs_sep2 (s.take n) r h
  rwa [List.length_take, Nat.min_eq_left hn] at this
structure Good2 (t : Tk) : Prop where
  tok : ∀ r, Gap2 r → tokF (t.t ++ r) = .ok t
  blank : ∀ r, Gap2 r → blankF (t.t ++ r) = some 0
  ne : t.t ≠ []
theorem blank_again2 {s r : List UInt8} {n : Nat} (h : blankF s = some 0) (h1 : 1 ≤ n) (hn : n ≤ s.length) (hr : Gap2 r) : blankF (s.take n ++ r) = some 0 := by
  cases s with
  | nil => simp at hn; omega
  | cons b l =>
    obtain ⟨q1, q2, q3⟩ := blank0 h
    obtain ⟨m, rfl⟩ : ∃ m, n = m + 1 := ⟨n - 1, by omega⟩
    rw [List.take_succ_cons, List.cons_append]
    have key : bat (l.take m ++ r) 0 = bat l 0 ∨ bat (l.take m ++ r) 0 = 0 ∨ blankB (bat (l.take m ++ r) 0) = true := by
      cases m with
      | zero =>
        rcases hr with rfl | ⟨c, r', hc, rfl⟩
        · exact .inr (.inl (by simp [bat]))
        · exact .inr (.inr (by simpa [bat] using hc))
      | succ m => exact .inl (bat_take (by omega) (by simp at hn; omega) r)
    refine blank_of q1 ?_ ?_
    · rintro ⟨e1, e2⟩
      rcases key with k | k | k
      · exact q2 ⟨e1, by rw [← k]; exact e2⟩
      · omega
      · rw [e2] at k; revert k; decide
    · rintro ⟨e1, e2⟩
      rcases key with k | k | k
      · exact q3 ⟨e1, by rw [← k]; exact e2⟩
      · omega
      · rw [e2] at k; revert k; decide
theorem name_good2 {s : List UInt8} {t : Tk} (hs : s ≠ []) (hl : letB (bat s 0) = true) (hb : blankF s = some 0) (h : nameF s = .ok t) : Good2 t ∧ t.t = s.take t.t.length ∧ t.t.length ≤ s.length := by
  unfold nameF at h
  split at h
  · cases h
  · next h31 =>
    injection h with h
    subst h
    have hp := span_pos (p := partB) hs (by unfold partB; rw [hl]; rfl)
    have hle := spanN_le partB s
    have e1 : ∀ r, Gap2 r → spanN partB (s.take (spanN partB s) ++ r) = spanN partB s := fun r hr => span_again2 partB blank_part s r hr
    refine ⟨⟨fun r hr => ?_, fun r hr => blank_again2 hb hp hle hr, ?_⟩, ?_, ?_⟩
    · unfold tokF
      rw [bat_take hp hle r, if_pos hl]
      unfold nameF
      rw [e1 r hr, if_neg h31, take_take_app hle]
    · intro e
      have := congrArg List.length e
      rw [List.length_take, Nat.min_eq_left hle, List.length_nil] at this
      omega
    · simp only [List.length_take, Nat.min_eq_left hle]
    · simp only [List.length_take]; omega

theorem num_again2 {s r : List UInt8} (hr : Gap2 r) (hd : numD s ≠ []) : hexP (numT s ++ r) = hexP s ∧ numT (numT s ++ r) = numT s := by
  cases hx : hexP s with
  | true =>
    have h2 := hx
    rw [hexP_iff] at h2
    have l2 : 2 ≤ s.length := by rcases h2 with h | h <;> exact h.1
    have e : numT s = s.take (2 + spanN hexB (s.drop 2)) := by unfold numT; rw [if_pos hx]
    have hle : 2 + spanN hexB (s.drop 2) ≤ s.length := by have := spanN_le hexB (s.drop 2); rw [List.length_drop] at this; omega
    have h3 : hexP (numT s ++ r) = true := by rw [e, hex_pre (by omega) hle, hx]
    refine ⟨h3, ?_⟩
    have e4 : (numT s ++ r).drop 2 = (s.drop 2).take (spanN hexB (s.drop 2)) ++ r := by
      rw [e, List.drop_append_of_le_length (by rw [List.length_take]; omega), List.drop_take, Nat.add_sub_cancel_left]
    rw [numT_hex h3, e4, span_again2 hexB blank_hex _ _ hr, e, take_take_app hle]
  | false =>
    have e : numT s = s.take (spanN digB s) := by unfold numT; rw [hx]; rfl
    have hD : numD s = numT s := by unfold numD; rw [hx]; rfl
    have hle := spanN_le digB s
    have h3 : hexP (numT s ++ r) = false := by
      rcases Nat.lt_or_ge (spanN digB s) 2 with h | h
      · have h1 : spanN digB s = 1 := by
          have : spanN digB s ≠ 0 := fun q => hd (by rw [hD, e, q]; rfl)
          omega
        rw [e, h1]
        cases s with
        | nil => simp [spanN_nil] at h1
        | cons b l =>
          rw [List.take_succ_cons, List.take_zero]
          rcases hr with rfl | ⟨c, r', hc, rfl⟩
          · cases hq : hexP ([b] ++ []) with
            | false => rfl
            | true => rw [hexP_iff] at hq; simp at hq
          · cases hq : hexP ([b] ++ c :: r') with
            | false => rfl
            | true =>
              exfalso
              rw [hexP_iff] at hq
              simp only [List.cons_append, List.nil_append, List.take_succ_cons, List.take_zero, List.cons.injEq, and_true] at hq
              rcases hq with ⟨_, _, rfl⟩ | ⟨_, _, rfl⟩ <;> · revert hc; decide
      · rw [e, hex_pre h hle, hx]
    refine ⟨h3, ?_⟩
    rw [numT_dec h3, e, span_again2 digB blank_dig _ _ hr, take_take_app hle]
theorem num_good2 {s : List UInt8} {t : Tk} (hl : letB (bat s 0) = false) (hg : digB (bat s 0) = true) (hb : blankF s = some 0) (h : numF s = .ok t) : Good2 t ∧ t.t = s.take t.t.length ∧ t.t.length ≤ s.length := by
  unfold numF at h
  split at h
  · cases h
  · next h1 =>
    split at h
    · cases h
    · next h2 =>
      injection h with h
      subst h
      have hd : numD s ≠ [] := fun q => h1 (.inl q)
      obtain ⟨hle, hT⟩ := numT_len s
      have hne : numT s ≠ [] := fun q => hd (by unfold numD; rw [q]; split <;> rfl)
      have hp : 1 ≤ (numT s).length := by
        rcases Nat.eq_zero_or_pos (numT s).length with q | q
        · exact absurd (List.eq_nil_of_length_eq_zero q) hne
        · exact q
      refine ⟨⟨fun r hr => ?_, fun r hr => ?_, hne⟩, hT, hle⟩
      · obtain ⟨e1, e2⟩ := num_again2 hr hd
        have e3 : numD (numT s ++ r) = numD s := by unfold numD; rw [e1, e2]
        have e4 : numV (numT s ++ r) = numV s := by unfold numV; rw [e1, e3]
        have e5 : bat (numT s ++ r) 0 = bat s 0 := by have q := bat_take (s := s) (n := (numT s).length) (j := 0) hp hle r; rwa [← hT] at q
        show tokF (numT s ++ r) = _
        unfold tokF
        rw [e5, hl, hg]
        simp only [Bool.false_eq_true, if_false, if_true]
        unfold numF
        rw [e3, e4, e2, runs_sep2 _ _ hr, if_neg (by simp [hd]), if_neg h2]
      · show blankF (numT s ++ r) = some 0
        have q := blank_again2 hb hp hle hr
        rwa [← hT] at q
theorem chr_good2 {s : List UInt8} {t : Tk} (hl : letB (bat s 0) = false) (hg : digB (bat s 0) = false) (h39 : bat s 0 = 39) (hb : blankF s = some 0) (h : chrF s = .ok t) : Good2 t ∧ t.t = s.take t.t.length ∧ t.t.length ≤ s.length := by
  unfold chrF at h
  split at h
  · cases h
  · next h1 =>
    simp only [not_or] at h1
    obtain ⟨q1, q2, q3⟩ := h1
    have q2 : bat s (chrN s - 1) = 39 := by simpa using q2
    have hle : chrN s ≤ s.length := by omega
    cases hv : chrV s with
    | none => rw [hv] at h; cases h
    | some n =>
      rw [hv] at h
      injection h with h
      subst h
      have h34 : chrN s = 3 ∨ chrN s = 4 := by unfold chrN; split <;> simp
      have hlt : (s.take (chrN s)).length = chrN s := by rw [List.length_take, Nat.min_eq_left hle]
      have eN : ∀ r, chrN (s.take (chrN s) ++ r) = chrN s := fun r => by
        have e1 : bat (s.take (chrN s) ++ r) 1 = bat s 1 := bat_take (by omega) hle r
        have l1 : 1 < (s.take (chrN s) ++ r).length := by rw [List.length_append, hlt]; omega
        have l2 : 1 < s.length := by omega
        exact chrN_of l1 l2 e1
      have eV : ∀ r, chrV (s.take (chrN s) ++ r) = chrV s := fun r => by
        unfold chrV
        rw [eN r, bat_take (by omega) hle r, bat_take (by omega) hle r]
      refine ⟨⟨fun r hr => ?_, fun r hr => blank_again2 hb (by omega) hle hr, ?_⟩, ?_, ?_⟩
      · unfold tokF
        show (if letB (bat (s.take (chrN s) ++ r) 0) then _ else _) = _
        rw [bat_take (by omega) hle r, hl, hg, h39]
        simp only [Bool.false_eq_true, if_false, if_true]
        unfold chrF
        rw [eN r, eV r, hv, bat_take (by omega) hle r, runs_take2 hle hr, if_neg (by rw [List.length_append, hlt, q2]; simp), take_take_app hle]
      · intro e
        have := congrArg List.length e
        rw [hlt, List.length_nil] at this
        omega
      · rw [hlt]
      · rw [hlt]; exact hle
theorem sym_c (c : UInt8) (hc : c = 9 ∨ c = 10 ∨ c = 13 ∨ c = 32) (r' : List UInt8) : ∀ t ∈ symL, symF (t ++ c :: r') = some t := by
  intro t h
  simp only [symL, List.mem_cons, List.not_mem_nil, or_false] at h
  rcases hc with rfl | rfl | rfl | rfl
  · rcases h with rfl | rfl | rfl | rfl | rfl | rfl | rfl | rfl | rfl | rfl | rfl | rfl | rfl | rfl | rfl | rfl | rfl | rfl | rfl | rfl | rfl | rfl | rfl | rfl | rfl | rfl | rfl | rfl | rfl | rfl | rfl | rfl | rfl | rfl | rfl | rfl | rfl | rfl | rfl | rfl | rfl | rfl | rfl | rfl | rfl <;> rfl
  · rcases h with rfl | rfl | rfl | rfl | rfl | rfl | rfl | rfl | rfl | rfl | rfl | rfl | rfl | rfl | rfl | rfl | rfl | rfl | rfl | rfl | rfl | rfl | rfl | rfl | rfl | rfl | rfl | rfl | rfl | rfl | rfl | rfl | rfl | rfl | rfl | rfl | rfl | rfl | rfl | rfl | rfl | rfl | rfl | rfl | rfl <;> rfl
  · rcases h with rfl | rfl | rfl | rfl | rfl | rfl | rfl | rfl | rfl | rfl | rfl | rfl | rfl | rfl | rfl | rfl | rfl | rfl | rfl | rfl | rfl | rfl | rfl | rfl | rfl | rfl | rfl | rfl | rfl | rfl | rfl | rfl | rfl | rfl | rfl | rfl | rfl | rfl | rfl | rfl | rfl | rfl | rfl | rfl | rfl <;> rfl
  · rcases h with rfl | rfl | rfl | rfl | rfl | rfl | rfl | rfl | rfl | rfl | rfl | rfl | rfl | rfl | rfl | rfl | rfl | rfl | rfl | rfl | rfl | rfl | rfl | rfl | rfl | rfl | rfl | rfl | rfl | rfl | rfl | rfl | rfl | rfl | rfl | rfl | rfl | rfl | rfl | rfl | rfl | rfl | rfl | rfl | rfl <;> rfl
theorem byte_four {c : UInt8} (h : blankB (c.toNat : Int) = true) : c = 9 ∨ c = 10 ∨ c = 13 ∨ c = 32 := by
  have k : ∀ d : UInt8, (c.toNat : Int) = (d.toNat : Int) → c = d := fun d h => UInt8.toNat_inj.1 (by omega)
  rcases blank_four h with h | h | h | h
  · exact .inl (k 9 h)
  · exact .inr (.inl (k 10 h))
  · exact .inr (.inr (.inl (k 13 h)))
  · exact .inr (.inr (.inr (k 32 h)))
theorem sym_again2 {t : List UInt8} (h : t ∈ symL) (r : List UInt8) (hr : Gap2 r) : symF (t ++ r) = some t := by
  rcases hr with rfl | ⟨c, r', hc, rfl⟩
  · exact sym_again h [] (.inl rfl)
  · exact sym_c c (byte_four hc) r' t h
theorem mark_good2 {s : List UInt8} {t : Tk} (hl : letB (bat s 0) = false) (hg : digB (bat s 0) = false) (h39 : ¬bat s 0 = 39) (hb : blankF s = some 0) (h : markF s = .ok t) : Good2 t ∧ t.t = s.take t.t.length ∧ t.t.length ≤ s.length := by
  unfold markF at h
  cases hq : symF s with
  | none => rw [hq] at h; cases h
  | some u =>
    rw [hq] at h
    injection h with h
    subst h
    have hm : u ∈ symL := List.mem_of_find?_eq_some hq
    have hp : u.isPrefixOf s = true := by
      have hq2 := hq
      unfold symF at hq2
      have := List.find?_some hq2
      exact this
    obtain ⟨r0, hr0⟩ := List.isPrefixOf_iff_prefix.1 hp
    obtain ⟨hne, h10⟩ := sym_no10 hm
    have hlen : 1 ≤ u.length := by
      rcases Nat.eq_zero_or_pos u.length with q | q
      · exact absurd (List.eq_nil_of_length_eq_zero q) hne
      · exact q
    have hle : u.length ≤ s.length := by rw [← hr0, List.length_append]; omega
    have hT : u = s.take u.length := by rw [← hr0, List.take_left]
    refine ⟨⟨fun r hr => ?_, fun r hr => ?_, hne⟩, hT, hle⟩
    · have e5 : bat (u ++ r) 0 = bat s 0 := by have q := bat_take (s := s) (n := u.length) (j := 0) hlen hle r; rwa [← hT] at q
      show tokF (u ++ r) = _
      unfold tokF
      rw [e5, hl, hg]
      simp only [Bool.false_eq_true, if_false, h39]
      unfold markF
      rw [sym_again2 hm r hr]
    · have q := blank_again2 hb hlen hle hr
      rwa [← hT] at q
theorem tok_good2 {s : List UInt8} {t : Tk} (hs : s ≠ []) (hb : blankF s = some 0) (h : tokF s = .ok t) : Good2 t ∧ t.t = s.take t.t.length ∧ t.t.length ≤ s.length := by
  unfold tokF at h
  split at h
  · next h1 => exact name_good2 hs h1 hb h
  · next h1 =>
    split at h
    · next h2 => exact num_good2 (by simpa using h1) h2 hb h
    · next h2 =>
      split at h
      · next h3 => exact chr_good2 (by simpa using h1) (by simpa using h2) h3 hb h
      · next h3 => exact mark_good2 (by simpa using h1) (by simpa using h2) h3 hb h
/-- What a text is read as, without where. -/
def lexN : Nat → List UInt8 → Except Int (List Tk)
  | 0, _ => .error 16
  | f + 1, s =>
    match blankF s with
    | none => .error 3
    | some (n + 1) => lexN f (s.drop (n + 1))
    | some 0 =>
      if s = [] then .ok []
      else match tokF s with
        | .error e => .error e
        | .ok t => (lexN f (s.drop t.t.length)).map fun x => t :: x
theorem lexF_N : ∀ (f : Nat) (s : List UInt8) (p : Int × Int), (match lexF f s p with | .error e => .error e.1 | .ok x => .ok (x.1.map (·.1))) = lexN f s
  | 0, s, p => rfl
  | f + 1, s, p => by
    unfold lexF lexN
    cases hb : blankF s with
    | none => rfl
    | some n =>
      cases n with
      | succ n => exact lexF_N f _ _
      | zero =>
        simp only []
        by_cases hs : s = []
        · rw [if_pos hs, if_pos hs]; rfl
        · rw [if_neg hs, if_neg hs]
          cases ht : tokF s with
          | error e => rfl
          | ok t =>
            simp only []
            rw [← lexF_N f (s.drop t.t.length) (afterF p t.t)]
            cases lexF f (s.drop t.t.length) (afterF p t.t) with
            | error e => rfl
            | ok x => rfl
def lexM (s : List UInt8) : Except Int (List Tk) := lexN (s.length + 1) s
theorem tok_len {s : List UInt8} {t : Tk} (hs : s ≠ []) (hb : blankF s = some 0) (ht : tokF s = .ok t) : 1 ≤ t.t.length ∧ t.t.length ≤ s.length := by
  obtain ⟨hG, hT, hl⟩ := tok_good hs hb ht
  refine ⟨?_, hl⟩
  rcases Nat.eq_zero_or_pos t.t.length with q | q
  · exact absurd (List.eq_nil_of_length_eq_zero q) hG.ne
  · exact q
theorem more_N : ∀ (f g : Nat) (s : List UInt8), s.length < f → s.length < g → lexN f s = lexN g s
  | 0, _, _, h, _ => by omega
  | _ + 1, 0, _, _, h => by omega
  | f + 1, g + 1, s, hf, hg => by
    unfold lexN
    cases hb : blankF s with
    | none => rfl
    | some n =>
      cases n with
      | succ n =>
        have := blank_le hb
        exact more_N f g _ (by rw [List.length_drop]; omega) (by rw [List.length_drop]; omega)
      | zero =>
        simp only []
        by_cases hs : s = []
        · rw [if_pos hs, if_pos hs]
        · rw [if_neg hs, if_neg hs]
          cases ht : tokF s with
          | error e => rfl
          | ok t =>
            obtain ⟨h1, h2⟩ := tok_len hs hb ht
            simp only []
            rw [more_N f g _ (by rw [List.length_drop]; omega) (by rw [List.length_drop]; omega)]
theorem lexM_blank {s : List UInt8} {n : Nat} (hb : blankF s = some (n + 1)) : lexM s = lexM (s.drop (n + 1)) := by
  have h1 := blank_le hb
  unfold lexM
  conv => lhs; unfold lexN
  rw [hb]
  exact more_N _ _ _ (by rw [List.length_drop]; omega) (Nat.lt_succ_self _)
theorem lexM_nil : lexM [] = .ok [] := by
  unfold lexM lexN
  rw [show blankF [] = some 0 from rfl]
  rfl
theorem lexM_tok {t : Tk} (h : Good2 t) {r : List UInt8} (hr : Gap2 r) : lexM (t.t ++ r) = (lexM r).map fun x => t :: x := by
  have hne : t.t ++ r ≠ [] := by simp [h.ne]
  obtain ⟨h1, h2⟩ := tok_len hne (h.blank r hr) (h.tok r hr)
  unfold lexM
  conv => lhs; unfold lexN
  rw [h.blank r hr]
  simp only []
  rw [if_neg hne, h.tok r hr]
  simp only []
  rw [List.drop_left, more_N _ (r.length + 1) _ (by rw [List.length_append]; omega) (Nat.lt_succ_self _)]
/-- No blank comes first. -/
def NB (X : List UInt8) : Prop := spanN blankB X = 0
theorem pre_no {b c : UInt8} {l : List UInt8} (h : b ≠ 47) : ([47, c] : List UInt8).isPrefixOf (b :: l) = false := by
  simp only [List.isPrefixOf, Bool.and_eq_false_iff, beq_eq_false_iff_ne, ne_eq]
  exact .inl fun e => h e.symm
theorem skip1 {b : UInt8} {X : List UInt8} (hb : blankB (b.toNat : Int) = true) (hX : NB X) : lexM (b :: X) = lexM X := by
  have h47 : b ≠ 47 := fun e => by subst e; revert hb; decide
  have h : blankF (b :: X) = some (0 + 1) := by
    unfold blankF
    rw [pre_no h47, pre_no h47]
    simp only [Bool.false_eq_true, if_false]
    rw [spanN_cons, if_pos hb, hX]
  exact lexM_blank h
theorem skip2 {b c : UInt8} {X : List UInt8} (hb : blankB (b.toNat : Int) = true) (hc : blankB (c.toNat : Int) = true) (hX : NB X) : lexM (b :: c :: X) = lexM X := by
  have h47 : b ≠ 47 := fun e => by subst e; revert hb; decide
  have h : blankF (b :: c :: X) = some (1 + 1) := by
    unfold blankF
    rw [pre_no h47, pre_no h47]
    simp only [Bool.false_eq_true, if_false]
    rw [spanN_cons, if_pos hb, spanN_cons, if_pos hc, hX]
  exact lexM_blank h
theorem nb47 (X : List UInt8) : NB (47 :: X) := by
  unfold NB
  rw [spanN_cons, if_neg (by decide)]
theorem skip_c {n : Nat} {b X : List UInt8} (he : endF (b ++ X) = some n) (hn : n + 2 = b.length) : lexM (47 :: 42 :: (b ++ X)) = lexM X := by
  have h : blankF (47 :: 42 :: (b ++ X)) = some ((n + 3) + 1) := by
    unfold blankF
    rw [show ([47, 47] : List UInt8).isPrefixOf (47 :: 42 :: (b ++ X)) = false from rfl, show ([47, 42] : List UInt8).isPrefixOf (47 :: 42 :: (b ++ X)) = true from rfl]
    simp only [Bool.false_eq_true, if_false, if_true, List.drop_succ_cons, List.drop_zero]
    rw [he]
    rfl
  rw [lexM_blank h]
  congr 1
  show (b ++ X).drop (n + 3 + 1 - 2) = X
  rw [show n + 3 + 1 - 2 = b.length by omega, List.drop_left]
theorem skip_l {n : Nat} {b X : List UInt8} (he : ∀ x ∈ b, x ≠ 10) : lexM (47 :: 47 :: (b ++ 10 :: X)) = lexM (10 :: X) := by
  have hl : lineN (b ++ 10 :: X) = b.length := by
    clear n
    induction b with
    | nil => rfl
    | cons c b ih =>
      rw [List.cons_append, line_cons, if_neg (he c List.mem_cons_self), ih (fun x hx => he x (List.mem_cons_of_mem _ hx))]
      rfl
  have h : blankF (47 :: 47 :: (b ++ 10 :: X)) = some ((b.length + 1) + 1) := by
    unfold blankF
    rw [show ([47, 47] : List UInt8).isPrefixOf (47 :: 47 :: (b ++ 10 :: X)) = true from rfl]
    simp only [if_true]
    rw [line_cons, if_neg (by decide), line_cons, if_neg (by decide), hl]
  rw [lexM_blank h]
  congr 1
  show (b ++ 10 :: X).drop b.length = _
  rw [List.drop_left]
/-- The law's blanks. -/
def blK : Nat → List UInt8
  | 0 => [32]
  | 1 => [10]
  | 2 => [9, 13]
  | 3 => [32, 47, 42, 32, 42, 32, 47, 32, 39, 32, 42, 47]
  | 4 => [32, 47, 47, 32, 47, 42, 10]
  | _ => [32, 47, 42, 42, 47, 32]
theorem end_no {b : UInt8} {l : List UInt8} {n : Nat} (h : ¬(b = 42 ∧ bat l 0 = 47 ∧ l ≠ [])) (he : endF l = some n) : endF (b :: l) = some (n + 1) := by
  conv => lhs; unfold endF
  rw [if_neg h, he]
  rfl
theorem end_yes (l : List UInt8) : endF (42 :: 47 :: l) = some 0 := by
  unfold endF
  rw [if_pos ⟨rfl, rfl, by simp⟩]
theorem skip_k (k : Nat) {X : List UInt8} (hX : NB X) : lexM (blK k ++ X) = lexM X := by
  match k with
  | 0 => exact skip1 (by decide) hX
  | 1 => exact skip1 (by decide) hX
  | 2 => exact skip2 (by decide) (by decide) hX
  | 3 =>
    show lexM (32 :: 47 :: 42 :: ([32, 42, 32, 47, 32, 39, 32, 42, 47] ++ X)) = _
    rw [skip1 (by decide) (nb47 _)]
    exact skip_c (n := 7) (end_no (fun h => absurd h.1 (by decide)) (end_no (by rintro ⟨_, h, _⟩; revert h; show ¬((32 : Int) = 47); decide) (end_no (fun h => absurd h.1 (by decide)) (end_no (fun h => absurd h.1 (by decide)) (end_no (fun h => absurd h.1 (by decide)) (end_no (fun h => absurd h.1 (by decide)) (end_no (fun h => absurd h.1 (by decide)) (end_yes X)))))))) rfl
  | 4 =>
    show lexM (32 :: 47 :: 47 :: ([32, 47, 42] ++ 10 :: X)) = _
    rw [skip1 (by decide) (nb47 _), skip_l (n := 0) (by decide)]
    exact skip1 (by decide) hX
  | k + 5 =>
    show lexM (32 :: 47 :: 42 :: ([42, 47] ++ 32 :: X)) = _
    rw [skip1 (by decide) (nb47 _), skip_c (n := 0) (end_yes _) rfl]
    exact skip1 (by decide) hX
theorem blk_gap (k : Nat) (X : List UInt8) : Gap2 (blK k ++ X) := by
  match k with
  | 0 => exact .inr ⟨32, _, by decide, rfl⟩
  | 1 => exact .inr ⟨10, _, by decide, rfl⟩
  | 2 => exact .inr ⟨9, _, by decide, rfl⟩
  | 3 => exact .inr ⟨32, _, by decide, rfl⟩
  | 4 => exact .inr ⟨32, _, by decide, rfl⟩
  | k + 5 => exact .inr ⟨32, _, by decide, rfl⟩
/-- The tokens, each with a blank behind it. -/
def blT (ks : Nat → Nat) : Nat → List Tk → List UInt8
  | _, [] => []
  | i, t :: l => t.t ++ blK (ks i) ++ blT ks (i + 1) l
theorem good_nb {t : Tk} (h : Good2 t) (r : List UInt8) (hr : Gap2 r) : NB (t.t ++ r) := by
  have h0 := h.blank r hr
  cases ht : t.t with
  | nil => exact absurd ht h.ne
  | cons b l =>
    rw [ht, List.cons_append] at h0
    obtain ⟨q, _, _⟩ := blank0 h0
    unfold NB
    rw [List.cons_append, spanN_cons, if_neg (by rw [q]; decide)]
theorem lex_blanks (ks : Nat → Nat) : ∀ (l : List Tk) (i : Nat) (_ : ∀ t ∈ l, Good2 t), NB (blT ks i l ++ [47, 47]) ∧ lexM (blT ks i l ++ [47, 47]) = .ok l
  | [], i, _ => by
    refine ⟨nb47 _, ?_⟩
    show lexM [47, 47] = _
    rw [lexM_blank (n := 1) (by rfl)]
    exact lexM_nil
  | t :: l, i, h => by
    obtain ⟨i1, i2⟩ := lex_blanks ks l (i + 1) (fun u hu => h u (List.mem_cons_of_mem _ hu))
    have ht := h t List.mem_cons_self
    have e : blT ks i (t :: l) ++ [47, 47] = t.t ++ (blK (ks i) ++ (blT ks (i + 1) l ++ [47, 47])) := by simp [blT]
    rw [e]
    refine ⟨good_nb ht _ (blk_gap _ _), ?_⟩
    rw [lexM_tok ht (blk_gap _ _), skip_k _ i1, i2]
    rfl
theorem lex_all (ks : Nat → Nat) (l : List Tk) (h : ∀ t ∈ l, Good2 t) : lexM ([47, 42, 42, 42, 47] ++ blT ks 0 l ++ [47, 47]) = .ok l := by
  obtain ⟨h1, h2⟩ := lex_blanks ks l 0 h
  have e : [47, 42, 42, 42, 47] ++ blT ks 0 l ++ [47, 47] = 47 :: 42 :: (([42, 42, 47] : List UInt8) ++ (blT ks 0 l ++ [47, 47])) := by simp
  rw [e, skip_c (n := 1) (end_no (by rintro ⟨_, q, _⟩; revert q; show ¬((42 : Int) = 47); decide) (end_yes _)) rfl, h2]
end Go.Proofs.YtoffbjfgledjfaaDoor
