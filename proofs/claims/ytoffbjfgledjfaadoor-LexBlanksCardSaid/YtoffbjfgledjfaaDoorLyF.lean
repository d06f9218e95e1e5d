/-
  Lex (layer 7): a token.
-/
import Derived.Test.YtoffbjfgledjfaaDoorLyE
namespace Go.Proofs.YtoffbjfgledjfaaDoor
open Go.RowKit
set_option linter.unusedVariables false
set_option linter.unusedSimpArgs false
set_option linter.unnecessarySimpa false
theorem qk_lex_isLetter (w : World) (vs : Array Value) : (callFunc 25 vs).run Tryd.prog w = .ok (.enter 25 vs) w := by simp [go_sem]
theorem qk_lex_name (w : World) (vs : Array Value) : (callFunc 26 vs).run Tryd.prog w = .ok (.enter 26 vs) w := by simp [go_sem]
theorem qk_lex_isDigit (w : World) (vs : Array Value) : (callFunc 27 vs).run Tryd.prog w = .ok (.enter 27 vs) w := by simp [go_sem]
theorem qk_lex_number (w : World) (vs : Array Value) : (callFunc 28 vs).run Tryd.prog w = .ok (.enter 28 vs) w := by simp [go_sem]
theorem qk_lex_character (w : World) (vs : Array Value) : (callFunc 29 vs).run Tryd.prog w = .ok (.enter 29 vs) w := by simp [go_sem]
theorem qk_lex_symbol (w : World) (vs : Array Value) : (callFunc 30 vs).run Tryd.prog w = .ok (.enter 30 vs) w := by simp [go_sem]
theorem qk_strings_Cut (w : World) (vs : Array Value) : (callFunc 20 vs).run Tryd.prog w = .ok (.enter 20 vs) w := by simp [go_sem]
theorem qk_strings_CutPrefix (w : World) (vs : Array Value) : (callFunc 21 vs).run Tryd.prog w = .ok (.enter 21 vs) w := by simp [go_sem]
theorem qk_strings_Index (w : World) (vs : Array Value) : (callFunc 22 vs).run Tryd.prog w = .ok (.enter 22 vs) w := by simp [go_sem]
theorem t_let (c : Int) (w : World) : Calls Tryd.prog 25 #[.int .u8 c] w fun e w' => e = .returned (.bool (letB c)) ∧ w' = w := (c25 c w).mono fun e w' h => ⟨h.1, h.2.symm⟩
theorem t_dig (c : Int) (w : World) : Calls Tryd.prog 27 #[.int .u8 c] w fun e w' => e = .returned (.bool (digB c)) ∧ w' = w := (c27 c w).mono fun e w' h => ⟨h.1, h.2.symm⟩
theorem t_sym (s : List UInt8) (w : World) : Calls Tryd.prog 30 #[bts s] w fun e w' => e = .returned (TV (markF s)) ∧ Fr (fun _ => False) w w' := (symbol_any ⟨s.toArray⟩ w).mono fun e w' h => by
  unfold SymP at h
  unfold markF
  rw [show (⟨s.toArray⟩ : ByteArray).data.toList = s from rfl] at h
  cases hq : symF s with
  | none => rw [hq] at h; exact h
  | some t => rw [hq] at h; exact h
set_option maxRecDepth 100000 in
theorem t_token (s : List UInt8) (h0 : 0 < s.length) (hs : s.length ≤ 1000000) (w : World) (he : ErW w) : Calls Tryd.prog 17 #[bts s] w fun e w' => e = .returned (TV (tokF s)) ∧ Fr (fun _ => False) w w' := by
  have ff := Fr.refl (fun _ => False) w
  refine calls_tw Tryd.func17 rfl rfl (Nat.le_of_ble_eq_true rfl) ?_
  refine TW.sreg ?_
  have lw1 := ff.size
  refine O.allocR rfl rfl rfl rfl (qzR_api_Token w) ?_
  rintro wa1 ⟨fa1, bx1⟩
  replace ff := ff.trans fa1
  refine WL.op rfl rfl rfl (Go.Proofs.YtoffbjfgledjfaaDoor.W.quiet_assign rfl rfl) ?_
  refine WL.nil ?_
  refine TW.seq ?_
  refine TW.sreg ?_
  refine WL.op rfl rfl rfl (Go.Proofs.YtoffbjfgledjfaaDoor.W.quiet_move rfl rfl) ?_
  refine O.ix rfl rfl rfl rfl rfl rfl (str_at _ s 0 h0) ?_
  refine WL.op rfl rfl rfl (Go.Proofs.YtoffbjfgledjfaaDoor.W.quiet_assign rfl rfl) ?_
  refine WL.nil ?_
  refine TW.block ?_
  refine TW.sreg ?_
  refine WL.op rfl rfl rfl (Go.Proofs.YtoffbjfgledjfaaDoor.W.quiet_move rfl rfl) ?_
  refine WL.call (hr := (t_let (bat s 0) _)) rfl rfl rfl rfl rfl (fun W => qk_lex_isLetter W _) ?_
  rintro e wz ⟨rfl, hwz⟩
  refine ⟨_, rfl, ?_⟩
  obtain rfl := hwz.symm
  refine O.split (fun a1 => ?_) (fun a1 => ?_)
  · skip
    obtain ⟨k, t, n, er, hTV⟩ := TV_form (nameF s)
    refine WL.op rfl rfl rfl (Go.Proofs.YtoffbjfgledjfaaDoor.W.quiet_assign rfl rfl) ?_
    refine WL.nil ?_
    refine TW.cond rfl (fun _ => ?_) (fun hb => by cases hb)
    refine TW.sreg ?_
    refine WL.op rfl rfl rfl (Go.Proofs.YtoffbjfgledjfaaDoor.W.quiet_move rfl rfl) ?_
    refine WL.call (hr := (by have q := t_name s hs wa1; rw [hTV] at q; exact q)) rfl rfl rfl rfl rfl (fun W => qk_lex_name W _) ?_
    rintro e w1 ⟨rfl, f1⟩
    refine ⟨.tuple #[.agg #[.int .i64 k, bts t, .int .u32 n, .int .i64 0, .int .i64 0], .int .i64 er], rfl, ?_⟩
    replace bx1 := bx1.fr f1 id
    replace ff := ff.trans f1
    refine O.ext rfl rfl rfl rfl rfl rfl ?_
    refine O.ext rfl rfl rfl rfl rfl rfl ?_
    refine O.storeR rfl rfl rfl rfl rfl (qsA_api_Token w1 _ _ _ _ _ _ _ _ _ _ _ bx1) ?_
    rintro wa2 ⟨fa2, bx1x⟩
    replace ff := ff.trans' fa2 (fun q hq e => by omega)
    clear bx1
    have bx1 := bx1x
    clear bx1x
    refine WL.op rfl rfl rfl (Go.Proofs.YtoffbjfgledjfaaDoor.W.quiet_assign rfl rfl) ?_
    refine WL.nil ?_
    refine TW.rt ?_
    refine Xw.rblk ?_
    refine Xw.thn (by simp) ?_
    refine O.retc2 rfl rfl rfl (run_loadVar_row _ _ _ 32 _ _ _ bx1 Tryd.underlying32 rfl (by kernel_rfl)) ?_
    have q : tokF s = nameF s := by unfold tokF; rw [if_pos a1]
    exact ⟨by rw [q, hTV]; rfl, ff⟩
  · skip
    refine WL.op rfl rfl rfl (Go.Proofs.YtoffbjfgledjfaaDoor.W.quiet_assign rfl rfl) ?_
    refine WL.nil ?_
    refine TW.cond rfl (fun hb => by cases hb) (fun _ => ?_)
    refine TW.sreg ?_
    refine WL.op rfl rfl rfl (Go.Proofs.YtoffbjfgledjfaaDoor.W.quiet_move rfl rfl) ?_
    refine WL.call (hr := (t_dig (bat s 0) _)) rfl rfl rfl rfl rfl (fun W => qk_lex_isDigit W _) ?_
    rintro e wz ⟨rfl, hwz⟩
    refine ⟨_, rfl, ?_⟩
    obtain rfl := hwz.symm
    refine O.split (fun a2 => ?_) (fun a2 => ?_)
    · skip
      obtain ⟨k, t, n, er, hTV⟩ := TV_form (numF s)
      refine WL.op rfl rfl rfl (Go.Proofs.YtoffbjfgledjfaaDoor.W.quiet_assign rfl rfl) ?_
      refine WL.nil ?_
      refine TW.cond rfl (fun _ => ?_) (fun hb => by cases hb)
      refine TW.sreg ?_
      refine WL.op rfl rfl rfl (Go.Proofs.YtoffbjfgledjfaaDoor.W.quiet_move rfl rfl) ?_
      refine WL.call (hr := (by have q := t_number s hs wa1 (he.fr ff id id); rw [hTV] at q; exact q)) rfl rfl rfl rfl rfl (fun W => qk_lex_number W _) ?_
      rintro e w1 ⟨rfl, f1⟩
      refine ⟨.tuple #[.agg #[.int .i64 k, bts t, .int .u32 n, .int .i64 0, .int .i64 0], .int .i64 er], rfl, ?_⟩
      replace bx1 := bx1.fr f1 id
      replace ff := ff.trans f1
      refine O.ext rfl rfl rfl rfl rfl rfl ?_
      refine O.ext rfl rfl rfl rfl rfl rfl ?_
      refine O.storeR rfl rfl rfl rfl rfl (qsA_api_Token w1 _ _ _ _ _ _ _ _ _ _ _ bx1) ?_
      rintro wa3 ⟨fa3, bx1x⟩
      replace ff := ff.trans' fa3 (fun q hq e => by omega)
      clear bx1
      have bx1 := bx1x
      clear bx1x
      refine WL.op rfl rfl rfl (Go.Proofs.YtoffbjfgledjfaaDoor.W.quiet_assign rfl rfl) ?_
      refine WL.nil ?_
      refine TW.rt ?_
      refine Xw.rblk ?_
      refine Xw.thn (by simp) ?_
      refine O.retc2 rfl rfl rfl (run_loadVar_row _ _ _ 32 _ _ _ bx1 Tryd.underlying32 rfl (by kernel_rfl)) ?_
      have q : tokF s = numF s := by unfold tokF; rw [if_neg (by rw [a1]; decide), if_pos a2]
      exact ⟨by rw [q, hTV]; rfl, ff⟩
    · skip
      refine WL.op rfl rfl rfl (Go.Proofs.YtoffbjfgledjfaaDoor.W.quiet_assign rfl rfl) ?_
      refine WL.nil ?_
      refine TW.cond rfl (fun hb => by cases hb) (fun _ => ?_)
      refine TW.sreg ?_
      refine WL.op rfl rfl rfl (Go.Proofs.YtoffbjfgledjfaaDoor.W.quiet_move rfl rfl) ?_
      refine WL.op rfl rfl rfl (Go.Proofs.YtoffbjfgledjfaaDoor.W.quiet_bin rfl rfl rfl (fun W => qb_eql_uint8 W _ _ _ _)) ?_
      refine O.split (fun a3 => ?_) (fun a3 => ?_)
      · skip
        obtain ⟨k, t, n, er, hTV⟩ := TV_form (chrF s)
        refine WL.op rfl rfl rfl (Go.Proofs.YtoffbjfgledjfaaDoor.W.quiet_assign rfl rfl) ?_
        refine WL.nil ?_
        refine TW.cond rfl (fun _ => ?_) (fun hb => by cases hb)
        refine TW.sreg ?_
        refine WL.op rfl rfl rfl (Go.Proofs.YtoffbjfgledjfaaDoor.W.quiet_move rfl rfl) ?_
        refine WL.call (hr := (by have q := t_chr s hs wa1; rw [hTV] at q; exact q)) rfl rfl rfl rfl rfl (fun W => qk_lex_character W _) ?_
        rintro e w1 ⟨rfl, f1⟩
        refine ⟨.tuple #[.agg #[.int .i64 k, bts t, .int .u32 n, .int .i64 0, .int .i64 0], .int .i64 er], rfl, ?_⟩
        replace bx1 := bx1.fr f1 id
        replace ff := ff.trans f1
        refine O.ext rfl rfl rfl rfl rfl rfl ?_
        refine O.ext rfl rfl rfl rfl rfl rfl ?_
        refine O.storeR rfl rfl rfl rfl rfl (qsA_api_Token w1 _ _ _ _ _ _ _ _ _ _ _ bx1) ?_
        rintro wa4 ⟨fa4, bx1x⟩
        replace ff := ff.trans' fa4 (fun q hq e => by omega)
        clear bx1
        have bx1 := bx1x
        clear bx1x
        refine WL.op rfl rfl rfl (Go.Proofs.YtoffbjfgledjfaaDoor.W.quiet_assign rfl rfl) ?_
        refine WL.nil ?_
        refine TW.rt ?_
        refine Xw.rblk ?_
        refine Xw.thn (by simp) ?_
        refine O.retc2 rfl rfl rfl (run_loadVar_row _ _ _ 32 _ _ _ bx1 Tryd.underlying32 rfl (by kernel_rfl)) ?_
        have q : tokF s = chrF s := by unfold tokF; rw [if_neg (by rw [a1]; decide), if_neg (by rw [a2]; decide), if_pos (eq_of_beq a3)]
        exact ⟨by rw [q, hTV]; rfl, ff⟩
      · skip
        obtain ⟨k, t, n, er, hTV⟩ := TV_form (markF s)
        refine WL.op rfl rfl rfl (Go.Proofs.YtoffbjfgledjfaaDoor.W.quiet_assign rfl rfl) ?_
        refine WL.nil ?_
        refine TW.cond rfl (fun hb => by cases hb) (fun _ => ?_)
        refine TW.skipx ?_
        refine Xw.nblk ?_
        refine Xw.nrm ?_
        refine TW.sreg ?_
        refine WL.op rfl rfl rfl (Go.Proofs.YtoffbjfgledjfaaDoor.W.quiet_move rfl rfl) ?_
        refine WL.call (hr := (by have q := t_sym s wa1; rw [hTV] at q; exact q)) rfl rfl rfl rfl rfl (fun W => qk_lex_symbol W _) ?_
        rintro e w1 ⟨rfl, f1⟩
        refine ⟨.tuple #[.agg #[.int .i64 k, bts t, .int .u32 n, .int .i64 0, .int .i64 0], .int .i64 er], rfl, ?_⟩
        replace bx1 := bx1.fr f1 id
        replace ff := ff.trans f1
        refine O.ext rfl rfl rfl rfl rfl rfl ?_
        refine O.ext rfl rfl rfl rfl rfl rfl ?_
        refine O.storeR rfl rfl rfl rfl rfl (qsA_api_Token w1 _ _ _ _ _ _ _ _ _ _ _ bx1) ?_
        rintro wa5 ⟨fa5, bx1x⟩
        replace ff := ff.trans' fa5 (fun q hq e => by omega)
        clear bx1
        have bx1 := bx1x
        clear bx1x
        refine WL.op rfl rfl rfl (Go.Proofs.YtoffbjfgledjfaaDoor.W.quiet_assign rfl rfl) ?_
        refine WL.nil ?_
        refine TW.rt ?_
        refine O.retc2 rfl rfl rfl (run_loadVar_row _ _ _ 32 _ _ _ bx1 Tryd.underlying32 rfl (by kernel_rfl)) ?_
        have q : tokF s = markF s := by unfold tokF; rw [if_neg (by rw [a1]; decide), if_neg (by rw [a2]; decide), if_neg (ne_of_beq_false a3)]
        exact ⟨by rw [q, hTV]; rfl, ff⟩
theorem line_cons (b : UInt8) (l : List UInt8) : lineN (b :: l) = if b = 10 then 0 else lineN l + 1 := by
  unfold lineN
  rw [List.takeWhile_cons]
  by_cases h : b = 10
  · subst h; simp
  · simp [h]
theorem line_le : ∀ s : List UInt8, lineN s ≤ s.length
  | [] => Nat.le_refl _
  | b :: l => by
    rw [line_cons]
    have := line_le l
    split <;> simp <;> omega
theorem line_index : ∀ s : List UInt8, Lib.index s [10] = if lineN s < s.length then (lineN s : Int) else -1
  | [] => rfl
  | b :: l => by
    have ih := line_index l
    have hl := line_le l
    unfold Lib.index
    rw [line_cons]
    by_cases h : b = 10
    · subst h
      rw [if_pos (by rfl), if_pos rfl, if_pos (by simp)]
      rfl
    · have hp : ([10] : List UInt8).isPrefixOf (b :: l) = false := by
        simp only [List.isPrefixOf, Bool.and_true, beq_eq_false_iff_ne, ne_eq]
        exact fun e => h e.symm
      rw [hp, if_neg (by decide), if_neg h, ih]
      by_cases h2 : lineN l < l.length
      · rw [if_pos h2, if_pos (show lineN l + 1 < (b :: l).length by simp only [List.length_cons]; omega), if_neg (show ¬(((lineN l : Int) == -1) = true) by simp only [beq_iff_eq]; omega)]
        rfl
      · rw [if_neg h2, if_neg (show ¬lineN l + 1 < (b :: l).length by simp only [List.length_cons]; omega), if_pos (show ((-1 : Int) == -1) = true from rfl)]
theorem line_cut (s : List UInt8) : (Lib.cut s [10]).1.length = lineN s := by
  have hl := line_le s
  unfold Lib.cut
  rw [line_index]
  by_cases h : lineN s < s.length
  · rw [if_pos h, if_pos (by omega)]
    simp only [List.length_take, Int.toNat_natCast]
    omega
  · rw [if_neg h, if_neg (by omega)]
    show s.length = _
    omega
theorem end_pre (b : UInt8) (l : List UInt8) : ([42, 47] : List UInt8).isPrefixOf (b :: l) = decide (b = 42 ∧ bat l 0 = 47 ∧ l ≠ []) := by
  cases l with
  | nil => simp [List.isPrefixOf]
  | cons c l =>
    have hc : (c.toNat : Int) = 47 ↔ c = 47 := by
      constructor
      · intro h
        exact UInt8.toNat_inj.1 (by have : (47 : UInt8).toNat = 47 := rfl; omega)
      · rintro rfl; rfl
    have hb : bat (c :: l) 0 = (c.toNat : Int) := rfl
    have hh : (b = 42 ∧ bat (c :: l) 0 = 47 ∧ c :: l ≠ []) ↔ (b = 42 ∧ c = 47) := by rw [hb, hc]; simp
    rw [decide_eq_decide.2 hh]
    by_cases h1 : b = 42 <;> by_cases h2 : c = 47
    · subst h1 h2; rfl
    · subst h1
      have : ¬(47 = c) := fun e => h2 e.symm
      simp [List.isPrefixOf, h2, this]
    · have : ¬(42 = b) := fun e => h1 e.symm
      simp [List.isPrefixOf, h1, this]
    · have : ¬(42 = b) := fun e => h1 e.symm
      simp [List.isPrefixOf, h1, this]
theorem index_end : ∀ s : List UInt8, Lib.index s [42, 47] = match endF s with | some n => (n : Int) | none => -1
  | [] => rfl
  | b :: l => by
    have ih := index_end l
    unfold Lib.index endF
    rw [end_pre]
    by_cases h : b = 42 ∧ bat l 0 = 47 ∧ l ≠ []
    · rw [if_pos (by simpa using h), if_pos h]
      rfl
    · rw [if_neg (by simpa using h), if_neg h, ih]
      cases hq : endF l with
      | none => rfl
      | some n =>
        simp only [Option.map_some]
        rw [if_neg (show ¬(((n : Int) == -1) = true) by simp only [beq_iff_eq]; omega)]
        show ((n : Int) + 1) = ((n + 1 : Nat) : Int)
        omega
theorem end_le : ∀ (s : List UInt8) (n : Nat), endF s = some n → n + 2 ≤ s.length
  | [], n, h => by cases h
  | b :: l, n, h => by
    unfold endF at h
    split at h
    · next q =>
      injection h with h
      subst h
      cases l with
      | nil => exact absurd rfl q.2.2
      | cons c l => simp
    · cases hq : endF l with
      | none => rw [hq] at h; cases h
      | some m =>
        rw [hq] at h
        simp only [Option.map_some, Option.some.injEq] at h
        have := end_le l m hq
        simp only [List.length_cons]
        omega
theorem blank_le {s : List UInt8} {n : Nat} (h : blankF s = some n) : n ≤ s.length := by
  unfold blankF at h
  split at h
  · injection h with h; subst h; exact line_le s
  · split at h
    · cases hq : endF (s.drop 2) with
      | none => rw [hq] at h; cases h
      | some m =>
        rw [hq] at h
        simp only [Option.map_some, Option.some.injEq] at h
        have := end_le _ _ hq
        rw [List.length_drop] at this
        omega
    · injection h with h; subst h; exact spanN_le _ _
def BV (o : Option Nat) : Value := match o with | some n => .tuple #[.int .i64 (n : Int), .int .i64 0] | none => .tuple #[.int .i64 0, .int .i64 3]
set_option maxRecDepth 100000 in
theorem t_blank (s : List UInt8) (hs : s.length ≤ 1000000) (w : World) (hm : MlW w) : Calls Tryd.prog 16 #[bts s] w fun e w' => e = .returned (BV (blankF s)) ∧ Fr (fun _ => False) w w' := by
  have ff := Fr.refl (fun _ => False) w
  refine calls_tw Tryd.func16 rfl rfl (Nat.le_of_ble_eq_true rfl) ?_
  refine TW.sreg ?_
  refine WL.op rfl rfl rfl (Go.Proofs.YtoffbjfgledjfaaDoor.W.quiet_assign rfl rfl) ?_
  refine WL.op rfl rfl rfl (Go.Proofs.YtoffbjfgledjfaaDoor.W.quiet_assign rfl rfl) ?_
  refine WL.nil ?_
  refine TW.seq ?_
  refine TW.sreg ?_
  refine WL.op rfl rfl rfl (Go.Proofs.YtoffbjfgledjfaaDoor.W.quiet_move rfl rfl) ?_
  refine WL.call (hr := (t_pref s [47, 47] _)) rfl rfl rfl rfl rfl (fun W => qk_strings_HasPrefix W _) ?_
  rintro e wz ⟨rfl, hwz⟩
  refine ⟨_, rfl, ?_⟩
  obtain rfl := hwz.symm
  refine O.split (fun a1 => ?_) (fun a1 => ?_)
  · skip
    refine WL.nil ?_
    refine TW.cond rfl (fun _ => ?_) (fun hb => by cases hb)
    refine TW.sreg ?_
    refine WL.op rfl rfl rfl (Go.Proofs.YtoffbjfgledjfaaDoor.W.quiet_move rfl rfl) ?_
    refine WL.call (hr := (t_cut s [10] (by omega) (by decide) _ (hm.fr ff id))) rfl rfl rfl rfl rfl (fun W => qk_strings_Cut W _) ?_
    rintro e w1 ⟨rfl, f1⟩
    refine ⟨_, rfl, ?_⟩
    replace ff := ff.trans f1
    refine WL.op rfl rfl rfl (Go.Proofs.YtoffbjfgledjfaaDoor.W.quiet_move rfl rfl) ?_
    refine O.ext rfl rfl rfl rfl rfl rfl ?_
    refine O.ext rfl rfl rfl rfl rfl rfl ?_
    refine O.ext rfl rfl rfl rfl rfl rfl ?_
    refine WL.op rfl rfl rfl (Go.Proofs.YtoffbjfgledjfaaDoor.W.quiet_assign rfl rfl) ?_
    refine WL.op rfl rfl rfl (Go.Proofs.YtoffbjfgledjfaaDoor.W.quiet_assign rfl rfl) ?_
    refine WL.op rfl rfl rfl (Go.Proofs.YtoffbjfgledjfaaDoor.W.quiet_assign rfl rfl) ?_
    refine WL.nil ?_
    refine TW.sreg ?_
    refine WL.op rfl rfl rfl (Go.Proofs.YtoffbjfgledjfaaDoor.W.quiet_move rfl rfl) ?_
    refine O.len rfl rfl rfl rfl rfl (qn_string _ _) ?_
    refine WL.op rfl rfl rfl (Go.Proofs.YtoffbjfgledjfaaDoor.W.quiet_assign rfl rfl) ?_
    refine WL.op rfl rfl rfl (Go.Proofs.YtoffbjfgledjfaaDoor.W.quiet_assign rfl rfl) ?_
    refine WL.nil ?_
    refine TW.rt ?_
    refine Xw.thn (by simp) ?_
    refine O.ret2 rfl rfl rfl ?_
    have q : blankF s = some (lineN s) := by unfold blankF; rw [if_pos a1]
    exact ⟨by rw [q, ← line_cut]; rfl, ff⟩
  · skip
    refine WL.nil ?_
    refine TW.cond rfl (fun hb => by cases hb) (fun _ => ?_)
    refine TW.skip ?_
    refine TW.seq ?_
    refine TW.sreg ?_
    refine WL.op rfl rfl rfl (Go.Proofs.YtoffbjfgledjfaaDoor.W.quiet_move rfl rfl) ?_
    refine WL.call (hr := (t_cutp s [47, 42] _)) rfl rfl rfl rfl rfl (fun W => qk_strings_CutPrefix W _) ?_
    rintro e w1 ⟨rfl, f1⟩
    refine ⟨.tuple #[bts (Lib.trimPrefix s [47, 42]), .bool (Lib.hasPrefix s [47, 42])], rfl, ?_⟩
    replace ff := ff.trans f1
    cases a2 : Lib.hasPrefix s [47, 42]
    · skip
      refine WL.op rfl rfl rfl (Go.Proofs.YtoffbjfgledjfaaDoor.W.quiet_move rfl rfl) ?_
      refine O.ext rfl rfl rfl rfl rfl rfl ?_
      refine O.ext rfl rfl rfl rfl rfl rfl ?_
      refine O.split (fun hb => by exfalso; revert hb; first | (simp; done) | (simp; omega)) (fun hb => ?_)
      refine WL.op rfl rfl rfl (Go.Proofs.YtoffbjfgledjfaaDoor.W.quiet_assign rfl rfl) ?_
      refine WL.op rfl rfl rfl (Go.Proofs.YtoffbjfgledjfaaDoor.W.quiet_assign rfl rfl) ?_
      refine WL.nil ?_
      refine TW.sreg ?_
      refine WL.op rfl rfl rfl (Go.Proofs.YtoffbjfgledjfaaDoor.W.quiet_move rfl rfl) ?_
      refine WL.nil ?_
      refine TW.cond rfl (fun hb => by cases hb) (fun _ => ?_)
      refine TW.skip ?_
      refine TW.sreg ?_
      refine WL.op rfl rfl rfl (Go.Proofs.YtoffbjfgledjfaaDoor.W.quiet_move rfl rfl) ?_
      refine WL.call (hr := (t_spanb s hs _)) rfl rfl rfl rfl rfl (fun W => qk_lex_span W _) ?_
      rintro e wz ⟨rfl, hwz⟩
      refine ⟨_, rfl, ?_⟩
      obtain rfl := hwz.symm
      refine WL.op rfl rfl rfl (Go.Proofs.YtoffbjfgledjfaaDoor.W.quiet_assign rfl rfl) ?_
      refine WL.op rfl rfl rfl (Go.Proofs.YtoffbjfgledjfaaDoor.W.quiet_assign rfl rfl) ?_
      refine WL.nil ?_
      refine TW.rt ?_
      refine O.ret2 rfl rfl rfl ?_
      have q : blankF s = some (spanN blankB s) := by unfold blankF; rw [if_neg (by rw [a1]; decide), if_neg (by have a3 : ([47, 42] : List UInt8).isPrefixOf s = false := a2; rw [a3]; decide)]
      exact ⟨by rw [q]; rfl, ff⟩
    · have a3 : ([47, 42] : List UInt8).isPrefixOf s = true := a2
      have ht : Lib.trimPrefix s [47, 42] = s.drop 2 := by unfold Lib.trimPrefix; rw [a2]; rfl
      have hbF : blankF s = (endF (s.drop 2)).map (· + 4) := by unfold blankF; rw [if_neg (by rw [a1]; decide), if_pos a3]
      rw [ht]
      have hdl : (s.drop 2).length ≤ 1000000 := by rw [List.length_drop]; omega
      refine WL.op rfl rfl rfl (Go.Proofs.YtoffbjfgledjfaaDoor.W.quiet_move rfl rfl) ?_
      refine O.ext rfl rfl rfl rfl rfl rfl ?_
      refine O.ext rfl rfl rfl rfl rfl rfl ?_
      refine O.split (fun hb => ?_) (fun hb => by exfalso; revert hb; first | (simp; done) | (simp; omega))
      cases he : endF (s.drop 2)
      · have hi : Lib.index (s.drop 2) [42, 47] = -1 := by rw [index_end, he]
        refine WL.op rfl rfl rfl (Go.Proofs.YtoffbjfgledjfaaDoor.W.quiet_assign rfl rfl) ?_
        refine WL.op rfl rfl rfl (Go.Proofs.YtoffbjfgledjfaaDoor.W.quiet_assign rfl rfl) ?_
        refine WL.nil ?_
        refine TW.sreg ?_
        refine WL.op rfl rfl rfl (Go.Proofs.YtoffbjfgledjfaaDoor.W.quiet_move rfl rfl) ?_
        refine WL.nil ?_
        refine TW.cond rfl (fun _ => ?_) (fun hb => by cases hb)
        refine TW.sreg ?_
        refine WL.op rfl rfl rfl (Go.Proofs.YtoffbjfgledjfaaDoor.W.quiet_move rfl rfl) ?_
        refine WL.call (hr := (t_index (s.drop 2) [42, 47] (by omega) (by decide) _ (hm.fr ff id))) rfl rfl rfl rfl rfl (fun W => qk_strings_Index W _) ?_
        rintro e w2 ⟨rfl, f2⟩
        refine ⟨_, rfl, ?_⟩
        replace ff := ff.trans f2
        rw [hi]
        refine WL.op rfl rfl rfl (Go.Proofs.YtoffbjfgledjfaaDoor.W.quiet_assign rfl rfl) ?_
        refine WL.nil ?_
        refine TW.seq ?_
        refine TW.sreg ?_
        refine WL.op rfl rfl rfl (Go.Proofs.YtoffbjfgledjfaaDoor.W.quiet_move rfl rfl) ?_
        refine WL.op rfl rfl rfl (Go.Proofs.YtoffbjfgledjfaaDoor.W.quiet_bin rfl rfl rfl (fun W => qb_lss_int W _ _ _ _)) ?_
        refine O.split (fun hb => ?_) (fun hb => by exfalso; revert hb; first | (simp; done) | (simp; omega))
        refine WL.nil ?_
        refine TW.cond rfl (fun _ => ?_) (fun hb => by cases hb)
        refine TW.sreg ?_
        refine WL.op rfl rfl rfl (Go.Proofs.YtoffbjfgledjfaaDoor.W.quiet_assign rfl rfl) ?_
        refine WL.op rfl rfl rfl (Go.Proofs.YtoffbjfgledjfaaDoor.W.quiet_assign rfl rfl) ?_
        refine WL.nil ?_
        refine TW.rt ?_
        refine Xw.thn (by simp) ?_
        refine Xw.thn (by simp) ?_
        refine O.ret2 rfl rfl rfl ?_
        exact ⟨by rw [hbF, he]; rfl, ff⟩
      · rename_i m
        have hi : Lib.index (s.drop 2) [42, 47] = (m : Int) := by rw [index_end, he]
        have hml := end_le _ _ he
        refine WL.op rfl rfl rfl (Go.Proofs.YtoffbjfgledjfaaDoor.W.quiet_assign rfl rfl) ?_
        refine WL.op rfl rfl rfl (Go.Proofs.YtoffbjfgledjfaaDoor.W.quiet_assign rfl rfl) ?_
        refine WL.nil ?_
        refine TW.sreg ?_
        refine WL.op rfl rfl rfl (Go.Proofs.YtoffbjfgledjfaaDoor.W.quiet_move rfl rfl) ?_
        refine WL.nil ?_
        refine TW.cond rfl (fun _ => ?_) (fun hb => by cases hb)
        refine TW.sreg ?_
        refine WL.op rfl rfl rfl (Go.Proofs.YtoffbjfgledjfaaDoor.W.quiet_move rfl rfl) ?_
        refine WL.call (hr := (t_index (s.drop 2) [42, 47] (by omega) (by decide) _ (hm.fr ff id))) rfl rfl rfl rfl rfl (fun W => qk_strings_Index W _) ?_
        rintro e w2 ⟨rfl, f2⟩
        refine ⟨_, rfl, ?_⟩
        replace ff := ff.trans f2
        rw [hi]
        refine WL.op rfl rfl rfl (Go.Proofs.YtoffbjfgledjfaaDoor.W.quiet_assign rfl rfl) ?_
        refine WL.nil ?_
        refine TW.seq ?_
        refine TW.sreg ?_
        refine WL.op rfl rfl rfl (Go.Proofs.YtoffbjfgledjfaaDoor.W.quiet_move rfl rfl) ?_
        refine WL.op rfl rfl rfl (Go.Proofs.YtoffbjfgledjfaaDoor.W.quiet_bin rfl rfl rfl (fun W => qb_lss_int W _ _ _ _)) ?_
        refine O.split (fun hb => by exfalso; revert hb; first | (simp; done) | (simp; omega)) (fun hb => ?_)
        refine WL.nil ?_
        refine TW.cond rfl (fun hb => by cases hb) (fun _ => ?_)
        refine TW.skip ?_
        refine TW.sreg ?_
        refine WL.op rfl rfl rfl (Go.Proofs.YtoffbjfgledjfaaDoor.W.quiet_move rfl rfl) ?_
        refine WL.op rfl rfl rfl (Go.Proofs.YtoffbjfgledjfaaDoor.W.quiet_bin rfl rfl rfl (fun W => qb_add_int W _ _ _ _ (by omega) (by omega))) ?_
        refine WL.op rfl rfl rfl (Go.Proofs.YtoffbjfgledjfaaDoor.W.quiet_bin rfl rfl rfl (fun W => qb_add_int W _ _ _ _ (by omega) (by omega))) ?_
        refine WL.op rfl rfl rfl (Go.Proofs.YtoffbjfgledjfaaDoor.W.quiet_assign rfl rfl) ?_
        refine WL.op rfl rfl rfl (Go.Proofs.YtoffbjfgledjfaaDoor.W.quiet_assign rfl rfl) ?_
        refine WL.nil ?_
        refine TW.rt ?_
        refine Xw.thn (by simp) ?_
        refine O.ret2 rfl rfl rfl ?_
        exact ⟨by rw [hbF, he]; show Ending.returned (.tuple #[.int .i64 ((2 : Int) + (m : Int) + 2), .int .i64 0]) = Ending.returned (.tuple #[.int .i64 ((m + 4 : Nat) : Int), .int .i64 0]); rw [show ((2 : Int) + (m : Int) + 2) = ((m + 4 : Nat) : Int) by omega], ff⟩
end Go.Proofs.YtoffbjfgledjfaaDoor
