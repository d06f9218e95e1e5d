/-
  Lex (layer 7): parts of strings.
-/
import Derived.Test.YtoffbjfgledjfaaDoorLyB
namespace Go.Proofs.YtoffbjfgledjfaaDoor
open Go.RowKit
set_option linter.unusedVariables false
set_option linter.unusedSimpArgs false
set_option linter.unnecessarySimpa false
theorem qzR_api_Token (w : World) : ∃ w', (Instr.alloc 32 true (.tuple #[])).run Tryd.prog w = .ok (.pointer (some ⟨w.heap.size, 0, none⟩)) w' ∧ (Fr (fun _ => False) w w' ∧ Bx w' w.heap.size #[.int .i64 0, .string ⟨#[]⟩, .int .u32 0, .int .i64 0, .int .i64 0] 32) := ⟨w.alloc (.cells #[.int .i64 0, .string ⟨#[]⟩, .int .u32 0, .int .i64 0, .int .i64 0] 32), by simp [go_sem], fr_al (Fr.refl _ _) _, Bx.new _ _ _⟩
theorem qk_lex_span (w : World) (vs : Array Value) : (callFunc 23 vs).run Tryd.prog w = .ok (.enter 23 vs) w := by simp [go_sem]
theorem qn_string (w : World) (s : List UInt8) : (Builtin.len_ #[9] 3 #[bts s]).run Tryd.prog w = .ok (.int .i64 (s.length : Int)) w := by simp [go_sem, ByteArray.size]
theorem qd_api_Token_ (w : World)  : (Instr.build 32 #[]).run Tryd.prog w = .ok (.agg #[.int .i64 0, .string ⟨#[]⟩, .int .u32 0, .int .i64 0, .int .i64 0]) w := by simp [go_sem]
theorem qsA_api_Token (w : World) (g : Nat) (z0 z1 z2 z3 z4 : Value) (um0 : Int) (up1 : ByteArray) (um2 : Int) (um3 : Int) (um4 : Int) (h : Bx w g #[z0, z1, z2, z3, z4] 32) : ∃ w', (Instr.storeAt 32 (.pointer (some ⟨g, 0, none⟩)) (.agg #[.int .i64 um0, .string up1, .int .u32 um2, .int .i64 um3, .int .i64 um4])).run Tryd.prog w = .ok () w' ∧ (Fr (fun q => q = g) w w' ∧ Bx w' g #[.int .i64 um0, .string up1, .int .u32 um2, .int .i64 um3, .int .i64 um4] 32) := h.store 32 #[.int .i64 um0, .string up1, .int .u32 um2, .int .i64 um3, .int .i64 um4] (by kernel_rfl) rfl (by simp [Value.oneCell'])
theorem qk_lex_Word (w : World) (vs : Array Value) : (callFunc 37 vs).run Tryd.prog w = .ok (.enter 37 vs) w := by simp [go_sem]
theorem qd_api_Token_0_1 (w : World) (p0_m0 : Int) (p1_p0 : ByteArray) : (Instr.build 32 #[(0, .int .i64 p0_m0), (1, .string p1_p0)]).run Tryd.prog w = .ok (.agg #[.int .i64 p0_m0, .string p1_p0, .int .u32 0, .int .i64 0, .int .i64 0]) w := by simp [go_sem]
theorem str_to (w : World) (s : List UInt8) (n : Nat) (hn : n ≤ s.length) : (Instr.sliceAt 9 (bts s) none (some (.int .i64 (n : Int))) none).run Tryd.prog w = .ok (bts (s.take n)) w := by
  have h1 : ¬((s.length : Int) < (n : Int)) := by omega
  have h2 := ext_take (⟨s.toArray⟩ : ByteArray) n
  have h3 : (⟨s.toArray⟩ : ByteArray).size = s.length := rfl
  simp [go_sem, h1, h2, h3]
  intro hh
  omega
theorem str_from (w : World) (s : List UInt8) (n : Nat) (hn : n ≤ s.length) : (Instr.sliceAt 9 (bts s) (some (.int .i64 (n : Int))) none none).run Tryd.prog w = .ok (bts (s.drop n)) w := by
  have h3 : (⟨s.toArray⟩ : ByteArray).size = s.length := rfl
  have h2 : (⟨s.toArray⟩ : ByteArray).extract n s.length = ⟨(s.drop n).toArray⟩ := by
    apply ByteArray.ext
    simp
    exact List.take_of_length_le (by simp)
  simp [go_sem, h2, h3, hn]
theorem str_at (w : World) (s : List UInt8) (n : Nat) (hn : n < s.length) : (Instr.index 9 (bts s) (.int .i64 (n : Int))).run Tryd.prog w = .ok (.int .u8 (bat s n)) w := by
  have h3 : (⟨s.toArray⟩ : ByteArray).size = s.length := rfl
  have h4 : bat s n = ((s[n]'hn).toNat : Int) := by unfold bat; rw [List.getD_eq_getElem?_getD, List.getElem?_eq_getElem hn]; rfl
  rw [h4]
  simp [go_sem, h3, hn]
  rfl
theorem runsB_in {s : List UInt8} {k : Nat} (hk : k < s.length) : runsB s k = partB ((s[k]'hk).toNat : Int) := by
  unfold runsB
  rw [List.drop_eq_getElem_cons hk]
theorem runsB_out {s : List UInt8} {k : Nat} (hk : s.length ≤ k) : runsB s k = false := by
  unfold runsB
  rw [List.drop_of_length_le hk]
theorem t_runs (s : List UInt8) (k : Nat) (w : World) : Calls Tryd.prog 39 #[bts s, .int .i64 (k : Int)] w fun e w' => e = .returned (.bool (runsB s k)) ∧ w' = w := by
  rcases Nat.lt_or_ge k s.length with hk | hk
  · rw [runsB_in hk]
    cases hp : partB ((s[k]'hk).toNat : Int) with
    | true => exact (runs_on_yes ⟨s.toArray⟩ k hk hp w).mono fun e w' h => ⟨h.1, h.2.symm⟩
    | false => exact (runs_on_no ⟨s.toArray⟩ k hk hp w).mono fun e w' h => ⟨h.1, h.2.symm⟩
  · rw [runsB_out hk]
    exact (runs_on_end ⟨s.toArray⟩ k hk w).mono fun e w' h => ⟨h.1, h.2.symm⟩
theorem t_word (s : List UInt8) (w : World) : Calls Tryd.prog 37 #[bts s] w fun e w' => e = .returned (.bool (wordB s)) ∧ w' = w := by
  have h := c37 ⟨s.toArray⟩ w
  rw [ByteArray.toList_mk] at h
  exact h.mono fun e w' h => ⟨h.1, h.2.symm⟩
theorem t_pref (s t : List UInt8) (w : World) : Calls Tryd.prog 19 #[bts s, bts t] w fun e w' => e = .returned (.bool (t.isPrefixOf s)) ∧ w' = w :=
  (c19 ⟨s.toArray⟩ ⟨t.toArray⟩ w).mono fun e w' h => ⟨h.1, h.2.symm⟩
theorem t_spanp (s : List UInt8) (hs : s.length ≤ 1000000) (w : World) : Calls Tryd.prog 23 #[bts s, .func (.func 36) #[] #[]] w fun e w' => e = .returned (.int .i64 (spanN partB s : Int)) ∧ w' = w :=
  (span_part ⟨s.toArray⟩ w (by show s.length ≤ _; unfold maxLen; omega)).mono fun e w' h => ⟨h.1, h.2.symm⟩
theorem t_spand (s : List UInt8) (hs : s.length ≤ 1000000) (w : World) : Calls Tryd.prog 23 #[bts s, .func (.func 27) #[] #[]] w fun e w' => e = .returned (.int .i64 (spanN digB s : Int)) ∧ w' = w :=
  (span_digit ⟨s.toArray⟩ w (by show s.length ≤ _; unfold maxLen; omega)).mono fun e w' h => ⟨h.1, h.2.symm⟩
theorem t_spanx (s : List UInt8) (hs : s.length ≤ 1000000) (w : World) : Calls Tryd.prog 23 #[bts s, .func (.func 38) #[] #[]] w fun e w' => e = .returned (.int .i64 (spanN hexB s : Int)) ∧ w' = w :=
  (span_hex ⟨s.toArray⟩ w (by show s.length ≤ _; unfold maxLen; omega)).mono fun e w' h => ⟨h.1, h.2.symm⟩
theorem t_spanb (s : List UInt8) (hs : s.length ≤ 1000000) (w : World) : Calls Tryd.prog 23 #[bts s, .func (.func 24) #[] #[]] w fun e w' => e = .returned (.int .i64 (spanN blankB s : Int)) ∧ w' = w :=
  (span_blank ⟨s.toArray⟩ w (by show s.length ≤ _; unfold maxLen; omega)).mono fun e w' h => ⟨h.1, h.2.symm⟩
/-- What a reader of a token hands back. -/
def TV (r : Except Int Tk) : Value := match r with
  | .ok t => .tuple #[.agg #[.int .i64 t.k, bts t.t, .int .u32 t.n, .int .i64 0, .int .i64 0], .int .i64 0]
  | .error e => .tuple #[.agg #[.int .i64 0, bts [], .int .u32 0, .int .i64 0, .int .i64 0], .int .i64 e]
set_option maxRecDepth 100000 in
theorem t_name (s : List UInt8) (hs : s.length ≤ 1000000) (w : World) : Calls Tryd.prog 26 #[bts s] w fun e w' => e = .returned (TV (nameF s)) ∧ Fr (fun _ => False) w w' := by
  have hle := spanN_le partB s
  have hlt : (s.take (spanN partB s)).length = spanN partB s := by rw [List.length_take, Nat.min_eq_left hle]
  have ff := Fr.refl (fun _ => False) w
  refine calls_tw Tryd.func26 rfl rfl (Nat.le_of_ble_eq_true rfl) ?_
  refine TW.sreg ?_
  have lw1 := ff.size
  refine O.allocR rfl rfl rfl rfl (qzR_api_Token w) ?_
  rintro wa1 ⟨fa1, bx1⟩
  replace ff := ff.trans fa1
  refine WL.op rfl rfl rfl (Go.Proofs.YtoffbjfgledjfaaDoor.W.quiet_assign rfl rfl) ?_
  refine WL.nil ?_
  refine TW.sreg ?_
  refine WL.op rfl rfl rfl (Go.Proofs.YtoffbjfgledjfaaDoor.W.quiet_move rfl rfl) ?_
  refine WL.op rfl rfl rfl (Go.Proofs.YtoffbjfgledjfaaDoor.W.quiet_move rfl rfl) ?_
  refine WL.call (hr := (t_spanp s (by omega) _)) rfl rfl rfl rfl rfl (fun W => qk_lex_span W _) ?_
  rintro e wz ⟨rfl, hwz⟩
  refine ⟨_, rfl, ?_⟩
  obtain rfl := hwz.symm
  refine O.sl2 rfl rfl rfl rfl rfl rfl (str_to _ s _ hle) ?_
  refine WL.op rfl rfl rfl (Go.Proofs.YtoffbjfgledjfaaDoor.W.quiet_assign rfl rfl) ?_
  refine WL.nil ?_
  refine TW.seq ?_
  refine TW.sreg ?_
  refine WL.op rfl rfl rfl (Go.Proofs.YtoffbjfgledjfaaDoor.W.quiet_move rfl rfl) ?_
  refine O.len rfl rfl rfl rfl rfl (qn_string _ _) ?_
  refine WL.op rfl rfl rfl (Go.Proofs.YtoffbjfgledjfaaDoor.W.quiet_bin rfl rfl rfl (fun W => qb_gtr_int W _ _ _ _)) ?_
  refine O.split (fun h1 => ?_) (fun h1 => ?_)
  · skip
    refine WL.nil ?_
    refine TW.cond rfl (fun _ => ?_) (fun hb => by cases hb)
    refine TW.sreg ?_
    refine O.bld rfl rfl rfl rfl rfl (qd_api_Token_ _) ?_
    refine O.storeR rfl rfl rfl rfl rfl (qsA_api_Token wa1 _ _ _ _ _ _ _ _ _ _ _ bx1) ?_
    rintro wa2 ⟨fa2, bx1x⟩
    replace ff := ff.trans' fa2 (fun q hq e => by omega)
    clear bx1
    have bx1 := bx1x
    clear bx1x
    refine WL.op rfl rfl rfl (Go.Proofs.YtoffbjfgledjfaaDoor.W.quiet_assign rfl rfl) ?_
    refine WL.nil ?_
    refine TW.rt ?_
    refine Xw.thn (by simp) ?_
    refine O.retc2 rfl rfl rfl (run_loadVar_row _ _ _ 32 _ _ _ bx1 Tryd.underlying32 rfl (by kernel_rfl)) ?_
    have q : nameF s = .error 2 := by unfold nameF; rw [if_pos (by have := of_decide_eq_true h1; rw [hlt] at this; omega)]
    exact ⟨by rw [q]; rfl, ff⟩
  · skip
    have h31 : ¬31 < spanN partB s := by have := of_decide_eq_false h1; rw [hlt] at this; omega
    refine WL.nil ?_
    refine TW.cond rfl (fun hb => by cases hb) (fun _ => ?_)
    refine TW.skip ?_
    refine TW.seq ?_
    refine TW.sreg ?_
    refine WL.op rfl rfl rfl (Go.Proofs.YtoffbjfgledjfaaDoor.W.quiet_move rfl rfl) ?_
    refine WL.call (hr := (t_word _ _)) rfl rfl rfl rfl rfl (fun W => qk_lex_Word W _) ?_
    rintro e wz ⟨rfl, hwz⟩
    refine ⟨_, rfl, ?_⟩
    obtain rfl := hwz.symm
    refine O.split (fun h2 => ?_) (fun h2 => ?_)
    · skip
      refine WL.nil ?_
      refine TW.cond rfl (fun _ => ?_) (fun hb => by cases hb)
      refine TW.sreg ?_
      refine WL.op rfl rfl rfl (Go.Proofs.YtoffbjfgledjfaaDoor.W.quiet_move rfl rfl) ?_
      refine O.bld rfl rfl rfl rfl rfl (qd_api_Token_0_1 _ _ _) ?_
      refine O.storeR rfl rfl rfl rfl rfl (qsA_api_Token wa1 _ _ _ _ _ _ _ _ _ _ _ bx1) ?_
      rintro wa3 ⟨fa3, bx1x⟩
      replace ff := ff.trans' fa3 (fun q hq e => by omega)
      clear bx1
      have bx1 := bx1x
      clear bx1x
      refine WL.op rfl rfl rfl (Go.Proofs.YtoffbjfgledjfaaDoor.W.quiet_assign rfl rfl) ?_
      refine WL.nil ?_
      refine TW.rt ?_
      refine Xw.thn (by simp) ?_
      refine O.retc2 rfl rfl rfl (run_loadVar_row _ _ _ 32 _ _ _ bx1 Tryd.underlying32 rfl (by kernel_rfl)) ?_
      have q : nameF s = .ok ⟨2, s.take (spanN partB s), 0⟩ := by unfold nameF; rw [if_neg h31, h2]; rfl
      exact ⟨by rw [q]; rfl, ff⟩
    · skip
      refine WL.nil ?_
      refine TW.cond rfl (fun hb => by cases hb) (fun _ => ?_)
      refine TW.skip ?_
      refine TW.sreg ?_
      refine WL.op rfl rfl rfl (Go.Proofs.YtoffbjfgledjfaaDoor.W.quiet_move rfl rfl) ?_
      refine O.bld rfl rfl rfl rfl rfl (qd_api_Token_0_1 _ _ _) ?_
      refine O.storeR rfl rfl rfl rfl rfl (qsA_api_Token wa1 _ _ _ _ _ _ _ _ _ _ _ bx1) ?_
      rintro wa4 ⟨fa4, bx1x⟩
      replace ff := ff.trans' fa4 (fun q hq e => by omega)
      clear bx1
      have bx1 := bx1x
      clear bx1x
      refine WL.op rfl rfl rfl (Go.Proofs.YtoffbjfgledjfaaDoor.W.quiet_assign rfl rfl) ?_
      refine WL.nil ?_
      refine TW.rt ?_
      refine O.retc2 rfl rfl rfl (run_loadVar_row _ _ _ 32 _ _ _ bx1 Tryd.underlying32 rfl (by kernel_rfl)) ?_
      have q : nameF s = .ok ⟨1, s.take (spanN partB s), 0⟩ := by unfold nameF; rw [if_neg h31, h2]; rfl
      exact ⟨by rw [q]; rfl, ff⟩
end Go.Proofs.YtoffbjfgledjfaaDoor
