/-
  Lex (layer 7): numbers.
-/
import Derived.Test.YtoffbjfgledjfaaDoorLyD
namespace Go.Proofs.YtoffbjfgledjfaaDoor
open Go.RowKit
set_option linter.unusedVariables false
set_option linter.unusedSimpArgs false
set_option linter.unnecessarySimpa false
theorem qk_strings_HasPrefix (w : World) (vs : Array Value) : (callFunc 19 vs).run Tryd.prog w = .ok (.enter 19 vs) w := by simp [go_sem]
theorem qk_strconv_ParseUint (w : World) (vs : Array Value) : (callFunc 40 vs).run Tryd.prog w = .ok (.enter 40 vs) w := by simp [go_sem]
theorem qc_uint64_uint32 (w : World) (m : Int) (h0 : 0 ≤ m) (h1 : m ≤ 4294967295) : (convert 67 30 (.int .u64 m)).run Tryd.prog w = .ok (.int .u32 m) w := by
  have h : IntKind.u32.wrap m = m := IntWalk.u32_in _ (by omega)
  simp [go_sem, h]
theorem hexP_pref (s : List UInt8) : hexP s = (([48, 120] : List UInt8).isPrefixOf s || ([48, 88] : List UInt8).isPrefixOf s) := by
  match s with
  | [] => rfl
  | [a] => simp [hexP, List.isPrefixOf]
  | a :: b :: l =>
    unfold hexP
    split
    · next heq => simp only [List.cons.injEq] at heq; obtain ⟨rfl, rfl, _⟩ := heq; rfl
    · next heq => simp only [List.cons.injEq] at heq; obtain ⟨rfl, rfl, _⟩ := heq; rfl
    · next h1 h2 =>
      symm
      simp only [List.isPrefixOf, Bool.or_eq_false_iff, Bool.and_eq_false_iff, beq_eq_false_iff_ne, ne_eq]
      refine ⟨?_, ?_⟩
      · by_cases ha : 48 = a
        · subst ha
          refine .inr (.inl fun hb => ?_)
          subst hb
          exact h1 l rfl
        · exact .inl ha
      · by_cases ha : 48 = a
        · subst ha
          refine .inr (.inl fun hb => ?_)
          subst hb
          exact h2 l rfl
        · exact .inl ha
theorem val_ge (base : Nat) (hb : 1 ≤ base) : ∀ (d : List UInt8) (a : Nat), a ≤ d.foldl (fun a b => a * base + digV b) a
  | [], a => Nat.le_refl _
  | b :: d, a => by
    rw [List.foldl_cons]
    have h1 := val_ge base hb d (a * base + digV b)
    have h2 : a * 1 ≤ a * base := Nat.mul_le_mul_left a hb
    omega
theorem hex_dig : ∀ k : Fin 256, hexB (k.val : Int) = true → dvH (UInt8.ofNat k.val) = some (digV (UInt8.ofNat k.val)) ∧ digV (UInt8.ofNat k.val) < 16 := by decide +kernel
theorem hex_dv {c : UInt8} (h : hexB (c.toNat : Int) = true) : dvH c = some (digV c) ∧ digV c < 16 := by
  have := hex_dig ⟨c.toNat, c.toNat_lt⟩ h
  rwa [UInt8.ofNat_toNat] at this
theorem dig_dig : ∀ k : Fin 256, digB (k.val : Int) = true → 48 ≤ k.val ∧ k.val ≤ 57 ∧ digV (UInt8.ofNat k.val) = k.val - 48 := by decide +kernel
theorem dig_dv {c : UInt8} (h : digB (c.toNat : Int) = true) : 48 ≤ c.toNat ∧ c.toNat ≤ 57 ∧ digV c = c.toNat - 48 := by
  have := dig_dig ⟨c.toNat, c.toNat_lt⟩ h
  rwa [UInt8.ofNat_toNat] at this
theorem pU_hex : ∀ (d : List UInt8) (n : Nat) (_ : ∀ x ∈ d, hexB (x.toNat : Int) = true), n ≤ 4294967295 → pU d n = if 4294967295 < d.foldl (fun a b => a * 16 + digV b) n then (4294967295, 1) else (d.foldl (fun a b => a * 16 + digV b) n, 0)
  | [], n, _, hn => by
    rw [List.foldl_nil, if_neg (by omega)]
    rfl
  | c :: r, n, h, hn => by
    obtain ⟨h1, h2⟩ := hex_dv (h c List.mem_cons_self)
    unfold pU
    rw [h1]
    simp only []
    rw [if_neg (by omega), List.foldl_cons]
    split
    · next h3 =>
      have := val_ge 16 (by decide) r (n * 16 + digV c)
      rw [if_pos (by omega)]
    · next h3 => exact pU_hex r _ (fun x hx => h x (List.mem_cons_of_mem _ hx)) (by omega)
theorem puT_hex {d : List UInt8} (hd : d ≠ []) (h : ∀ x ∈ d, hexB (x.toNat : Int) = true) : puT d = if 4294967295 < valF 16 d then (4294967295, 1) else (valF 16 d, 0) := by
  unfold puT
  rw [if_neg hd, pU_hex d 0 h (by omega)]
  rfl
theorem pM_dig : ∀ (d : List UInt8) (n : Nat) (_ : ∀ x ∈ d, digB (x.toNat : Int) = true), n ≤ 4294967295 → Lib.parseUintM 4294967295 n d = if 4294967295 < d.foldl (fun a b => a * 10 + digV b) n then .range else .ok (d.foldl (fun a b => a * 10 + digV b) n)
  | [], n, _, hn => by
    rw [List.foldl_nil, if_neg (by omega)]
    rfl
  | c :: r, n, h, hn => by
    obtain ⟨h1, h2, h3⟩ := dig_dv (h c List.mem_cons_self)
    unfold Lib.parseUintM
    rw [if_pos ⟨h1, h2⟩, if_neg (by omega), List.foldl_cons, h3]
    split
    · next h4 =>
      have := val_ge 10 (by decide) r (n * 10 + (c.toNat - 48))
      rw [if_pos (by omega)]
    · next h4 => exact pM_dig r _ (fun x hx => h x (List.mem_cons_of_mem _ hx)) (by omega)
/-- The library's reading of digits to either base. -/
theorem t_pnum (hex : Bool) (d : List UInt8) (hd : d ≠ []) (hl : d.length ≤ 1000000) (h : ∀ x ∈ d, (if hex then hexB else digB) (x.toNat : Int) = true) (w : World) (he : ErW w) : Calls Tryd.prog 40 #[bts d, .int .i64 (if hex then 16 else 10), .int .i64 32] w fun e w' => ∃ (u : Nat) (er : Value), e = .returned (.tuple #[.int .u64 (u : Int), er]) ∧ Fr (fun _ => False) w w' ∧ u ≤ 4294967295 ∧ (if 4294967295 < valF (if hex then 16 else 10) d then ∃ te pe, er = .iface te pe else u = valF (if hex then 16 else 10) d ∧ er = .nilIface) := by
  cases hex with
  | true =>
    refine (t_sparse d hl w he).mono fun e w' q => ?_
    obtain ⟨er, rfl, h2, h3⟩ := q
    refine ⟨(puT d).1, er, rfl, h3, puT_lt d, ?_⟩
    rw [puT_hex hd h] at h2 ⊢
    simp only [if_true]
    split
    · next h4 =>
      rw [if_pos h4] at h2
      rcases h2 with ⟨h5, _⟩ | ⟨_, te, pe, rfl⟩
      · cases h5
      · exact ⟨te, pe, rfl⟩
    · next h4 =>
      rw [if_neg h4] at h2
      rcases h2 with ⟨_, h5⟩ | ⟨h5, _⟩
      · exact ⟨rfl, h5⟩
      · exact absurd rfl h5
  | false =>
    have hP : Lib.parseUintB 32 d = if 4294967295 < valF 10 d then .range else .ok (valF 10 d) := by
      unfold Lib.parseUintB
      rw [if_neg hd, show 2 ^ 32 - 1 = 4294967295 from rfl, pM_dig d 0 h (by omega)]
      rfl
    simp only [Bool.false_eq_true, if_false]
    split
    · next h4 =>
      rw [if_pos h4] at hP
      obtain ⟨_, te, pe, hr⟩ := he
      refine (Tryd.strconv_ParseUint_10_at32_range ⟨d.toArray⟩ (by show d.length ≤ _; omega) hP _ w hr (.inr ⟨_, _, rfl⟩)).mono fun e w' q => ?_
      obtain ⟨N, rfl, _, _, hb⟩ := q
      exact ⟨4294967295, _, rfl, Fr.of_below' hb, by omega, _, _, rfl⟩
    · next h4 =>
      rw [if_neg h4] at hP
      refine (Tryd.strconv_ParseUint_10_at32_ok ⟨d.toArray⟩ (by show d.length ≤ _; omega) _ hP w).mono fun e w' q => ?_
      obtain ⟨rfl, hb⟩ := q
      refine ⟨valF 10 d, .nilIface, rfl, ?_, by omega, rfl, rfl⟩
      rcases hb with rfl | rfl
      · exact Fr.refl _ _
      · exact fr_bytes _ _ _
theorem numD_len (s : List UInt8) : (numD s).length ≤ s.length := by
  have h1 := (numT_len s).1
  have h2 : (numD s).length ≤ (numT s).length := by
    unfold numD
    split
    · rw [List.length_drop]; omega
    · exact Nat.le_refl _
  omega
theorem numD_all {s : List UInt8} : ∀ x ∈ numD s, (if hexP s then hexB else digB) (x.toNat : Int) = true := fun x hx => by
  unfold numD at hx
  cases h : hexP s with
  | true =>
    rw [h] at hx
    simp only [if_true] at hx ⊢
    rw [numT_hex h, List.drop_take, Nat.add_sub_cancel_left] at hx
    exact span_take hexB _ x hx
  | false =>
    rw [h] at hx
    simp only [Bool.false_eq_true, if_false] at hx ⊢
    rw [numT_dec h] at hx
    exact span_take digB _ x hx
set_option maxRecDepth 100000 in
theorem t_number (s : List UInt8) (hs : s.length ≤ 1000000) (w : World) (he : ErW w) : Calls Tryd.prog 28 #[bts s] w fun e w' => e = .returned (TV (numF s)) ∧ Fr (fun _ => False) w w' := by
  have ff := Fr.refl (fun _ => False) w
  refine calls_tw Tryd.func28 rfl rfl (Nat.le_of_ble_eq_true rfl) ?_
  refine TW.sreg ?_
  have lw1 := ff.size
  refine O.allocR rfl rfl rfl rfl (qzR_api_Token w) ?_
  rintro wa1 ⟨fa1, bx1⟩
  replace ff := ff.trans fa1
  refine WL.op rfl rfl rfl (Go.Proofs.YtoffbjfgledjfaaDoor.W.quiet_assign rfl rfl) ?_
  refine WL.nil ?_
  refine TW.sreg ?_
  refine WL.op rfl rfl rfl (Go.Proofs.YtoffbjfgledjfaaDoor.W.quiet_move rfl rfl) ?_
  refine WL.op rfl rfl rfl (Go.Proofs.YtoffbjfgledjfaaDoor.W.quiet_move rfl rfl) ?_
  refine WL.call (hr := (t_spand s (by omega) _)) rfl rfl rfl rfl rfl (fun W => qk_lex_span W _) ?_
  rintro e wz ⟨rfl, hwz⟩
  refine ⟨_, rfl, ?_⟩
  obtain rfl := hwz.symm
  refine O.sl2 rfl rfl rfl rfl rfl rfl (str_to _ s _ (spanN_le digB s)) ?_
  refine WL.op rfl rfl rfl (Go.Proofs.YtoffbjfgledjfaaDoor.W.quiet_assign rfl rfl) ?_
  refine WL.nil ?_
  refine TW.sreg ?_
  refine WL.op rfl rfl rfl (Go.Proofs.YtoffbjfgledjfaaDoor.W.quiet_move rfl rfl) ?_
  refine WL.op rfl rfl rfl (Go.Proofs.YtoffbjfgledjfaaDoor.W.quiet_assign rfl rfl) ?_
  refine WL.op rfl rfl rfl (Go.Proofs.YtoffbjfgledjfaaDoor.W.quiet_assign rfl rfl) ?_
  refine WL.nil ?_
  refine TW.seq ?_
  refine TW.sreg ?_
  refine WL.op rfl rfl rfl (Go.Proofs.YtoffbjfgledjfaaDoor.W.quiet_move rfl rfl) ?_
  refine WL.call (hr := (t_pref s [48, 120] _)) rfl rfl rfl rfl rfl (fun W => qk_strings_HasPrefix W _) ?_
  rintro e wz ⟨rfl, hwz⟩
  refine ⟨_, rfl, ?_⟩
  obtain rfl := hwz.symm
  refine O.split (fun x1 => ?_) (fun x1 => ?_)
  · skip
    have hP : hexP s = true := by rw [hexP_pref, x1]; simp
    have hT := numT_hex hP
    have h2 : 2 ≤ s.length := by have := (hexP_iff s).1 hP; omega
    have hxl := spanN_le hexB (s.drop 2)
    rw [List.length_drop] at hxl
    refine WL.op rfl rfl rfl (Go.Proofs.YtoffbjfgledjfaaDoor.W.quiet_move rfl rfl) ?_
    refine WL.skip rfl rfl rfl ?_
    refine WL.skip rfl rfl rfl ?_
    refine WL.op rfl rfl rfl (Go.Proofs.YtoffbjfgledjfaaDoor.W.quiet_pick rfl rfl rfl) ?_
    refine WL.nil ?_
    refine TW.cond rfl (fun _ => ?_) (fun hb => by cases hb)
    refine TW.sreg ?_
    refine WL.op rfl rfl rfl (Go.Proofs.YtoffbjfgledjfaaDoor.W.quiet_move rfl rfl) ?_
    refine WL.op rfl rfl rfl (Go.Proofs.YtoffbjfgledjfaaDoor.W.quiet_move rfl rfl) ?_
    refine O.sl1 rfl rfl rfl rfl rfl rfl (str_from _ s 2 h2) ?_
    refine WL.call (hr := (t_spanx (s.drop 2) (by rw [List.length_drop]; omega) _)) rfl rfl rfl rfl rfl (fun W => qk_lex_span W _) ?_
    rintro e wz ⟨rfl, hwz⟩
    refine ⟨_, rfl, ?_⟩
    obtain rfl := hwz.symm
    refine WL.op rfl rfl rfl (Go.Proofs.YtoffbjfgledjfaaDoor.W.quiet_bin rfl rfl rfl (fun W => (qb_add_int W _ _ _ _ (by omega) (by omega)).trans (by rw [show (2 : Int) + (spanN hexB (s.drop 2) : Int) = ((2 + spanN hexB (s.drop 2) : Nat) : Int) by omega]))) ?_
    refine O.sl2 rfl rfl rfl rfl rfl rfl (str_to _ s (2 + spanN hexB (s.drop 2)) (by omega)) ?_
    rw [← hT]
    have hTl : 2 ≤ (numT s).length := by rw [hT, List.length_take]; omega
    have hD : numD s = (numT s).drop 2 := by unfold numD; rw [hP]; rfl
    refine WL.op rfl rfl rfl (Go.Proofs.YtoffbjfgledjfaaDoor.W.quiet_assign rfl rfl) ?_
    refine WL.nil ?_
    refine TW.reg ?_
    refine WL.op rfl rfl rfl (Go.Proofs.YtoffbjfgledjfaaDoor.W.quiet_move rfl rfl) ?_
    refine O.sl1 rfl rfl rfl rfl rfl rfl (str_from _ (numT s) 2 hTl) ?_
    rw [← hD]
    refine WL.op rfl rfl rfl (Go.Proofs.YtoffbjfgledjfaaDoor.W.quiet_assign rfl rfl) ?_
    refine WL.op rfl rfl rfl (Go.Proofs.YtoffbjfgledjfaaDoor.W.quiet_assign rfl rfl) ?_
    refine WL.nil ?_
    refine TW.seq ?_
    refine TW.sreg ?_
    refine WL.op rfl rfl rfl (Go.Proofs.YtoffbjfgledjfaaDoor.W.quiet_move rfl rfl) ?_
    refine WL.op rfl rfl rfl (Go.Proofs.YtoffbjfgledjfaaDoor.W.quiet_bin rfl rfl rfl (fun W => bn_eqs W _ _ _ _)) ?_
    refine O.split (fun d1 => ?_) (fun d1 => ?_)
    · skip
      refine WL.op rfl rfl rfl (Go.Proofs.YtoffbjfgledjfaaDoor.W.quiet_move rfl rfl) ?_
      refine WL.skip rfl rfl rfl ?_
      refine WL.skip rfl rfl rfl ?_
      refine WL.skip rfl rfl rfl ?_
      refine WL.skip rfl rfl rfl ?_
      refine WL.op rfl rfl rfl (Go.Proofs.YtoffbjfgledjfaaDoor.W.quiet_pick rfl rfl rfl) ?_
      refine WL.nil ?_
      refine TW.cond rfl (fun _ => ?_) (fun hb => by cases hb)
      refine TW.sreg ?_
      refine O.bld rfl rfl rfl rfl rfl (qd_api_Token_ _) ?_
      refine O.storeR rfl rfl rfl rfl rfl (qsA_api_Token wa1 _ _ _ _ _ _ _ _ _ _ _ bx1) ?_
      rintro wa2 ⟨fa2, bx1x⟩
      replace ff := ff.trans' fa2 (fun q hq e => by omega)
      clear bx1
      have bx1 := bx1x
      clear bx1x
      refine WL.op rfl rfl rfl (Go.Proofs.YtoffbjfgledjfaaDoor.W.quiet_assign rfl rfl) ?_
      refine WL.nil ?_
      refine TW.rt ?_
      refine Xw.thn (by simp) ?_
      refine O.retc2 rfl rfl rfl (run_loadVar_row _ _ _ 32 _ _ _ bx1 Tryd.underlying32 rfl (by kernel_rfl)) ?_
      have q : numF s = .error 3 := by unfold numF; rw [if_pos (.inl (by exact of_decide_eq_true d1))]
      exact ⟨by rw [q]; rfl, ff⟩
    · skip
      have hd1 : numD s ≠ [] := by exact of_decide_eq_false d1
      refine WL.op rfl rfl rfl (Go.Proofs.YtoffbjfgledjfaaDoor.W.quiet_move rfl rfl) ?_
      refine WL.op rfl rfl rfl (Go.Proofs.YtoffbjfgledjfaaDoor.W.quiet_move rfl rfl) ?_
      refine WL.op rfl rfl rfl (Go.Proofs.YtoffbjfgledjfaaDoor.W.quiet_move rfl rfl) ?_
      refine O.len rfl rfl rfl rfl rfl (qn_string _ _) ?_
      refine WL.call (hr := (t_runs s (numT s).length _)) rfl rfl rfl rfl rfl (fun W => qk_lex_runsOn W _) ?_
      rintro e wz ⟨rfl, hwz⟩
      refine ⟨_, rfl, ?_⟩
      obtain rfl := hwz.symm
      refine O.split (fun d2 => ?_) (fun d2 => ?_)
      · skip
        refine WL.op rfl rfl rfl (Go.Proofs.YtoffbjfgledjfaaDoor.W.quiet_pick rfl rfl rfl) ?_
        refine WL.nil ?_
        refine TW.cond rfl (fun _ => ?_) (fun hb => by cases hb)
        refine TW.sreg ?_
        refine O.bld rfl rfl rfl rfl rfl (qd_api_Token_ _) ?_
        refine O.storeR rfl rfl rfl rfl rfl (qsA_api_Token wa1 _ _ _ _ _ _ _ _ _ _ _ bx1) ?_
        rintro wa3 ⟨fa3, bx1x⟩
        replace ff := ff.trans' fa3 (fun q hq e => by omega)
        clear bx1
        have bx1 := bx1x
        clear bx1x
        refine WL.op rfl rfl rfl (Go.Proofs.YtoffbjfgledjfaaDoor.W.quiet_assign rfl rfl) ?_
        refine WL.nil ?_
        refine TW.rt ?_
        refine Xw.thn (by simp) ?_
        refine O.retc2 rfl rfl rfl (run_loadVar_row _ _ _ 32 _ _ _ bx1 Tryd.underlying32 rfl (by kernel_rfl)) ?_
        have q : numF s = .error 3 := by unfold numF; rw [if_pos (.inr d2)]
        exact ⟨by rw [q]; rfl, ff⟩
      · skip
        have hdl : (numD s).length ≤ 1000000 := Nat.le_trans (numD_len s) hs
        have KP := fun w he => t_pnum true (numD s) (by exact hd1) (by exact hdl) (by have := numD_all (s := s); rwa [hP] at this) w he
        have hV : numV s = valF 16 (numD s) := by unfold numV; rw [hP]; rfl
        by_cases hov : 4294967295 < valF 16 (numD s)
        · have hq0 := hov
          refine WL.op rfl rfl rfl (Go.Proofs.YtoffbjfgledjfaaDoor.W.quiet_pick rfl rfl rfl) ?_
          refine WL.nil ?_
          refine TW.cond rfl (fun hb => by cases hb) (fun _ => ?_)
          refine TW.skip ?_
          refine TW.sreg ?_
          refine WL.op rfl rfl rfl (Go.Proofs.YtoffbjfgledjfaaDoor.W.quiet_move rfl rfl) ?_
          refine WL.op rfl rfl rfl (Go.Proofs.YtoffbjfgledjfaaDoor.W.quiet_move rfl rfl) ?_
          refine WL.call (hr := (KP _ (he.fr ff id id))) rfl rfl rfl rfl rfl (fun W => qk_strconv_ParseUint W _) ?_
          rintro e w3 ⟨u, er, rfl, f3, hu, hq⟩
          refine ⟨_, rfl, ?_⟩
          replace bx1 := bx1.fr f3 id
          replace ff := ff.trans f3
          obtain ⟨te, pe, rfl⟩ : ∃ te pe, er = .iface te pe := by simpa [hov] using hq
          refine WL.op rfl rfl rfl (Go.Proofs.YtoffbjfgledjfaaDoor.W.quiet_move rfl rfl) ?_
          refine O.ext rfl rfl rfl rfl rfl rfl ?_
          refine O.ext rfl rfl rfl rfl rfl rfl ?_
          refine WL.op rfl rfl rfl (Go.Proofs.YtoffbjfgledjfaaDoor.W.quiet_assign rfl rfl) ?_
          refine WL.op rfl rfl rfl (Go.Proofs.YtoffbjfgledjfaaDoor.W.quiet_assign rfl rfl) ?_
          refine WL.nil ?_
          refine TW.seq ?_
          refine TW.sreg ?_
          refine WL.op rfl rfl rfl (Go.Proofs.YtoffbjfgledjfaaDoor.W.quiet_move rfl rfl) ?_
          refine WL.op rfl rfl rfl (Go.Proofs.YtoffbjfgledjfaaDoor.W.quiet_bin rfl rfl rfl (fun W => er_ne1 W _ _ _)) ?_
          refine O.split (fun hb => ?_) (fun hb => by exfalso; revert hb; first | (simp; done) | (simp; omega))
          refine WL.nil ?_
          refine TW.cond rfl (fun _ => ?_) (fun hb => by cases hb)
          refine TW.sreg ?_
          refine O.bld rfl rfl rfl rfl rfl (qd_api_Token_ _) ?_
          refine O.storeR rfl rfl rfl rfl rfl (qsA_api_Token w3 _ _ _ _ _ _ _ _ _ _ _ bx1) ?_
          rintro wa4 ⟨fa4, bx1x⟩
          replace ff := ff.trans' fa4 (fun q hq e => by omega)
          clear bx1
          have bx1 := bx1x
          clear bx1x
          refine WL.op rfl rfl rfl (Go.Proofs.YtoffbjfgledjfaaDoor.W.quiet_assign rfl rfl) ?_
          refine WL.nil ?_
          refine TW.rt ?_
          refine Xw.thn (by simp) ?_
          refine O.retc2 rfl rfl rfl (run_loadVar_row _ _ _ 32 _ _ _ bx1 Tryd.underlying32 rfl (by kernel_rfl)) ?_
          have q : numF s = .error 7 := by unfold numF; rw [if_neg (by rw [d2]; simp [hd1]), if_pos (by rw [hV]; exact hov)]
          exact ⟨by rw [q]; rfl, ff⟩
        · have hq0 := hov
          refine WL.op rfl rfl rfl (Go.Proofs.YtoffbjfgledjfaaDoor.W.quiet_pick rfl rfl rfl) ?_
          refine WL.nil ?_
          refine TW.cond rfl (fun hb => by cases hb) (fun _ => ?_)
          refine TW.skip ?_
          refine TW.sreg ?_
          refine WL.op rfl rfl rfl (Go.Proofs.YtoffbjfgledjfaaDoor.W.quiet_move rfl rfl) ?_
          refine WL.op rfl rfl rfl (Go.Proofs.YtoffbjfgledjfaaDoor.W.quiet_move rfl rfl) ?_
          refine WL.call (hr := (KP _ (he.fr ff id id))) rfl rfl rfl rfl rfl (fun W => qk_strconv_ParseUint W _) ?_
          rintro e w3 ⟨u, er, rfl, f3, hu, hq⟩
          refine ⟨_, rfl, ?_⟩
          replace bx1 := bx1.fr f3 id
          replace ff := ff.trans f3
          obtain ⟨rfl, rfl⟩ : u = valF 16 (numD s) ∧ er = .nilIface := by simpa [hov] using hq
          refine WL.op rfl rfl rfl (Go.Proofs.YtoffbjfgledjfaaDoor.W.quiet_move rfl rfl) ?_
          refine O.ext rfl rfl rfl rfl rfl rfl ?_
          refine O.ext rfl rfl rfl rfl rfl rfl ?_
          refine WL.op rfl rfl rfl (Go.Proofs.YtoffbjfgledjfaaDoor.W.quiet_assign rfl rfl) ?_
          refine WL.op rfl rfl rfl (Go.Proofs.YtoffbjfgledjfaaDoor.W.quiet_assign rfl rfl) ?_
          refine WL.nil ?_
          refine TW.seq ?_
          refine TW.sreg ?_
          refine WL.op rfl rfl rfl (Go.Proofs.YtoffbjfgledjfaaDoor.W.quiet_move rfl rfl) ?_
          refine WL.op rfl rfl rfl (Go.Proofs.YtoffbjfgledjfaaDoor.W.quiet_bin rfl rfl rfl (fun W => er_ne0 W _)) ?_
          refine O.split (fun hb => by exfalso; revert hb; first | (simp; done) | (simp; omega)) (fun hb => ?_)
          refine WL.nil ?_
          refine TW.cond rfl (fun hb => by cases hb) (fun _ => ?_)
          refine TW.skip ?_
          refine TW.sreg ?_
          refine WL.op rfl rfl rfl (Go.Proofs.YtoffbjfgledjfaaDoor.W.quiet_move rfl rfl) ?_
          refine WL.op rfl rfl rfl (Go.Proofs.YtoffbjfgledjfaaDoor.W.quiet_move rfl rfl) ?_
          refine O.cv rfl rfl rfl rfl rfl (qc_uint64_uint32 _ _ (by omega) (by omega)) ?_
          refine O.bld rfl rfl rfl rfl rfl (qd_api_Token_0_1_2 _ _ _ _) ?_
          refine O.storeR rfl rfl rfl rfl rfl (qsA_api_Token w3 _ _ _ _ _ _ _ _ _ _ _ bx1) ?_
          rintro wa5 ⟨fa5, bx1x⟩
          replace ff := ff.trans' fa5 (fun q hq e => by omega)
          clear bx1
          have bx1 := bx1x
          clear bx1x
          refine WL.op rfl rfl rfl (Go.Proofs.YtoffbjfgledjfaaDoor.W.quiet_assign rfl rfl) ?_
          refine WL.nil ?_
          refine TW.rt ?_
          refine O.retc2 rfl rfl rfl (run_loadVar_row _ _ _ 32 _ _ _ bx1 Tryd.underlying32 rfl (by kernel_rfl)) ?_
          have q : numF s = .ok ⟨3, numT s, numV s⟩ := by unfold numF; rw [if_neg (by rw [d2]; simp [hd1]), if_neg (by rw [hV]; exact hov)]
          exact ⟨by rw [q, hV]; rfl, ff⟩
  · skip
    refine WL.op rfl rfl rfl (Go.Proofs.YtoffbjfgledjfaaDoor.W.quiet_move rfl rfl) ?_
    refine WL.op rfl rfl rfl (Go.Proofs.YtoffbjfgledjfaaDoor.W.quiet_move rfl rfl) ?_
    refine WL.call (hr := (t_pref s [48, 88] _)) rfl rfl rfl rfl rfl (fun W => qk_strings_HasPrefix W _) ?_
    rintro e wz ⟨rfl, hwz⟩
    refine ⟨_, rfl, ?_⟩
    obtain rfl := hwz.symm
    refine O.split (fun x2 => ?_) (fun x2 => ?_)
    · skip
      have hP : hexP s = true := by rw [hexP_pref, x1, x2]; simp
      have hT := numT_hex hP
      have h2 : 2 ≤ s.length := by have := (hexP_iff s).1 hP; omega
      have hxl := spanN_le hexB (s.drop 2)
      rw [List.length_drop] at hxl
      refine WL.op rfl rfl rfl (Go.Proofs.YtoffbjfgledjfaaDoor.W.quiet_pick rfl rfl rfl) ?_
      refine WL.nil ?_
      refine TW.cond rfl (fun _ => ?_) (fun hb => by cases hb)
      refine TW.sreg ?_
      refine WL.op rfl rfl rfl (Go.Proofs.YtoffbjfgledjfaaDoor.W.quiet_move rfl rfl) ?_
      refine WL.op rfl rfl rfl (Go.Proofs.YtoffbjfgledjfaaDoor.W.quiet_move rfl rfl) ?_
      refine O.sl1 rfl rfl rfl rfl rfl rfl (str_from _ s 2 h2) ?_
      refine WL.call (hr := (t_spanx (s.drop 2) (by rw [List.length_drop]; omega) _)) rfl rfl rfl rfl rfl (fun W => qk_lex_span W _) ?_
      rintro e wz ⟨rfl, hwz⟩
      refine ⟨_, rfl, ?_⟩
      obtain rfl := hwz.symm
      refine WL.op rfl rfl rfl (Go.Proofs.YtoffbjfgledjfaaDoor.W.quiet_bin rfl rfl rfl (fun W => (qb_add_int W _ _ _ _ (by omega) (by omega)).trans (by rw [show (2 : Int) + (spanN hexB (s.drop 2) : Int) = ((2 + spanN hexB (s.drop 2) : Nat) : Int) by omega]))) ?_
      refine O.sl2 rfl rfl rfl rfl rfl rfl (str_to _ s (2 + spanN hexB (s.drop 2)) (by omega)) ?_
      rw [← hT]
      have hTl : 2 ≤ (numT s).length := by rw [hT, List.length_take]; omega
      have hD : numD s = (numT s).drop 2 := by unfold numD; rw [hP]; rfl
      refine WL.op rfl rfl rfl (Go.Proofs.YtoffbjfgledjfaaDoor.W.quiet_assign rfl rfl) ?_
      refine WL.nil ?_
      refine TW.reg ?_
      refine WL.op rfl rfl rfl (Go.Proofs.YtoffbjfgledjfaaDoor.W.quiet_move rfl rfl) ?_
      refine O.sl1 rfl rfl rfl rfl rfl rfl (str_from _ (numT s) 2 hTl) ?_
      rw [← hD]
      refine WL.op rfl rfl rfl (Go.Proofs.YtoffbjfgledjfaaDoor.W.quiet_assign rfl rfl) ?_
      refine WL.op rfl rfl rfl (Go.Proofs.YtoffbjfgledjfaaDoor.W.quiet_assign rfl rfl) ?_
      refine WL.nil ?_
      refine TW.seq ?_
      refine TW.sreg ?_
      refine WL.op rfl rfl rfl (Go.Proofs.YtoffbjfgledjfaaDoor.W.quiet_move rfl rfl) ?_
      refine WL.op rfl rfl rfl (Go.Proofs.YtoffbjfgledjfaaDoor.W.quiet_bin rfl rfl rfl (fun W => bn_eqs W _ _ _ _)) ?_
      refine O.split (fun d1 => ?_) (fun d1 => ?_)
      · skip
        refine WL.op rfl rfl rfl (Go.Proofs.YtoffbjfgledjfaaDoor.W.quiet_move rfl rfl) ?_
        refine WL.skip rfl rfl rfl ?_
        refine WL.skip rfl rfl rfl ?_
        refine WL.skip rfl rfl rfl ?_
        refine WL.skip rfl rfl rfl ?_
        refine WL.op rfl rfl rfl (Go.Proofs.YtoffbjfgledjfaaDoor.W.quiet_pick rfl rfl rfl) ?_
        refine WL.nil ?_
        refine TW.cond rfl (fun _ => ?_) (fun hb => by cases hb)
        refine TW.sreg ?_
        refine O.bld rfl rfl rfl rfl rfl (qd_api_Token_ _) ?_
        refine O.storeR rfl rfl rfl rfl rfl (qsA_api_Token wa1 _ _ _ _ _ _ _ _ _ _ _ bx1) ?_
        rintro wa6 ⟨fa6, bx1x⟩
        replace ff := ff.trans' fa6 (fun q hq e => by omega)
        clear bx1
        have bx1 := bx1x
        clear bx1x
        refine WL.op rfl rfl rfl (Go.Proofs.YtoffbjfgledjfaaDoor.W.quiet_assign rfl rfl) ?_
        refine WL.nil ?_
        refine TW.rt ?_
        refine Xw.thn (by simp) ?_
        refine O.retc2 rfl rfl rfl (run_loadVar_row _ _ _ 32 _ _ _ bx1 Tryd.underlying32 rfl (by kernel_rfl)) ?_
        have q : numF s = .error 3 := by unfold numF; rw [if_pos (.inl (by exact of_decide_eq_true d1))]
        exact ⟨by rw [q]; rfl, ff⟩
      · skip
        have hd1 : numD s ≠ [] := by exact of_decide_eq_false d1
        refine WL.op rfl rfl rfl (Go.Proofs.YtoffbjfgledjfaaDoor.W.quiet_move rfl rfl) ?_
        refine WL.op rfl rfl rfl (Go.Proofs.YtoffbjfgledjfaaDoor.W.quiet_move rfl rfl) ?_
        refine WL.op rfl rfl rfl (Go.Proofs.YtoffbjfgledjfaaDoor.W.quiet_move rfl rfl) ?_
        refine O.len rfl rfl rfl rfl rfl (qn_string _ _) ?_
        refine WL.call (hr := (t_runs s (numT s).length _)) rfl rfl rfl rfl rfl (fun W => qk_lex_runsOn W _) ?_
        rintro e wz ⟨rfl, hwz⟩
        refine ⟨_, rfl, ?_⟩
        obtain rfl := hwz.symm
        refine O.split (fun d2 => ?_) (fun d2 => ?_)
        · skip
          refine WL.op rfl rfl rfl (Go.Proofs.YtoffbjfgledjfaaDoor.W.quiet_pick rfl rfl rfl) ?_
          refine WL.nil ?_
          refine TW.cond rfl (fun _ => ?_) (fun hb => by cases hb)
          refine TW.sreg ?_
          refine O.bld rfl rfl rfl rfl rfl (qd_api_Token_ _) ?_
          refine O.storeR rfl rfl rfl rfl rfl (qsA_api_Token wa1 _ _ _ _ _ _ _ _ _ _ _ bx1) ?_
          rintro wa7 ⟨fa7, bx1x⟩
          replace ff := ff.trans' fa7 (fun q hq e => by omega)
          clear bx1
          have bx1 := bx1x
          clear bx1x
          refine WL.op rfl rfl rfl (Go.Proofs.YtoffbjfgledjfaaDoor.W.quiet_assign rfl rfl) ?_
          refine WL.nil ?_
          refine TW.rt ?_
          refine Xw.thn (by simp) ?_
          refine O.retc2 rfl rfl rfl (run_loadVar_row _ _ _ 32 _ _ _ bx1 Tryd.underlying32 rfl (by kernel_rfl)) ?_
          have q : numF s = .error 3 := by unfold numF; rw [if_pos (.inr d2)]
          exact ⟨by rw [q]; rfl, ff⟩
        · skip
          have hdl : (numD s).length ≤ 1000000 := Nat.le_trans (numD_len s) hs
          have KP := fun w he => t_pnum true (numD s) (by exact hd1) (by exact hdl) (by have := numD_all (s := s); rwa [hP] at this) w he
          have hV : numV s = valF 16 (numD s) := by unfold numV; rw [hP]; rfl
          by_cases hov : 4294967295 < valF 16 (numD s)
          · have hq0 := hov
            refine WL.op rfl rfl rfl (Go.Proofs.YtoffbjfgledjfaaDoor.W.quiet_pick rfl rfl rfl) ?_
            refine WL.nil ?_
            refine TW.cond rfl (fun hb => by cases hb) (fun _ => ?_)
            refine TW.skip ?_
            refine TW.sreg ?_
            refine WL.op rfl rfl rfl (Go.Proofs.YtoffbjfgledjfaaDoor.W.quiet_move rfl rfl) ?_
            refine WL.op rfl rfl rfl (Go.Proofs.YtoffbjfgledjfaaDoor.W.quiet_move rfl rfl) ?_
            refine WL.call (hr := (KP _ (he.fr ff id id))) rfl rfl rfl rfl rfl (fun W => qk_strconv_ParseUint W _) ?_
            rintro e w3 ⟨u, er, rfl, f3, hu, hq⟩
            refine ⟨_, rfl, ?_⟩
            replace bx1 := bx1.fr f3 id
            replace ff := ff.trans f3
            obtain ⟨te, pe, rfl⟩ : ∃ te pe, er = .iface te pe := by simpa [hov] using hq
            refine WL.op rfl rfl rfl (Go.Proofs.YtoffbjfgledjfaaDoor.W.quiet_move rfl rfl) ?_
            refine O.ext rfl rfl rfl rfl rfl rfl ?_
            refine O.ext rfl rfl rfl rfl rfl rfl ?_
            refine WL.op rfl rfl rfl (Go.Proofs.YtoffbjfgledjfaaDoor.W.quiet_assign rfl rfl) ?_
            refine WL.op rfl rfl rfl (Go.Proofs.YtoffbjfgledjfaaDoor.W.quiet_assign rfl rfl) ?_
            refine WL.nil ?_
            refine TW.seq ?_
            refine TW.sreg ?_
            refine WL.op rfl rfl rfl (Go.Proofs.YtoffbjfgledjfaaDoor.W.quiet_move rfl rfl) ?_
            refine WL.op rfl rfl rfl (Go.Proofs.YtoffbjfgledjfaaDoor.W.quiet_bin rfl rfl rfl (fun W => er_ne1 W _ _ _)) ?_
            refine O.split (fun hb => ?_) (fun hb => by exfalso; revert hb; first | (simp; done) | (simp; omega))
            refine WL.nil ?_
            refine TW.cond rfl (fun _ => ?_) (fun hb => by cases hb)
            refine TW.sreg ?_
            refine O.bld rfl rfl rfl rfl rfl (qd_api_Token_ _) ?_
            refine O.storeR rfl rfl rfl rfl rfl (qsA_api_Token w3 _ _ _ _ _ _ _ _ _ _ _ bx1) ?_
            rintro wa8 ⟨fa8, bx1x⟩
            replace ff := ff.trans' fa8 (fun q hq e => by omega)
            clear bx1
            have bx1 := bx1x
            clear bx1x
            refine WL.op rfl rfl rfl (Go.Proofs.YtoffbjfgledjfaaDoor.W.quiet_assign rfl rfl) ?_
            refine WL.nil ?_
            refine TW.rt ?_
            refine Xw.thn (by simp) ?_
            refine O.retc2 rfl rfl rfl (run_loadVar_row _ _ _ 32 _ _ _ bx1 Tryd.underlying32 rfl (by kernel_rfl)) ?_
            have q : numF s = .error 7 := by unfold numF; rw [if_neg (by rw [d2]; simp [hd1]), if_pos (by rw [hV]; exact hov)]
            exact ⟨by rw [q]; rfl, ff⟩
          · have hq0 := hov
            refine WL.op rfl rfl rfl (Go.Proofs.YtoffbjfgledjfaaDoor.W.quiet_pick rfl rfl rfl) ?_
            refine WL.nil ?_
            refine TW.cond rfl (fun hb => by cases hb) (fun _ => ?_)
            refine TW.skip ?_
            refine TW.sreg ?_
            refine WL.op rfl rfl rfl (Go.Proofs.YtoffbjfgledjfaaDoor.W.quiet_move rfl rfl) ?_
            refine WL.op rfl rfl rfl (Go.Proofs.YtoffbjfgledjfaaDoor.W.quiet_move rfl rfl) ?_
            refine WL.call (hr := (KP _ (he.fr ff id id))) rfl rfl rfl rfl rfl (fun W => qk_strconv_ParseUint W _) ?_
            rintro e w3 ⟨u, er, rfl, f3, hu, hq⟩
            refine ⟨_, rfl, ?_⟩
            replace bx1 := bx1.fr f3 id
            replace ff := ff.trans f3
            obtain ⟨rfl, rfl⟩ : u = valF 16 (numD s) ∧ er = .nilIface := by simpa [hov] using hq
            refine WL.op rfl rfl rfl (Go.Proofs.YtoffbjfgledjfaaDoor.W.quiet_move rfl rfl) ?_
            refine O.ext rfl rfl rfl rfl rfl rfl ?_
            refine O.ext rfl rfl rfl rfl rfl rfl ?_
            refine WL.op rfl rfl rfl (Go.Proofs.YtoffbjfgledjfaaDoor.W.quiet_assign rfl rfl) ?_
            refine WL.op rfl rfl rfl (Go.Proofs.YtoffbjfgledjfaaDoor.W.quiet_assign rfl rfl) ?_
            refine WL.nil ?_
            refine TW.seq ?_
            refine TW.sreg ?_
            refine WL.op rfl rfl rfl (Go.Proofs.YtoffbjfgledjfaaDoor.W.quiet_move rfl rfl) ?_
            refine WL.op rfl rfl rfl (Go.Proofs.YtoffbjfgledjfaaDoor.W.quiet_bin rfl rfl rfl (fun W => er_ne0 W _)) ?_
            refine O.split (fun hb => by exfalso; revert hb; first | (simp; done) | (simp; omega)) (fun hb => ?_)
            refine WL.nil ?_
            refine TW.cond rfl (fun hb => by cases hb) (fun _ => ?_)
            refine TW.skip ?_
            refine TW.sreg ?_
            refine WL.op rfl rfl rfl (Go.Proofs.YtoffbjfgledjfaaDoor.W.quiet_move rfl rfl) ?_
            refine WL.op rfl rfl rfl (Go.Proofs.YtoffbjfgledjfaaDoor.W.quiet_move rfl rfl) ?_
            refine O.cv rfl rfl rfl rfl rfl (qc_uint64_uint32 _ _ (by omega) (by omega)) ?_
            refine O.bld rfl rfl rfl rfl rfl (qd_api_Token_0_1_2 _ _ _ _) ?_
            refine O.storeR rfl rfl rfl rfl rfl (qsA_api_Token w3 _ _ _ _ _ _ _ _ _ _ _ bx1) ?_
            rintro wa9 ⟨fa9, bx1x⟩
            replace ff := ff.trans' fa9 (fun q hq e => by omega)
            clear bx1
            have bx1 := bx1x
            clear bx1x
            refine WL.op rfl rfl rfl (Go.Proofs.YtoffbjfgledjfaaDoor.W.quiet_assign rfl rfl) ?_
            refine WL.nil ?_
            refine TW.rt ?_
            refine O.retc2 rfl rfl rfl (run_loadVar_row _ _ _ 32 _ _ _ bx1 Tryd.underlying32 rfl (by kernel_rfl)) ?_
            have q : numF s = .ok ⟨3, numT s, numV s⟩ := by unfold numF; rw [if_neg (by rw [d2]; simp [hd1]), if_neg (by rw [hV]; exact hov)]
            exact ⟨by rw [q, hV]; rfl, ff⟩
    · skip
      have hP : hexP s = false := by rw [hexP_pref, x1, x2]; rfl
      have hT := numT_dec hP
      rw [← hT]
      have hD : numD s = numT s := by unfold numD; rw [hP]; rfl
      refine WL.op rfl rfl rfl (Go.Proofs.YtoffbjfgledjfaaDoor.W.quiet_pick rfl rfl rfl) ?_
      refine WL.nil ?_
      refine TW.cond rfl (fun hb => by cases hb) (fun _ => ?_)
      refine TW.skip ?_
      refine TW.seq ?_
      refine TW.sreg ?_
      refine WL.op rfl rfl rfl (Go.Proofs.YtoffbjfgledjfaaDoor.W.quiet_move rfl rfl) ?_
      refine WL.op rfl rfl rfl (Go.Proofs.YtoffbjfgledjfaaDoor.W.quiet_bin rfl rfl rfl (fun W => bn_eqs W _ _ _ _)) ?_
      refine O.split (fun d1 => ?_) (fun d1 => ?_)
      · skip
        refine WL.op rfl rfl rfl (Go.Proofs.YtoffbjfgledjfaaDoor.W.quiet_move rfl rfl) ?_
        refine WL.skip rfl rfl rfl ?_
        refine WL.skip rfl rfl rfl ?_
        refine WL.skip rfl rfl rfl ?_
        refine WL.skip rfl rfl rfl ?_
        refine WL.op rfl rfl rfl (Go.Proofs.YtoffbjfgledjfaaDoor.W.quiet_pick rfl rfl rfl) ?_
        refine WL.nil ?_
        refine TW.cond rfl (fun _ => ?_) (fun hb => by cases hb)
        refine TW.sreg ?_
        refine O.bld rfl rfl rfl rfl rfl (qd_api_Token_ _) ?_
        refine O.storeR rfl rfl rfl rfl rfl (qsA_api_Token wa1 _ _ _ _ _ _ _ _ _ _ _ bx1) ?_
        rintro wa10 ⟨fa10, bx1x⟩
        replace ff := ff.trans' fa10 (fun q hq e => by omega)
        clear bx1
        have bx1 := bx1x
        clear bx1x
        refine WL.op rfl rfl rfl (Go.Proofs.YtoffbjfgledjfaaDoor.W.quiet_assign rfl rfl) ?_
        refine WL.nil ?_
        refine TW.rt ?_
        refine Xw.thn (by simp) ?_
        refine O.retc2 rfl rfl rfl (run_loadVar_row _ _ _ 32 _ _ _ bx1 Tryd.underlying32 rfl (by kernel_rfl)) ?_
        have q : numF s = .error 3 := by unfold numF; rw [if_pos (.inl (by rw [hD]; exact of_decide_eq_true d1))]
        exact ⟨by rw [q]; rfl, ff⟩
      · skip
        have hd1 : numD s ≠ [] := by rw [hD]; exact of_decide_eq_false d1
        refine WL.op rfl rfl rfl (Go.Proofs.YtoffbjfgledjfaaDoor.W.quiet_move rfl rfl) ?_
        refine WL.op rfl rfl rfl (Go.Proofs.YtoffbjfgledjfaaDoor.W.quiet_move rfl rfl) ?_
        refine WL.op rfl rfl rfl (Go.Proofs.YtoffbjfgledjfaaDoor.W.quiet_move rfl rfl) ?_
        refine O.len rfl rfl rfl rfl rfl (qn_string _ _) ?_
        refine WL.call (hr := (t_runs s (numT s).length _)) rfl rfl rfl rfl rfl (fun W => qk_lex_runsOn W _) ?_
        rintro e wz ⟨rfl, hwz⟩
        refine ⟨_, rfl, ?_⟩
        obtain rfl := hwz.symm
        refine O.split (fun d2 => ?_) (fun d2 => ?_)
        · skip
          refine WL.op rfl rfl rfl (Go.Proofs.YtoffbjfgledjfaaDoor.W.quiet_pick rfl rfl rfl) ?_
          refine WL.nil ?_
          refine TW.cond rfl (fun _ => ?_) (fun hb => by cases hb)
          refine TW.sreg ?_
          refine O.bld rfl rfl rfl rfl rfl (qd_api_Token_ _) ?_
          refine O.storeR rfl rfl rfl rfl rfl (qsA_api_Token wa1 _ _ _ _ _ _ _ _ _ _ _ bx1) ?_
          rintro wa11 ⟨fa11, bx1x⟩
          replace ff := ff.trans' fa11 (fun q hq e => by omega)
          clear bx1
          have bx1 := bx1x
          clear bx1x
          refine WL.op rfl rfl rfl (Go.Proofs.YtoffbjfgledjfaaDoor.W.quiet_assign rfl rfl) ?_
          refine WL.nil ?_
          refine TW.rt ?_
          refine Xw.thn (by simp) ?_
          refine O.retc2 rfl rfl rfl (run_loadVar_row _ _ _ 32 _ _ _ bx1 Tryd.underlying32 rfl (by kernel_rfl)) ?_
          have q : numF s = .error 3 := by unfold numF; rw [if_pos (.inr d2)]
          exact ⟨by rw [q]; rfl, ff⟩
        · skip
          have hdl : (numD s).length ≤ 1000000 := Nat.le_trans (numD_len s) hs
          have KP := fun w he => t_pnum false (numT s) (by rw [← hD]; exact hd1) (by rw [← hD]; exact hdl) (by rw [← hD]; have := numD_all (s := s); rwa [hP] at this) w he
          have hV : numV s = valF 10 (numT s) := by unfold numV; rw [hP, hD]; rfl
          by_cases hov : 4294967295 < valF 10 (numT s)
          · have hq0 := hov
            refine WL.op rfl rfl rfl (Go.Proofs.YtoffbjfgledjfaaDoor.W.quiet_pick rfl rfl rfl) ?_
            refine WL.nil ?_
            refine TW.cond rfl (fun hb => by cases hb) (fun _ => ?_)
            refine TW.skip ?_
            refine TW.sreg ?_
            refine WL.op rfl rfl rfl (Go.Proofs.YtoffbjfgledjfaaDoor.W.quiet_move rfl rfl) ?_
            refine WL.op rfl rfl rfl (Go.Proofs.YtoffbjfgledjfaaDoor.W.quiet_move rfl rfl) ?_
            refine WL.call (hr := (KP _ (he.fr ff id id))) rfl rfl rfl rfl rfl (fun W => qk_strconv_ParseUint W _) ?_
            rintro e w3 ⟨u, er, rfl, f3, hu, hq⟩
            refine ⟨_, rfl, ?_⟩
            replace bx1 := bx1.fr f3 id
            replace ff := ff.trans f3
            obtain ⟨te, pe, rfl⟩ : ∃ te pe, er = .iface te pe := by simpa [hov] using hq
            refine WL.op rfl rfl rfl (Go.Proofs.YtoffbjfgledjfaaDoor.W.quiet_move rfl rfl) ?_
            refine O.ext rfl rfl rfl rfl rfl rfl ?_
            refine O.ext rfl rfl rfl rfl rfl rfl ?_
            refine WL.op rfl rfl rfl (Go.Proofs.YtoffbjfgledjfaaDoor.W.quiet_assign rfl rfl) ?_
            refine WL.op rfl rfl rfl (Go.Proofs.YtoffbjfgledjfaaDoor.W.quiet_assign rfl rfl) ?_
            refine WL.nil ?_
            refine TW.seq ?_
            refine TW.sreg ?_
            refine WL.op rfl rfl rfl (Go.Proofs.YtoffbjfgledjfaaDoor.W.quiet_move rfl rfl) ?_
            refine WL.op rfl rfl rfl (Go.Proofs.YtoffbjfgledjfaaDoor.W.quiet_bin rfl rfl rfl (fun W => er_ne1 W _ _ _)) ?_
            refine O.split (fun hb => ?_) (fun hb => by exfalso; revert hb; first | (simp; done) | (simp; omega))
            refine WL.nil ?_
            refine TW.cond rfl (fun _ => ?_) (fun hb => by cases hb)
            refine TW.sreg ?_
            refine O.bld rfl rfl rfl rfl rfl (qd_api_Token_ _) ?_
            refine O.storeR rfl rfl rfl rfl rfl (qsA_api_Token w3 _ _ _ _ _ _ _ _ _ _ _ bx1) ?_
            rintro wa12 ⟨fa12, bx1x⟩
            replace ff := ff.trans' fa12 (fun q hq e => by omega)
            clear bx1
            have bx1 := bx1x
            clear bx1x
            refine WL.op rfl rfl rfl (Go.Proofs.YtoffbjfgledjfaaDoor.W.quiet_assign rfl rfl) ?_
            refine WL.nil ?_
            refine TW.rt ?_
            refine Xw.thn (by simp) ?_
            refine O.retc2 rfl rfl rfl (run_loadVar_row _ _ _ 32 _ _ _ bx1 Tryd.underlying32 rfl (by kernel_rfl)) ?_
            have q : numF s = .error 7 := by unfold numF; rw [if_neg (by rw [d2]; simp [hd1]), if_pos (by rw [hV]; exact hov)]
            exact ⟨by rw [q]; rfl, ff⟩
          · have hq0 := hov
            refine WL.op rfl rfl rfl (Go.Proofs.YtoffbjfgledjfaaDoor.W.quiet_pick rfl rfl rfl) ?_
            refine WL.nil ?_
            refine TW.cond rfl (fun hb => by cases hb) (fun _ => ?_)
            refine TW.skip ?_
            refine TW.sreg ?_
            refine WL.op rfl rfl rfl (Go.Proofs.YtoffbjfgledjfaaDoor.W.quiet_move rfl rfl) ?_
            refine WL.op rfl rfl rfl (Go.Proofs.YtoffbjfgledjfaaDoor.W.quiet_move rfl rfl) ?_
            refine WL.call (hr := (KP _ (he.fr ff id id))) rfl rfl rfl rfl rfl (fun W => qk_strconv_ParseUint W _) ?_
            rintro e w3 ⟨u, er, rfl, f3, hu, hq⟩
            refine ⟨_, rfl, ?_⟩
            replace bx1 := bx1.fr f3 id
            replace ff := ff.trans f3
            obtain ⟨rfl, rfl⟩ : u = valF 10 (numT s) ∧ er = .nilIface := by simpa [hov] using hq
            refine WL.op rfl rfl rfl (Go.Proofs.YtoffbjfgledjfaaDoor.W.quiet_move rfl rfl) ?_
            refine O.ext rfl rfl rfl rfl rfl rfl ?_
            refine O.ext rfl rfl rfl rfl rfl rfl ?_
            refine WL.op rfl rfl rfl (Go.Proofs.YtoffbjfgledjfaaDoor.W.quiet_assign rfl rfl) ?_
            refine WL.op rfl rfl rfl (Go.Proofs.YtoffbjfgledjfaaDoor.W.quiet_assign rfl rfl) ?_
            refine WL.nil ?_
            refine TW.seq ?_
            refine TW.sreg ?_
            refine WL.op rfl rfl rfl (Go.Proofs.YtoffbjfgledjfaaDoor.W.quiet_move rfl rfl) ?_
            refine WL.op rfl rfl rfl (Go.Proofs.YtoffbjfgledjfaaDoor.W.quiet_bin rfl rfl rfl (fun W => er_ne0 W _)) ?_
            refine O.split (fun hb => by exfalso; revert hb; first | (simp; done) | (simp; omega)) (fun hb => ?_)
            refine WL.nil ?_
            refine TW.cond rfl (fun hb => by cases hb) (fun _ => ?_)
            refine TW.skip ?_
            refine TW.sreg ?_
            refine WL.op rfl rfl rfl (Go.Proofs.YtoffbjfgledjfaaDoor.W.quiet_move rfl rfl) ?_
            refine WL.op rfl rfl rfl (Go.Proofs.YtoffbjfgledjfaaDoor.W.quiet_move rfl rfl) ?_
            refine O.cv rfl rfl rfl rfl rfl (qc_uint64_uint32 _ _ (by omega) (by omega)) ?_
            refine O.bld rfl rfl rfl rfl rfl (qd_api_Token_0_1_2 _ _ _ _) ?_
            refine O.storeR rfl rfl rfl rfl rfl (qsA_api_Token w3 _ _ _ _ _ _ _ _ _ _ _ bx1) ?_
            rintro wa13 ⟨fa13, bx1x⟩
            replace ff := ff.trans' fa13 (fun q hq e => by omega)
            clear bx1
            have bx1 := bx1x
            clear bx1x
            refine WL.op rfl rfl rfl (Go.Proofs.YtoffbjfgledjfaaDoor.W.quiet_assign rfl rfl) ?_
            refine WL.nil ?_
            refine TW.rt ?_
            refine O.retc2 rfl rfl rfl (run_loadVar_row _ _ _ 32 _ _ _ bx1 Tryd.underlying32 rfl (by kernel_rfl)) ?_
            have q : numF s = .ok ⟨3, numT s, numV s⟩ := by unfold numF; rw [if_neg (by rw [d2]; simp [hd1]), if_neg (by rw [hV]; exact hov)]
            exact ⟨by rw [q, hV]; rfl, ff⟩
end Go.Proofs.YtoffbjfgledjfaaDoor
