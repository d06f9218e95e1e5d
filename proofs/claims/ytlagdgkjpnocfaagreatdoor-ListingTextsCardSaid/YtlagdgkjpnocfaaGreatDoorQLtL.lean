/-
  Listing (layer 6): the lines of any words, walked.
-/
import Derived.Test.YtlagdgkjpnocfaaGreatDoorQLtI
namespace Go.Proofs.YtlagdgkjpnocfaaGreatDoor
open Go.RowKit
set_option linter.unusedVariables false
set_option linter.unusedSimpArgs false
theorem qb_neq_int (w : World) (x y : Operand) (m n : Int) : ((do eqGuard .neq 3 x y (.int .i64 m) (.int .i64 n); binOp .neq 3 (.int .i64 m) (.int .i64 n) : Sem Value)).run Tryz.prog w = .ok (.bool (m != n)) w := by simp [go_sem]
theorem qb_neq_uint32 (w : World) (x y : Operand) (m n : Int) : ((do eqGuard .neq 40 x y (.int .u32 m) (.int .u32 n); binOp .neq 40 (.int .u32 m) (.int .u32 n) : Sem Value)).run Tryz.prog w = .ok (.bool (m != n)) w := by simp [go_sem]
theorem dig_mem : ∀ d : Fin 16, dig d.val ≠ 58 ∧ dig d.val ≠ 10 ∧ dvH (dig d.val) = some d.val := by decide +kernel
theorem hxL_mem (u : Nat) : ∀ k, ∀ b ∈ hxL u k, b ≠ 58 ∧ b ≠ 10
  | 0, b, h => by simp [hxL] at h
  | k + 1, b, h => by
    rcases List.mem_cons.1 h with h | h
    · subst h
      have := dig_mem ⟨u / 16 ^ k % 16, Nat.mod_lt _ (by decide)⟩
      exact ⟨this.1, this.2.1⟩
    · exact hxL_mem u k b h
theorem hex_no {u : Nat} (hu : u < 4294967296) : (58 : UInt8) ∉ hexT u ∧ (10 : UInt8) ∉ hexT u := by
  rw [hex_hxL hu]
  exact ⟨fun h => (hxL_mem u 8 _ h).1 rfl, fun h => (hxL_mem u 8 _ h).2 rfl⟩
theorem pU_hx (u : Nat) : ∀ (k n : Nat), n * 16 ^ k + u % 16 ^ k ≤ 4294967295 → pU (hxL u k) n = (n * 16 ^ k + u % 16 ^ k, 0)
  | 0, n, h => by simp [hxL, pU, Nat.mod_one]
  | k + 1, n, h => by
    have hp : 0 < 16 ^ k := Nat.pow_pos (by decide)
    have hd := dig_mem ⟨u / 16 ^ k % 16, Nat.mod_lt _ (by decide)⟩
    have hlt : u / 16 ^ k % 16 < 16 := Nat.mod_lt _ (by decide)
    have e : u % 16 ^ (k + 1) = u / 16 ^ k % 16 * 16 ^ k + u % 16 ^ k := by
      have h1 : u % 16 ^ (k + 1) / 16 ^ k = u / 16 ^ k % 16 := by rw [Nat.pow_succ, Nat.mod_mul_right_div_self]
      have h2 : u % 16 ^ (k + 1) % 16 ^ k = u % 16 ^ k := by rw [Nat.pow_succ, Nat.mod_mul_right_mod]
      have := Nat.div_add_mod (u % 16 ^ (k + 1)) (16 ^ k)
      rw [h1, h2, Nat.mul_comm] at this
      exact this.symm
    have e2 : n * 16 ^ (k + 1) + u % 16 ^ (k + 1) = (n * 16 + u / 16 ^ k % 16) * 16 ^ k + u % 16 ^ k := by
      rw [e, Nat.pow_succ, Nat.add_mul, Nat.mul_assoc n 16, Nat.mul_comm 16]
      omega
    rw [e2] at h ⊢
    have hle : n * 16 + u / 16 ^ k % 16 ≤ (n * 16 + u / 16 ^ k % 16) * 16 ^ k := Nat.le_mul_of_pos_right _ hp
    show pU (dig (u / 16 ^ k % 16) :: hxL u k) n = _
    unfold pU
    simp only [hd.2.2]
    rw [if_neg (by omega), if_neg (by omega)]
    exact pU_hx u k _ h
theorem hex_back {u : Nat} (hu : u < 4294967296) : puT (hexT u) = (u, 0) := by
  have h8 := hexT_len hu
  unfold puT
  rw [if_neg (by intro q; rw [q] at h8; simp at h8), hex_hxL hu, pU_hx u 8 0 (by rw [Nat.mod_eq_of_lt (by omega)]; omega)]
  rw [Nat.mod_eq_of_lt (by omega)]
  simp
/-- A text of words behind those that are read. -/
def tlT : List Nat → Nat → List UInt8
  | [], _ => []
  | u :: r, k => wlT (4 * k) u ++ tlT r (k + 1)
theorem tx_tl : ∀ (r pre : List Nat), txT (pre ++ r) (pre ++ r).length = txT pre pre.length ++ tlT r pre.length
  | [], pre => by simp [tlT]
  | u :: r, pre => by
    have h := tx_tl r (pre ++ [u])
    rw [List.append_assoc, List.singleton_append, txT_snoc] at h
    rw [h, List.length_append, List.length_singleton, List.append_assoc]
    rfl
theorem line_no {op rd r1 r2 imm : Int} : (10 : UInt8) ∉ lineT op rd r1 r2 imm := by
  have hn : (10 : UInt8) ∉ nmT op := by
    have := (nm_fin2 ⟨ix op, ix_lt op⟩).2.1
    unfold nmT at this ⊢
    simp only [ix_nat (ix_lt op)] at this
    exact this
  have ho : ∀ o, (10 : UInt8) ∉ opdT rd r1 r2 imm o := fun o => opd_no (by decide)
  have hj : ∀ ps : List (List UInt8), (∀ p ∈ ps, (10 : UInt8) ∉ p) → (10 : UInt8) ∉ Lib.join ps [44, 32] := by
    intro ps
    induction ps with
    | nil => intro _; simp [Lib.join]
    | cons p ps ih =>
      intro h
      cases ps with
      | nil => rw [Lib.join_one]; exact h p (by simp)
      | cons q ps =>
        have e : Lib.join (p :: q :: ps) [44, 32] = p ++ ([44, 32] ++ Lib.join (q :: ps) [44, 32]) := by
          simp [Lib.join, List.intercalate]
        rw [e]
        have h1 := h p (by simp)
        have h2 := ih (fun x hx => h x (by simp [hx]))
        simp only [List.mem_append, not_or]
        exact ⟨h1, by decide, h2⟩
  unfold lineT assT
  simp only [List.mem_append, not_or]
  exact ⟨⟨hn, by decide⟩, hj _ (fun p hp => by
    obtain ⟨o, _, rfl⟩ := List.mem_map.1 hp
    exact ho o)⟩
theorem body_no {u : Nat} (hu : u < 4294967296) : (10 : UInt8) ∉ bodyT u := by
  by_cases hz : findI (u : Int) = 0
  · rw [body_none hz]
    simp only [List.mem_append, not_or]
    exact ⟨by decide, (hex_no hu).2⟩
  · rw [body_some hz]
    exact line_no
theorem pre_no {a b p : List UInt8} (hl : p.length ≤ a.length) (h : Lib.hasPrefix a p = false) : Lib.hasPrefix (a ++ b) p = false := by
  cases e : Lib.hasPrefix (a ++ b) p
  · rfl
  · exfalso
    unfold Lib.hasPrefix at e h
    rw [List.isPrefixOf_iff_prefix] at e
    have : p <+: a := List.prefix_of_prefix_length_le e (List.prefix_append a b) hl
    rw [← List.isPrefixOf_iff_prefix] at this
    rw [this] at h
    cases h
theorem pre_long {s p q : List UInt8} (h : Lib.hasPrefix s p = false) : Lib.hasPrefix s (p ++ q) = false := by
  cases e : Lib.hasPrefix s (p ++ q)
  · rfl
  · exfalso
    unfold Lib.hasPrefix at e h
    rw [List.isPrefixOf_iff_prefix] at e
    have : p <+: s := (List.prefix_append p q).trans e
    rw [← List.isPrefixOf_iff_prefix] at this
    rw [this] at h
    cases h
/-- The word of a word's line. -/
theorem word_back (a u : Nat) (ha : a < 4294967296) (hu : u < 4294967296) : pwR (hexT a ++ [58, 32] ++ bodyT u) = (u, true) := by
  have e : hexT a ++ [58, 32] ++ bodyT u = hexT a ++ ([58, 32] ++ bodyT u) := by simp
  have hc := cut_at (a := hexT a) (b := bodyT u) (c := 58) (t := [32]) (hex_no ha).1
  unfold pwR
  rw [e]
  simp only [hc]
  by_cases hz : findI (u : Int) = 0
  · rw [body_none hz, pre_self, if_pos rfl, trim_self, hex_back hu]
    rfl
  · obtain ⟨hlt, m⟩ := find_mt (u := (u : Int)) (by omega) (by omega) rfl hz
    obtain ⟨d1, d2⟩ := dec_once (U := (u : Int)) (by omega) (by omega) hlt hz m
    have hfit : fitsB (regV u 7 (uRd (fm (findI (u : Int))))) (regV u 15 (uRs1 (fm (findI (u : Int))))) (regV u 20 (uRs2 (fm (findI (u : Int))))) (gathS (fm (findI (u : Int))) u) (fm (ix (findI (u : Int) : Int))) = true := by
      rw [ix_nat hlt]; exact d1
    have hp := line_parse hfit
    obtain ⟨n1, n2, n3⟩ := nm_fin2 ⟨findI (u : Int), hlt⟩
    obtain ⟨n4, n5⟩ := n3 hz
    rw [body_some hz]
    rw [if_neg, hp]
    · simp only
      rw [if_pos hfit, d2]
      simp
    · have q : Lib.hasPrefix (lineT (findI (u : Int)) (regV u 7 (uRd (fm (findI (u : Int))))) (regV u 15 (uRs1 (fm (findI (u : Int))))) (regV u 20 (uRs2 (fm (findI (u : Int))))) (gathS (fm (findI (u : Int))) u)) [46] = false := by
        unfold lineT assT
        rw [List.append_assoc]
        exact pre_no (by simp at n5 ⊢; omega) n4
      rw [show ([46, 119, 111, 114, 100, 32, 48, 120] : List UInt8) = [46] ++ [119, 111, 114, 100, 32, 48, 120] from rfl, pre_long q]
      decide
theorem words_back : ∀ (r pre : List Nat), pre.length + r.length ≤ 40000 → (∀ u ∈ r, u < 4294967296) → wdsR (tlT r pre.length) pre = some (pre ++ r)
  | [], pre, _, _ => by simp [tlT, wds_nil]
  | u :: r, pre, hl, hu => by
    have hu0 := hu u (by simp)
    simp at hl
    have hb := body_no hu0
    have hx := (hex_no (u := 4 * pre.length) (by omega)).2
    have e : tlT (u :: r) pre.length = (hexT (4 * pre.length) ++ [58, 32] ++ bodyT u) ++ ([10] ++ tlT r (pre.length + 1)) := by
      show wlT (4 * pre.length) u ++ _ = _
      unfold wlT
      simp
    have hc := cut_at (a := hexT (4 * pre.length) ++ [58, 32] ++ bodyT u) (b := tlT r (pre.length + 1)) (c := 10) (t := []) (by
      simp only [List.mem_append, not_or]
      exact ⟨⟨hx, by decide⟩, hb⟩)
    have hw := word_back (4 * pre.length) u (by omega) hu0
    rw [e, wds_more (by simp) (by rw [hc]) (by rw [hc, hw]) (by omega) (by rw [hc, hw]; rfl), hc, hw]
    have := words_back r (pre ++ [u]) (by simp; omega) (fun x hx => hu x (by simp [hx]))
    rw [List.length_append, List.length_singleton, List.append_assoc, List.singleton_append] at this
    exact this
theorem text_back (l : List Nat) (hl : l.length ≤ 40000) (hu : ∀ u ∈ l, u < 4294967296) : wdsR (txT l l.length) [] = some l := by
  have h1 := tx_tl l []
  have h2 := words_back l [] (by simpa using hl) hu
  simp only [List.nil_append, List.length_nil] at h1 h2
  rw [h1]
  simpa [txT] using h2
set_option maxRecDepth 100000 in
theorem walk_texts (ad : Option Addr) (c : Nat) (l : List Nat) (hlt : ∀ k, k < l.length → l.getD k 0 < 4294967296) (w : World) (hL : LsLaid w) (hat : U32At w ad l) : Calls Tryz.prog 5 #[.slice ad l.length c] w fun e w' => e = .returned (.bool true) ∧ Fr (fun _ => False) w w' := by
  have hL0 := hL
  have ff := Fr.refl (fun _ => False) w
  refine calls_tw Tryz.func5 rfl rfl (Nat.le_of_ble_eq_true rfl) ?_
  refine TW.sreg ?_
  refine WL.op rfl rfl rfl (Go.Proofs.YtlagdgkjpnocfaaGreatDoor.W.quiet_assign rfl rfl) ?_
  refine WL.nil ?_
  refine TW.seq ?_
  refine TW.sreg ?_
  refine WL.op rfl rfl rfl (Go.Proofs.YtlagdgkjpnocfaaGreatDoor.W.quiet_move rfl rfl) ?_
  refine O.len rfl rfl rfl rfl rfl (qn_s_uint32 _ _ _ _) ?_
  refine WL.op rfl rfl rfl (Go.Proofs.YtlagdgkjpnocfaaGreatDoor.W.quiet_bin rfl rfl rfl (fun W => qb_gtr_int W _ _ _ _)) ?_
  refine O.split (fun hb => ?_) (fun hb => ?_)
  · skip
    refine WL.nil ?_
    refine TW.cond rfl (fun _ => ?_) (fun hb => by cases hb)
    refine TW.sreg ?_
    refine WL.call (hr := t_awk _ hL) rfl rfl rfl rfl rfl (fun W => qk_rushlightlaw06_awake W _) ?_
    rintro e w9 ⟨rfl, f9⟩
    refine ⟨_, rfl, ?_⟩
    replace ff := ff.trans f9
    replace hL := hL0.fr ff
    refine WL.op rfl rfl rfl (Go.Proofs.YtlagdgkjpnocfaaGreatDoor.W.quiet_assign rfl rfl) ?_
    refine WL.nil ?_
    refine TW.rt ?_
    refine Xw.thn (by simp) ?_
    refine bodyw_ret rfl rfl ?_
    exact ⟨rfl, ff⟩
  · skip
    have hl : l.length ≤ 60 := by have := of_decide_eq_false hb; omega
    refine WL.nil ?_
    refine TW.cond rfl (fun hb => by cases hb) (fun _ => ?_)
    refine TW.skip ?_
    refine TW.sreg ?_
    refine WL.op rfl rfl rfl (Go.Proofs.YtlagdgkjpnocfaaGreatDoor.W.quiet_move rfl rfl) ?_
    refine WL.call (hr := t_text ad c l (by omega) hlt w hat hL.tab hL.db hL.lt) rfl rfl rfl rfl rfl (fun W => qk_listing_Text W _) ?_
    rintro e w1 ⟨rfl, f1⟩
    refine ⟨_, rfl, ?_⟩
    replace ff := ff.trans f1
    replace hL := hL0.fr ff
    have hr := text_back l (by omega) (fun u hu => by obtain ⟨k, hk, rfl⟩ := List.getElem_of_mem hu; have := hlt k hk; simpa [List.getD_eq_getElem?_getD, hk] using this)
    have KW := t_words (txT l l.length) (by have := tx_len (l := l) (by omega) hlt l.length (Nat.le_refl _); omega) w1 hL.er hL.ml hL.tab hL.db
    unfold WdsP at KW
    rw [hr] at KW
    refine WL.op rfl rfl rfl (Go.Proofs.YtlagdgkjpnocfaaGreatDoor.W.quiet_move rfl rfl) ?_
    refine O.ext rfl rfl rfl rfl rfl rfl ?_
    refine O.ext rfl rfl rfl rfl rfl rfl ?_
    refine WL.op rfl rfl rfl (Go.Proofs.YtlagdgkjpnocfaaGreatDoor.W.quiet_assign rfl rfl) ?_
    refine WL.op rfl rfl rfl (Go.Proofs.YtlagdgkjpnocfaaGreatDoor.W.quiet_assign rfl rfl) ?_
    refine WL.nil ?_
    refine TW.sreg ?_
    refine WL.op rfl rfl rfl (Go.Proofs.YtlagdgkjpnocfaaGreatDoor.W.quiet_move rfl rfl) ?_
    refine WL.call (hr := KW) rfl rfl rfl rfl rfl (fun W => qk_listing_Words W _) ?_
    rintro e w2 ⟨⟨v, rfl, hU, hwl, htx, _⟩, f2⟩
    refine ⟨.tuple #[v, .int .i64 0], rfl, ?_⟩
    replace ff := ff.trans f2
    replace hL := hL0.fr ff
    obtain ⟨a2, c2, rfl, hat2⟩ := hU.at
    refine WL.op rfl rfl rfl (Go.Proofs.YtlagdgkjpnocfaaGreatDoor.W.quiet_move rfl rfl) ?_
    refine O.ext rfl rfl rfl rfl rfl rfl ?_
    refine O.ext rfl rfl rfl rfl rfl rfl ?_
    refine WL.op rfl rfl rfl (Go.Proofs.YtlagdgkjpnocfaaGreatDoor.W.quiet_assign rfl rfl) ?_
    refine WL.op rfl rfl rfl (Go.Proofs.YtlagdgkjpnocfaaGreatDoor.W.quiet_assign rfl rfl) ?_
    refine WL.nil ?_
    refine TW.seq ?_
    refine TW.sreg ?_
    refine WL.op rfl rfl rfl (Go.Proofs.YtlagdgkjpnocfaaGreatDoor.W.quiet_move rfl rfl) ?_
    refine WL.op rfl rfl rfl (Go.Proofs.YtlagdgkjpnocfaaGreatDoor.W.quiet_bin rfl rfl rfl (fun W => qb_neq_api_Errno W _ _ _ _)) ?_
    refine O.split (fun hb => by exfalso; revert hb; first | (simp; done) | (simp; omega)) (fun hb => ?_)
    refine WL.op rfl rfl rfl (Go.Proofs.YtlagdgkjpnocfaaGreatDoor.W.quiet_move rfl rfl) ?_
    refine WL.op rfl rfl rfl (Go.Proofs.YtlagdgkjpnocfaaGreatDoor.W.quiet_move rfl rfl) ?_
    refine WL.op rfl rfl rfl (Go.Proofs.YtlagdgkjpnocfaaGreatDoor.W.quiet_bin rfl rfl rfl (fun W => qb_neq_api_Errno W _ _ _ _)) ?_
    refine O.split (fun hb => by exfalso; revert hb; first | (simp; done) | (simp; omega)) (fun hb => ?_)
    refine WL.op rfl rfl rfl (Go.Proofs.YtlagdgkjpnocfaaGreatDoor.W.quiet_pick rfl rfl rfl) ?_
    refine WL.op rfl rfl rfl (Go.Proofs.YtlagdgkjpnocfaaGreatDoor.W.quiet_move rfl rfl) ?_
    refine WL.op rfl rfl rfl (Go.Proofs.YtlagdgkjpnocfaaGreatDoor.W.quiet_move rfl rfl) ?_
    refine WL.op rfl rfl rfl (Go.Proofs.YtlagdgkjpnocfaaGreatDoor.W.quiet_move rfl rfl) ?_
    refine WL.call (hr := t_rtext ad c l (by omega) hlt _ (hat.fr ff)) rfl rfl rfl rfl rfl (fun W => qk_rushlightref06_Text W _) ?_
    rintro e w3 ⟨rfl, f3⟩
    refine ⟨_, rfl, ?_⟩
    replace ff := ff.trans f3
    replace hL := hL0.fr ff
    replace hat2 := hat2.fr f3
    refine WL.op rfl rfl rfl (Go.Proofs.YtlagdgkjpnocfaaGreatDoor.W.quiet_bin rfl rfl rfl (fun W => bn_nes W _ _ _ _)) ?_
    refine O.split (fun hb => by exfalso; revert hb; first | (simp; done) | (simp; omega)) (fun hb => ?_)
    refine WL.op rfl rfl rfl (Go.Proofs.YtlagdgkjpnocfaaGreatDoor.W.quiet_pick rfl rfl rfl) ?_
    refine WL.op rfl rfl rfl (Go.Proofs.YtlagdgkjpnocfaaGreatDoor.W.quiet_move rfl rfl) ?_
    refine WL.op rfl rfl rfl (Go.Proofs.YtlagdgkjpnocfaaGreatDoor.W.quiet_move rfl rfl) ?_
    refine O.len rfl rfl rfl rfl rfl (qn_s_uint32 _ _ _ _) ?_
    refine WL.op rfl rfl rfl (Go.Proofs.YtlagdgkjpnocfaaGreatDoor.W.quiet_move rfl rfl) ?_
    refine O.len rfl rfl rfl rfl rfl (qn_s_uint32 _ _ _ _) ?_
    refine WL.op rfl rfl rfl (Go.Proofs.YtlagdgkjpnocfaaGreatDoor.W.quiet_bin rfl rfl rfl (fun W => qb_neq_int W _ _ _ _)) ?_
    refine O.split (fun hb => by exfalso; revert hb; first | (simp; done) | (simp; omega)) (fun hb => ?_)
    refine WL.op rfl rfl rfl (Go.Proofs.YtlagdgkjpnocfaaGreatDoor.W.quiet_pick rfl rfl rfl) ?_
    refine WL.nil ?_
    refine TW.cond rfl (fun hb => by cases hb) (fun _ => ?_)
    refine TW.skip ?_
    refine TW.seq ?_
    refine TW.sreg ?_
    refine WL.op rfl rfl rfl (Go.Proofs.YtlagdgkjpnocfaaGreatDoor.W.quiet_assign rfl rfl) ?_
    refine WL.nil ?_
    refine TW.block ?_
    refine O.loopG (n := l.length) (fun a _ => (intOf (a.tmps.getD 7 undef)).toNat) (fun j a W => Kn Tryz.f5.ntmps [(0, .slice ad l.length c), (5, .slice a2 l.length c2), (7, .int .i64 (j : Int))] a ∧ Fr (fun _ => False) w W ∧ U32At W a2 l) (fun j a W h => O.slotv h.1 rfl) 0 (Nat.zero_le _) (fun a k => ⟨(by (repeat (refine Kn.cons k rfl ?_)); exact k.base), ff, hat2⟩) ?_
    rintro j a wl hj ⟨k, ff, hat2⟩
    have hL := hL0.fr ff
    refine TW.app (s := [(0, .slice ad l.length c), (5, .slice a2 l.length c2), (7, .int .i64 (j : Int))]) ?_ k
    refine TW.seq ?_
    refine TW.sreg ?_
    refine WL.op rfl rfl rfl (Go.Proofs.YtlagdgkjpnocfaaGreatDoor.W.quiet_move rfl rfl) ?_
    refine WL.op rfl rfl rfl (Go.Proofs.YtlagdgkjpnocfaaGreatDoor.W.quiet_move rfl rfl) ?_
    refine O.len rfl rfl rfl rfl rfl (qn_s_uint32 _ _ _ _) ?_
    refine WL.op rfl rfl rfl (Go.Proofs.YtlagdgkjpnocfaaGreatDoor.W.quiet_bin rfl rfl rfl (fun W => qb_lss_int W _ _ _ _)) ?_
    refine O.split (fun hb => ?_) (fun hb => ?_)
    · skip
      have hj2 : j < l.length := by have := of_decide_eq_true hb; omega
      obtain ⟨g, o, rfl, hcu⟩ := hat j hj2
      obtain ⟨g2, o2, rfl, hcu2⟩ := hat2 j hj2
      refine WL.nil ?_
      refine TW.cond rfl (fun _ => ?_) (fun hb => by cases hb)
      refine TW.skip ?_
      refine TW.seq ?_
      refine TW.block ?_
      refine Q.sreg (C := fun W => Fr (fun _ => False) wl W) (by kernel_rfl) (by kernel_rfl) (fun W h => h.drewN 1) (Fr.refl _ _) ?_
      refine W.op rfl rfl rfl (Go.Proofs.YtlagdgkjpnocfaaGreatDoor.W.quiet_move rfl rfl) ?_
      refine W.op rfl rfl rfl (Go.Proofs.YtlagdgkjpnocfaaGreatDoor.W.quiet_move rfl rfl) ?_
      refine W.op rfl rfl rfl (Go.Proofs.YtlagdgkjpnocfaaGreatDoor.W.quiet_index rfl rfl rfl (fun W => (qi_s_uint32 _ _ _ _ _ _ (by omega)))) ?_
      refine W.op rfl rfl rfl (Go.Proofs.YtlagdgkjpnocfaaGreatDoor.W.quiet_load rfl rfl (fun W hW => (ql_uint32 _ _ _ (hW.cell hcu2 id)))) ?_
      refine W.op rfl rfl rfl (Go.Proofs.YtlagdgkjpnocfaaGreatDoor.W.quiet_move rfl rfl) ?_
      refine W.op rfl rfl rfl (Go.Proofs.YtlagdgkjpnocfaaGreatDoor.W.quiet_move rfl rfl) ?_
      refine W.op rfl rfl rfl (Go.Proofs.YtlagdgkjpnocfaaGreatDoor.W.quiet_index rfl rfl rfl (fun W => (qi_s_uint32 _ _ _ _ _ _ (by omega)))) ?_
      refine W.op rfl rfl rfl (Go.Proofs.YtlagdgkjpnocfaaGreatDoor.W.quiet_load rfl rfl (fun W hW => (ql_uint32 _ _ _ ((ff.trans hW).cell hcu id)))) ?_
      refine W.op rfl rfl rfl (Go.Proofs.YtlagdgkjpnocfaaGreatDoor.W.quiet_bin rfl rfl rfl (fun W => qb_neq_uint32 W _ _ _ _)) ?_
      refine Q.split (fun hb => by exfalso; revert hb; first | (simp; done) | (simp; omega)) (fun hb => ?_)
      refine Q.nil (T.tw fun wq1 fq1 => ?_)
      replace hat2 := hat2.fr fq1
      replace ff := ff.trans fq1
      replace hL := hL0.fr ff
      refine TW.cond rfl (fun hb => by cases hb) (fun _ => ?_)
      refine TW.skipx ?_
      refine Xw.nblk ?_
      refine Xw.nrm ?_
      refine TW.reg ?_
      refine WL.op rfl rfl rfl (Go.Proofs.YtlagdgkjpnocfaaGreatDoor.W.quiet_move rfl rfl) ?_
      refine WL.op rfl rfl rfl (Go.Proofs.YtlagdgkjpnocfaaGreatDoor.W.quiet_bin rfl rfl rfl (fun W => qb_add_int W _ _ _ _ (by omega) (by omega))) ?_
      refine WL.op rfl rfl rfl (Go.Proofs.YtlagdgkjpnocfaaGreatDoor.W.quiet_assign rfl rfl) ?_
      refine WL.end ?_
      refine Xw.any (fun a k => ?_)
      refine ⟨j + 1, by omega, by omega, ?_, ff, hat2⟩
      repeat (refine Kn.cons k rfl ?_)
      exact k.base
    · skip
      refine WL.nil ?_
      refine TW.cond rfl (fun hb => by cases hb) (fun _ => ?_)
      refine TW.exit ?_
      refine Xw.thn (by simp) ?_
      refine Xw.thn (by simp) ?_
      refine Xw.hit ?_
      refine Xw.nrm ?_
      refine TW.sreg ?_
      refine WL.call (hr := t_awk _ hL) rfl rfl rfl rfl rfl (fun W => qk_rushlightlaw06_awake W _) ?_
      rintro e w9 ⟨rfl, f9⟩
      refine ⟨_, rfl, ?_⟩
      replace hat2 := hat2.fr f9
      replace ff := ff.trans f9
      replace hL := hL0.fr ff
      refine O.split (fun hb => ?_) (fun hb => by exfalso; revert hb; first | (simp; done) | (simp; omega))
      refine WL.op rfl rfl rfl (Go.Proofs.YtlagdgkjpnocfaaGreatDoor.W.quiet_assign rfl rfl) ?_
      refine WL.nil ?_
      refine TW.rt ?_
      refine bodyw_ret rfl rfl ?_
      exact ⟨rfl, ff⟩
end Go.Proofs.YtlagdgkjpnocfaaGreatDoor
