/-
  Flow (layer 16): live, by the document.
-/
import Derived.Test.YtobibplilbchfaaFlY
import Derived.Test.YtobibplilbchfaaFlI
import Derived.Test.YtobibplilbchfaaFlJ
import Derived.Test.YtobibplilbchfaaFlR
namespace Go.Proofs.Ytobibplilbchfaa
open Go.RowKit
set_option linter.unusedVariables false
set_option linter.unusedSimpArgs false
set_option linter.unnecessarySimpa false
theorem qk_rushlightref16_within (w : World) (vs : Array Value) : (callFunc 35 vs).run Try.prog w = .ok (.enter 35 vs) w := by simp [go_sem]
theorem take_sc {l : List Int} {j : Nat} (hj : j < l.length) : l.take (j + 1) = l.take j ++ [l.getD j 0] := by
  rw [List.take_add_one, List.getElem?_eq_getElem hj, List.getD_eq_getElem?_getD, List.getElem?_eq_getElem hj]; rfl
theorem getD_memY {l : List Int} {j : Nat} (hj : j < l.length) : l.getD j 0 ∈ l := by
  rw [List.getD_eq_getElem?_getD, List.getElem?_eq_getElem hj]; exact List.getElem_mem hj
/-- The search over all ways on, so far. -/
structure BfP (bs : List Bk) (r : Int) (n : Nat) (T : List Int) (xs : List Bool) (k : Nat) : Prop where
  ln : xs.length = bs.length
  inb : ∀ y ∈ T, 0 ≤ y ∧ y < bs.length
  ct : T.length ≤ 2 + 2 * xs.count true
  snd : ∀ y : Nat, (y : Int) ∈ T → DL bs r y → ∃ s : Nat, (s : Int) ∈ outsF bs n ∧ DL bs r s
  st : ∀ y ∈ outsF bs n, y ∈ T
  sn : ∀ y : Nat, y < bs.length → (xs.getD y false = true ↔ (y : Int) ∈ T.take k)
  cl : ∀ y : Nat, y < bs.length → xs.getD y false = true → wl (bs.getD y bk0) r (bs.getD y bk0).ins ≠ 1 ∧ (wl (bs.getD y bk0) r (bs.getD y bk0).ins = 0 → ∀ z ∈ outsF bs y, z ∈ T)
theorem BfP.start (bs : List Bk) (r : Int) (n : Nat) : BfP bs r n (outsF bs n) (List.replicate bs.length false) 0 := by
  refine ⟨by simp, fun y h => outsF_in h, by have := outsF_len bs n; omega, fun y h1 h2 => ⟨y, h1, h2⟩, fun y h => h, fun y hy => ?_, fun y hy h => ?_⟩
  · rw [getD_rep]; exact iff_of_false (by decide) (by simp)
  · rw [getD_rep] at h; cases h
section
variable {bs : List Bk} {r : Int} {n : Nat} {T : List Int} {xs : List Bool} {k y : Nat}
theorem BfP.tl (h : BfP bs r n T xs k) : T.length ≤ 2 * bs.length + 2 := by
  have h1 := h.ct
  have h2 : xs.count true ≤ xs.length := List.count_le_length
  have h3 := h.ln
  omega
theorem BfP.get (h : BfP bs r n T xs k) (hk : k < T.length) : ∃ y : Nat, T.getD k 0 = (y : Int) ∧ y < bs.length := by
  have := h.inb _ (getD_memY hk)
  exact ⟨(T.getD k 0).toNat, by omega, by omega⟩
theorem BfP.skip (h : BfP bs r n T xs k) (hk : k < T.length) (hy : T.getD k 0 = (y : Int)) (hyb : y < bs.length) (hs : xs.getD y false = true) : BfP bs r n T xs (k + 1) := by
  refine ⟨h.ln, h.inb, h.ct, h.snd, h.st, fun z hz => ?_, h.cl⟩
  rw [h.sn z hz, take_sc hk, hy, List.mem_append, List.mem_singleton]
  refine ⟨.inl, fun q => q.elim id fun e => ?_⟩
  obtain rfl : z = y := by omega
  exact (h.sn z hz).1 hs
theorem BfP.next (h : BfP bs r n T xs k) (hk : k < T.length) (hy : T.getD k 0 = (y : Int)) (hyb : y < bs.length) (hs : xs.getD y false = false) (Y : List Int) (hY : ∀ z ∈ Y, z ∈ outsF bs y) (hl : Y.length ≤ 2) (h1 : wl (bs.getD y bk0) r (bs.getD y bk0).ins ≠ 1) (h2 : wl (bs.getD y bk0) r (bs.getD y bk0).ins = 0 → ∀ z ∈ outsF bs y, z ∈ Y) (h3 : Y ≠ [] → wl (bs.getD y bk0) r (bs.getD y bk0).ins = 0) : BfP bs r n (T ++ Y) (xs.set y true) (k + 1) := by
  have hyl : y < xs.length := by rw [h.ln]; exact hyb
  have hset := fun j => getD_setV xs y j true false hyl
  have hyT : (y : Int) ∈ T := hy ▸ getD_memY hk
  have hcnt : (xs.set y true).count true = xs.count true + 1 := by
    have e : xs[y] = false := by rw [List.getD_eq_getElem?_getD, List.getElem?_eq_getElem hyl] at hs; exact hs
    rw [List.count_set hyl, e]
    simp
  refine ⟨by rw [List.length_set]; exact h.ln, fun z hz => ?_, ?_, fun z hz hd => ?_, fun z hz => List.mem_append_left _ (h.st z hz), fun z hz => ?_, fun z hz hq => ?_⟩
  · rcases List.mem_append.1 hz with hz | hz
    · exact h.inb z hz
    · exact outsF_in (hY z hz)
  · have := h.ct
    rw [hcnt, List.length_append]
    omega
  · rcases List.mem_append.1 hz with hz | hz
    · exact h.snd z hz hd
    · exact h.snd y hyT (.step hyb (h3 (fun e => by rw [e] at hz; cases hz)) (hY _ hz) hd)
  · have e : (T ++ Y).take (k + 1) = T.take k ++ [(y : Int)] := by rw [List.take_append_of_le_length (by omega), take_sc hk, hy]
    rw [hset, e, List.mem_append, List.mem_singleton, ← h.sn z hz]
    by_cases q : z = y
    · rw [if_pos q]; exact iff_of_true rfl (.inr (by omega))
    · rw [if_neg q]; exact (or_iff_left fun e => q (by omega)).symm
  · rw [hset] at hq
    by_cases q : z = y
    · subst q
      exact ⟨h1, fun w z' hz' => List.mem_append_right _ (h2 w z' hz')⟩
    · rw [if_neg q] at hq
      obtain ⟨c1, c2⟩ := h.cl z hz hq
      exact ⟨c1, fun w z' hz' => List.mem_append_left _ (c2 w z' hz')⟩
theorem BfP.push (h : BfP bs r n T xs k) (hk : k < T.length) (hy : T.getD k 0 = (y : Int)) (hyb : y < bs.length) (hs : xs.getD y false = false) (h0 : wl (bs.getD y bk0) r (bs.getD y bk0).ins = 0) : BfP bs r n (T ++ outsF bs y) (xs.set y true) (k + 1) :=
  h.next hk hy hyb hs _ (fun _ h => h) (outsF_len _ _) (by rw [h0]; decide) (fun _ _ h => h) (fun _ => h0)
theorem BfP.stop (h : BfP bs r n T xs k) (hk : k < T.length) (hy : T.getD k 0 = (y : Int)) (hyb : y < bs.length) (hs : xs.getD y false = false) (h1 : wl (bs.getD y bk0) r (bs.getD y bk0).ins ≠ 1) (h0 : wl (bs.getD y bk0) r (bs.getD y bk0).ins ≠ 0) : BfP bs r n T (xs.set y true) (k + 1) := by
  have := h.next hk hy hyb hs [] (fun _ h => by cases h) (by simp) h1 (fun e => absurd e h0) (fun e => absurd rfl e)
  rw [List.append_nil] at this
  exact this
theorem BfP.found (h : BfP bs r n T xs k) (hk : k < T.length) (hy : T.getD k 0 = (y : Int)) (hyb : y < bs.length) (h1 : wl (bs.getD y bk0) r (bs.getD y bk0).ins = 1) : ∃ s : Nat, (s : Int) ∈ outsF bs n ∧ DL bs r s := h.snd y (hy ▸ getD_memY hk) (.gen hyb h1)
theorem BfP.fin (h : BfP bs r n T xs k) (hk : T.length ≤ k) : ¬∃ s : Nat, (s : Int) ∈ outsF bs n ∧ DL bs r s := by
  have key : ∀ b, DL bs r b → (b : Int) ∈ T → False := fun b hd => by
    induction hd with
    | gen hb h1 => intro hT; exact (h.cl _ hb ((h.sn _ hb).2 (by rw [List.take_of_length_le hk]; exact hT))).1 h1
    | step hb h0 ho _ ih => intro hT; exact ih ((h.cl _ hb ((h.sn _ hb).2 (by rw [List.take_of_length_le hk]; exact hT))).2 h0 _ ho)
  rintro ⟨s, ho, hd⟩
  exact key s hd (h.st _ ho)
end
theorem lv_a {bs : List Bk} {r : Int} {n kf : Nat} (h : 0 < wl (bs.getD n bk0) r ((bs.getD n bk0).ins.drop kf)) : (wl (bs.getD n bk0) r ((bs.getD n bk0).ins.drop kf) == 1) = true ↔ LvP bs r n kf := by
  unfold LvP
  rw [beq_iff_eq]
  exact ⟨.inl, fun q => q.elim id fun q => by have := q.1; omega⟩
theorem lv_0 {b : Bk} {r : Int} {is : List Inn} (h : ¬0 < wl b r is) : wl b r is = 0 := by
  rcases wl_val b r is with q | q | q <;> omega
theorem lv_c {bs : List Bk} {r : Int} {n kf : Nat} (h : wl (bs.getD n bk0) r ((bs.getD n bk0).ins.drop kf) = 0) (hn : ¬∃ s : Nat, (s : Int) ∈ outsF bs n ∧ DL bs r s) : ¬LvP bs r n kf := by
  unfold LvP
  rintro (q | ⟨_, q⟩)
  · rw [h] at q; cases q
  · exact hn q
theorem r_within0 (b : Bk) (ia : Option Addr) (ic : Nat) (hbl2 : b.ins.length ≤ 1000) (hins : ∀ i ∈ b.ins, i.args.length ≤ 1000) (r : Int) (w : World) (hIL : InsL w ia b.ins) : Calls Try.prog 35 #[.agg #[.slice ia b.ins.length ic, .int .i64 b.en, .int .i64 b.a, .int .i64 b.t, .int .i64 b.el], .int .i64 0, .int .i64 r] w fun e w' => e = .returned (.int .i64 (wl b r b.ins)) ∧ Fr (fun _ => False) w w' := by
  have := r_within b ia ic hbl2 hins 0 0 rfl (Nat.zero_le _) r w hIL
  rw [List.drop_zero] at this
  exact this
set_option maxRecDepth 100000 in
set_option maxHeartbeats 1000000 in
theorem r_live (nm : ByteArray) (vd : Bool) (pr R : Int) (oa : Option Addr) (on oc : Nat) (ba : Option Addr) (bs : List Bk) (bc : Nat) (hnb : bs.length ≤ 300) (hins : ∀ b ∈ bs, b.ins.length ≤ 1000 ∧ ∀ i ∈ b.ins, i.args.length ≤ 1000) (n : Nat) (hn : n < bs.length) (fr : Int) (kf : Nat) (hfr : fr = (kf : Int)) (hkf : kf ≤ (bs.getD n bk0).ins.length) (r : Int) (w : World) (hbl : BkL w ba bs) : Calls Try.prog 19 #[.agg #[.string nm, .bool vd, .int .i64 pr, .int .i64 R, .slice oa on oc, .slice ba bs.length bc], .int .i64 (n : Int), .int .i64 fr, .int .i64 r] w fun e w' => ∃ x : Bool, e = .returned (.bool x) ∧ (x = true ↔ LvP bs r n kf) ∧ Fr (fun _ => False) w w' := by
  subst hfr
  have ff := Fr.refl (fun _ => False) w
  refine calls_tw Try.func19 rfl rfl (Nat.le_of_ble_eq_true rfl) ?_
  refine TW.sreg ?_
  have lw1 := ff.size
  refine O.boxR rfl rfl rfl rfl rfl (qxR_api_Proc w _ _ _ _ _ _ _ _ _ _) ?_
  rintro wa1 ⟨fa1, bx1⟩
  replace ff := ff.trans fa1
  refine WL.op rfl rfl rfl (Go.Proofs.Ytobibplilbchfaa.W.quiet_assign rfl rfl) ?_
  refine WL.nil ?_
  refine TW.sreg ?_
  refine WL.op rfl rfl rfl (Go.Proofs.Ytobibplilbchfaa.W.quiet_field rfl rfl (fun W => (qa_api_Proc_5 W _ _))) ?_
  refine WL.ld rfl rfl rfl rfl rfl (ql_s_api_Block _ _ _ _ _ (bx1.cell (j := 5) rfl)) ?_
  obtain ⟨gb, ob, rfl, ⟨ia, ic, c0, cI⟩, c1, c2, c3, c4⟩ := (hbl.fr ff) n hn
  refine WL.op rfl rfl rfl (Go.Proofs.Ytobibplilbchfaa.W.quiet_move rfl rfl) ?_
  refine O.ixa rfl rfl rfl rfl rfl rfl (qi_s_api_Block _ _ _ _ _ _ (by omega)) ?_
  refine WL.ld rfl rfl rfl rfl rfl (ql_api_Block _ _ _ _ _ _ _ _ c0 c1 c2 c3 c4) ?_
  refine WL.op rfl rfl rfl (Go.Proofs.Ytobibplilbchfaa.W.quiet_move rfl rfl) ?_
  refine WL.op rfl rfl rfl (Go.Proofs.Ytobibplilbchfaa.W.quiet_move rfl rfl) ?_
  refine WL.call (hr := r_within (bs.getD n bk0) ia ic (hins _ (getD_memB hn)).1 (hins _ (getD_memB hn)).2 _ kf rfl hkf r _ cI) rfl rfl rfl rfl rfl (fun W => qk_rushlightref16_within W _) ?_
  rintro e w1 ⟨rfl, f1⟩
  refine ⟨_, rfl, ?_⟩
  replace bx1 := bx1.fr f1 id
  replace ff := ff.trans f1
  refine WL.op rfl rfl rfl (Go.Proofs.Ytobibplilbchfaa.W.quiet_assign rfl rfl) ?_
  refine WL.nil ?_
  refine TW.seq ?_
  refine TW.sreg ?_
  refine WL.op rfl rfl rfl (Go.Proofs.Ytobibplilbchfaa.W.quiet_move rfl rfl) ?_
  refine WL.op rfl rfl rfl (Go.Proofs.Ytobibplilbchfaa.W.quiet_bin rfl rfl rfl (fun W => qb_gtr_int W _ _ _ _)) ?_
  refine O.split (fun hw0 => ?_) (fun hw0 => ?_)
  · skip
    refine WL.nil ?_
    refine TW.cond rfl (fun _ => ?_) (fun hb => by cases hb)
    refine TW.sreg ?_
    refine WL.op rfl rfl rfl (Go.Proofs.Ytobibplilbchfaa.W.quiet_move rfl rfl) ?_
    refine WL.op rfl rfl rfl (Go.Proofs.Ytobibplilbchfaa.W.quiet_bin rfl rfl rfl (fun W => qb_eql_int W _ _ _ _)) ?_
    refine WL.op rfl rfl rfl (Go.Proofs.Ytobibplilbchfaa.W.quiet_assign rfl rfl) ?_
    refine WL.nil ?_
    refine TW.rt ?_
    refine Xw.thn (by simp) ?_
    refine bodyw_ret rfl rfl ?_
    exact ⟨_, rfl, lv_a (of_decide_eq_true hw0), ff⟩
  · skip
    have hz0 := lv_0 (of_decide_eq_false hw0)
    refine WL.nil ?_
    refine TW.cond rfl (fun hb => by cases hb) (fun _ => ?_)
    refine TW.skip ?_
    refine TW.sreg ?_
    refine WL.op rfl rfl rfl (Go.Proofs.Ytobibplilbchfaa.W.quiet_field rfl rfl (fun W => (qa_api_Proc_5 W _ _))) ?_
    refine WL.ld rfl rfl rfl rfl rfl (ql_s_api_Block _ _ _ _ _ (bx1.cell (j := 5) rfl)) ?_
    refine O.len rfl rfl rfl rfl rfl (qn_s_api_Block _ _ _ _) ?_
    have lt2_bx1 := bx1.lt
    have lw2 := ff.size
    refine O.mkR rfl rfl rfl rfl rfl rfl (mk_b bs.length (by omega) _) ?_
    rintro wa2 ⟨fa2, bx2⟩
    replace bx1 := bx1.fr fa2 id
    replace ff := ff.trans fa2
    have hS := bools_made (B := w1.heap.size) bx2 (Nat.le_refl _) (by omega)
    have hgb := bx2.lt
    have hgw := bx1.lt
    refine WL.op rfl rfl rfl (Go.Proofs.Ytobibplilbchfaa.W.quiet_assign rfl rfl) ?_
    refine WL.nil ?_
    refine TW.sreg ?_
    refine WL.ld rfl rfl rfl rfl rfl (qlB_api_Proc _ _ _ _ _ _ _ _ _ _ _ _ _ bx1) ?_
    refine WL.op rfl rfl rfl (Go.Proofs.Ytobibplilbchfaa.W.quiet_move rfl rfl) ?_
    refine WL.call (hr := r_outs nm vd pr R oa on oc _ bs bc n hn _ (hbl.fr ff)) rfl rfl rfl rfl rfl (fun W => qk_rushlightref16_Outs W _) ?_
    rintro e w2 ⟨v0, rfl, hV, f2⟩
    refine ⟨_, rfl, ?_⟩
    replace bx1 := bx1.fr f2 id
    replace hS := hS.fr f2 (fun _ _ => id)
    replace ff := ff.trans f2
    have hz := f2.size
    refine WL.op rfl rfl rfl (Go.Proofs.Ytobibplilbchfaa.W.quiet_assign rfl rfl) ?_
    refine WL.nil ?_
    refine TW.seq ?_
    refine TW.sreg ?_
    refine WL.op rfl rfl rfl (Go.Proofs.Ytobibplilbchfaa.W.quiet_assign rfl rfl) ?_
    refine WL.nil ?_
    refine TW.block ?_
    refine O.loopG (n := (2 * bs.length + 2)) (fun a _ => (intOf (a.tmps.getD 12 undef)).toNat) (fun j a W => ∃ (v : Value) (T : List Int) (xs : List Bool), Kn Try.f19.ntmps [(3, .int .i64 r), (4, .pointer (some ⟨w.heap.size, 0, none⟩)), (10, .slice (some ⟨w1.heap.size, 0, none⟩) bs.length bs.length), (11, v), (12, .int .i64 (j : Int))] a ∧ Fr (fun _ => False) w W ∧ Bx W w.heap.size #[.string nm, .bool vd, .int .i64 pr, .int .i64 R, .slice oa on oc, .slice (some ⟨gb, ob, none⟩) bs.length bc] 25 ∧ Bools w1.heap.size W (.slice (some ⟨w1.heap.size, 0, none⟩) bs.length bs.length) xs ∧ Ints wa2.heap.size W v T ∧ wa2.heap.size ≤ W.heap.size ∧ BfP bs r n T xs j) (fun j a W h => by obtain ⟨_, _, _, h⟩ := h; exact O.slotv h.1 rfl) 0 (Nat.zero_le _) (fun a k => ⟨_, _, _, (by (repeat (refine Kn.cons k rfl ?_)); exact k.base), ff, bx1, hS, hV, hz, BfP.start bs r n⟩) ?_
    rintro j a wl1 hj ⟨v, T, xs, k, ff, bx1, hS, hV, hz, hBf⟩
    refine TW.app (s := [(3, .int .i64 r), (4, .pointer (some ⟨w.heap.size, 0, none⟩)), (10, .slice (some ⟨w1.heap.size, 0, none⟩) bs.length bs.length), (11, v), (12, .int .i64 (j : Int))]) ?_ k
    obtain ⟨ta, tc, rfl⟩ := Row.form hV
    have hTl := hBf.tl
    refine TW.seq ?_
    refine TW.sreg ?_
    refine WL.op rfl rfl rfl (Go.Proofs.Ytobibplilbchfaa.W.quiet_move rfl rfl) ?_
    refine WL.op rfl rfl rfl (Go.Proofs.Ytobibplilbchfaa.W.quiet_move rfl rfl) ?_
    refine O.len rfl rfl rfl rfl rfl (qn_s_int _ _ _ _) ?_
    refine WL.op rfl rfl rfl (Go.Proofs.Ytobibplilbchfaa.W.quiet_bin rfl rfl rfl (fun W => qb_lss_int W _ _ _ _)) ?_
    refine O.split (fun hbj => ?_) (fun hbj => ?_)
    · skip
      have hj2 : j < T.length := by have := of_decide_eq_true hbj; omega
      obtain ⟨y, hy, hyb⟩ := hBf.get hj2
      obtain ⟨_, _, e2, hat⟩ := hV.at
      cases e2
      obtain ⟨gt, ot, rfl, hc⟩ := hat j hj2
      rw [hy] at hc
      refine WL.nil ?_
      refine TW.cond rfl (fun _ => ?_) (fun hb => by cases hb)
      refine TW.skip ?_
      refine TW.seq ?_
      refine TW.block ?_
      refine TW.sreg ?_
      refine WL.op rfl rfl rfl (Go.Proofs.Ytobibplilbchfaa.W.quiet_move rfl rfl) ?_
      refine WL.op rfl rfl rfl (Go.Proofs.Ytobibplilbchfaa.W.quiet_move rfl rfl) ?_
      refine O.ixa rfl rfl rfl rfl rfl rfl (qi_s_int _ _ _ _ _ _ (by omega)) ?_
      refine WL.ld rfl rfl rfl rfl rfl (ql_int _ _ _ hc) ?_
      refine WL.op rfl rfl rfl (Go.Proofs.Ytobibplilbchfaa.W.quiet_assign rfl rfl) ?_
      refine WL.nil ?_
      refine TW.seq ?_
      refine TW.sreg ?_
      refine WL.op rfl rfl rfl (Go.Proofs.Ytobibplilbchfaa.W.quiet_move rfl rfl) ?_
      refine WL.op rfl rfl rfl (Go.Proofs.Ytobibplilbchfaa.W.quiet_move rfl rfl) ?_
      refine O.ixa rfl rfl rfl rfl rfl rfl (qi_s_bool _ _ _ _ _ _ (by omega)) ?_
      refine WL.ld rfl rfl rfl rfl rfl (ql_bool _ _ _ (hS.cell (k := y) (by rw [hBf.ln]; exact hyb))) ?_
      refine O.split (fun hs => ?_) (fun hs => ?_)
      · skip
        refine WL.nil ?_
        refine TW.cond rfl (fun _ => ?_) (fun hb => by cases hb)
        refine TW.exit ?_
        refine Xw.thn (by simp) ?_
        refine Xw.hit ?_
        refine Xw.nrm ?_
        refine TW.reg ?_
        refine WL.op rfl rfl rfl (Go.Proofs.Ytobibplilbchfaa.W.quiet_move rfl rfl) ?_
        refine WL.op rfl rfl rfl (Go.Proofs.Ytobibplilbchfaa.W.quiet_bin rfl rfl rfl (fun W => qb_add_int W _ _ _ _ (by omega) (by omega))) ?_
        refine WL.op rfl rfl rfl (Go.Proofs.Ytobibplilbchfaa.W.quiet_assign rfl rfl) ?_
        refine WL.end ?_
        refine Xw.any (fun a k => ?_)
        exact ⟨j + 1, by omega, by omega, _, T, xs, (by (repeat (refine Kn.cons k rfl ?_)); exact k.base), ff, bx1, hS, hV, hz, hBf.skip hj2 hy hyb hs⟩
      · skip
        refine WL.nil ?_
        refine TW.cond rfl (fun hb => by cases hb) (fun _ => ?_)
        refine TW.skip ?_
        refine TW.sreg ?_
        refine WL.op rfl rfl rfl (Go.Proofs.Ytobibplilbchfaa.W.quiet_move rfl rfl) ?_
        refine WL.op rfl rfl rfl (Go.Proofs.Ytobibplilbchfaa.W.quiet_move rfl rfl) ?_
        refine O.ixa rfl rfl rfl rfl rfl rfl (qi_s_bool _ _ _ _ _ _ (by omega)) ?_
        refine O.storeR rfl rfl rfl rfl rfl (hS.store (k := y) (by rw [hBf.ln]; exact hyb) true) ?_
        rintro w5 ⟨hS2, hFs⟩
        replace bx1 := bx1.fr hFs (fun e => by omega)
        replace hV := Ints.fr hV hFs (fun q h1 e => by have := (Row.lt hV q h1).1; omega)
        replace hz := Nat.le_trans hz hFs.size
        replace ff := ff.trans' hFs (fun q hq e => by omega)
        clear hS
        have hS := hS2
        clear hS2
        refine WL.nil ?_
        refine TW.sreg ?_
        refine WL.op rfl rfl rfl (Go.Proofs.Ytobibplilbchfaa.W.quiet_field rfl rfl (fun W => (qa_api_Proc_5 W _ _))) ?_
        refine WL.ld rfl rfl rfl rfl rfl (ql_s_api_Block _ _ _ _ _ (bx1.cell (j := 5) rfl)) ?_
        obtain ⟨_, _, e7, ⟨ia, ic, c0, cI⟩, c1, c2, c3, c4⟩ := (hbl.fr ff) y hyb
        cases e7
        refine WL.op rfl rfl rfl (Go.Proofs.Ytobibplilbchfaa.W.quiet_move rfl rfl) ?_
        refine O.ixa rfl rfl rfl rfl rfl rfl (qi_s_api_Block _ _ _ _ _ _ (by omega)) ?_
        refine WL.ld rfl rfl rfl rfl rfl (ql_api_Block _ _ _ _ _ _ _ _ c0 c1 c2 c3 c4) ?_
        refine WL.op rfl rfl rfl (Go.Proofs.Ytobibplilbchfaa.W.quiet_move rfl rfl) ?_
        refine WL.call (hr := r_within0 (bs.getD y bk0) ia ic (hins _ (getD_memB hyb)).1 (hins _ (getD_memB hyb)).2 r _ cI) rfl rfl rfl rfl rfl (fun W => qk_rushlightref16_within W _) ?_
        rintro e w6 ⟨rfl, f6⟩
        refine ⟨_, rfl, ?_⟩
        replace bx1 := bx1.fr f6 id
        replace hS := hS.fr f6 (fun _ _ => id)
        replace hV := Ints.fr hV f6 (fun _ _ => id)
        replace hz := Nat.le_trans hz f6.size
        replace ff := ff.trans f6
        refine WL.op rfl rfl rfl (Go.Proofs.Ytobibplilbchfaa.W.quiet_assign rfl rfl) ?_
        refine WL.nil ?_
        refine TW.seq ?_
        refine TW.sreg ?_
        refine WL.op rfl rfl rfl (Go.Proofs.Ytobibplilbchfaa.W.quiet_move rfl rfl) ?_
        refine WL.op rfl rfl rfl (Go.Proofs.Ytobibplilbchfaa.W.quiet_bin rfl rfl rfl (fun W => qb_eql_int W _ _ _ _)) ?_
        refine O.split (fun h1 => ?_) (fun h1 => ?_)
        · skip
          refine WL.nil ?_
          refine TW.cond rfl (fun _ => ?_) (fun hb => by cases hb)
          refine TW.sreg ?_
          refine WL.op rfl rfl rfl (Go.Proofs.Ytobibplilbchfaa.W.quiet_assign rfl rfl) ?_
          refine WL.nil ?_
          refine TW.rt ?_
          refine Xw.thn (by simp) ?_
          refine Xw.rblk ?_
          refine Xw.thn (by simp) ?_
          refine Xw.thn (by simp) ?_
          refine Xw.rblk ?_
          refine Xw.thn (by simp) ?_
          refine bodyw_ret rfl rfl ?_
          exact ⟨_, rfl, iff_of_true rfl (.inr ⟨hz0, hBf.found hj2 hy hyb (by simpa using h1)⟩), ff⟩
        · skip
          refine WL.nil ?_
          refine TW.cond rfl (fun hb => by cases hb) (fun _ => ?_)
          refine TW.skip ?_
          refine TW.sreg ?_
          refine WL.op rfl rfl rfl (Go.Proofs.Ytobibplilbchfaa.W.quiet_move rfl rfl) ?_
          refine WL.op rfl rfl rfl (Go.Proofs.Ytobibplilbchfaa.W.quiet_bin rfl rfl rfl (fun W => qb_eql_int W _ _ _ _)) ?_
          refine O.split (fun h0 => ?_) (fun h0 => ?_)
          · skip
            refine WL.nil ?_
            refine TW.cond rfl (fun _ => ?_) (fun hb => by cases hb)
            refine TW.sreg ?_
            refine WL.ld rfl rfl rfl rfl rfl (qlB_api_Proc _ _ _ _ _ _ _ _ _ _ _ _ _ bx1) ?_
            refine WL.op rfl rfl rfl (Go.Proofs.Ytobibplilbchfaa.W.quiet_move rfl rfl) ?_
            have zV := fun (q : Nat) hq => (Row.lt hV q hq).2
            have hol := outsF_len bs y
            refine WL.call (hr := r_outs nm vd pr R oa on oc _ bs bc y hyb _ (hbl.fr ff)) rfl rfl rfl rfl rfl (fun W => qk_rushlightref16_Outs W _) ?_
            rintro e w7 ⟨v2, rfl, hO, f7⟩
            refine ⟨_, rfl, ?_⟩
            replace bx1 := bx1.fr f7 id
            replace hS := hS.fr f7 (fun _ _ => id)
            replace hV := Ints.fr hV f7 (fun _ _ => id)
            replace hz := Nat.le_trans hz f7.size
            replace ff := ff.trans f7
            obtain ⟨ol, oc2, rfl⟩ := Row.form hO
            have hap : ∀ q, (Value.slice (some ⟨gt, ot, none⟩) T.length tc).ownBlock = some q → (Value.slice ol (outsF bs y).length oc2).ownBlock ≠ some q := fun q h1 h2 => by have := zV q h1; have := (Row.lt hO q h2).1; omega
            refine WL.op rfl rfl rfl (Go.Proofs.Ytobibplilbchfaa.W.quiet_assign rfl rfl) ?_
            refine WL.nil ?_
            refine TW.sreg ?_
            refine WL.op rfl rfl rfl (Go.Proofs.Ytobibplilbchfaa.W.quiet_assign rfl rfl) ?_
            refine WL.nil ?_
            refine TW.block ?_
            refine O.loopG (n := (outsF bs y).length) (fun a _ => (intOf (a.tmps.getD 16 undef)).toNat) (fun i a W => ∃ (v3 : Value), Kn Try.f19.ntmps [(3, .int .i64 r), (4, .pointer (some ⟨w.heap.size, 0, none⟩)), (10, .slice (some ⟨w1.heap.size, 0, none⟩) bs.length bs.length), (11, v3), (12, .int .i64 (j : Int)), (15, .slice ol (outsF bs y).length oc2), (16, .int .i64 (i : Int))] a ∧ Fr (fun _ => False) w W ∧ Bx W w.heap.size #[.string nm, .bool vd, .int .i64 pr, .int .i64 R, .slice oa on oc, .slice (some ⟨gb, ob, none⟩) bs.length bc] 25 ∧ Bools w1.heap.size W (.slice (some ⟨w1.heap.size, 0, none⟩) bs.length bs.length) (xs.set y true) ∧ Ints wa2.heap.size W v3 (T ++ (outsF bs y).take i) ∧ wa2.heap.size ≤ W.heap.size ∧ Ints w6.heap.size W (.slice ol (outsF bs y).length oc2) (outsF bs y) ∧ (∀ q, v3.ownBlock = some q → (Value.slice ol (outsF bs y).length oc2).ownBlock ≠ some q)) (fun i a W h => by obtain ⟨_, h⟩ := h; exact O.slotv h.1 rfl) 0 (Nat.zero_le _) (fun a k => ⟨_, (by (repeat (refine Kn.cons k rfl ?_)); exact k.base), ff, bx1, hS, by rw [List.take_zero, List.append_nil]; exact hV, hz, hO, hap⟩) ?_
            rintro i a wl4 hj ⟨v3, k, ff, bx1, hS, hV, hz, hO, hap⟩
            refine TW.app (s := [(3, .int .i64 r), (4, .pointer (some ⟨w.heap.size, 0, none⟩)), (10, .slice (some ⟨w1.heap.size, 0, none⟩) bs.length bs.length), (11, v3), (12, .int .i64 (j : Int)), (15, .slice ol (outsF bs y).length oc2), (16, .int .i64 (i : Int))]) ?_ k
            refine TW.seq ?_
            refine TW.sreg ?_
            refine WL.op rfl rfl rfl (Go.Proofs.Ytobibplilbchfaa.W.quiet_move rfl rfl) ?_
            refine WL.op rfl rfl rfl (Go.Proofs.Ytobibplilbchfaa.W.quiet_move rfl rfl) ?_
            refine O.len rfl rfl rfl rfl rfl (qn_s_int _ _ _ _) ?_
            refine WL.op rfl rfl rfl (Go.Proofs.Ytobibplilbchfaa.W.quiet_bin rfl rfl rfl (fun W => qb_lss_int W _ _ _ _)) ?_
            refine O.split (fun hbi => ?_) (fun hbi => ?_)
            · skip
              have hi2 : i < (outsF bs y).length := by have := of_decide_eq_true hbi; omega
              obtain ⟨_, _, e3, hat2⟩ := hO.at
              cases e3
              obtain ⟨go, oo, rfl, hco⟩ := hat2 i hi2
              refine WL.nil ?_
              refine TW.cond rfl (fun _ => ?_) (fun hb => by cases hb)
              refine TW.skip ?_
              refine TW.seq ?_
              refine TW.block ?_
              refine TW.reg ?_
              refine WL.op rfl rfl rfl (Go.Proofs.Ytobibplilbchfaa.W.quiet_move rfl rfl) ?_
              refine WL.op rfl rfl rfl (Go.Proofs.Ytobibplilbchfaa.W.quiet_move rfl rfl) ?_
              refine WL.op rfl rfl rfl (Go.Proofs.Ytobibplilbchfaa.W.quiet_move rfl rfl) ?_
              refine O.ixa rfl rfl rfl rfl rfl rfl (qi_s_int _ _ _ _ _ _ (by omega)) ?_
              refine WL.ld rfl rfl rfl rfl rfl (ql_int _ _ _ hco) ?_
              refine O.bsl rfl rfl rfl rfl rfl (qv_s_int_1 _ _) ?_
              have zO := fun (q : Nat) hq => (Row.lt hO q hq).2
              refine WL.append rfl rfl rfl rfl rfl rfl (Ints.app ((outsF bs y).getD i 0) _ hV hz (by rw [List.length_append, List.length_take]; omega)) ?_
              rintro v4 wB ⟨hV2, hF2, hown⟩
              replace bx1 := bx1.fr hF2 (fun e => by have := (Row.lt hV _ e).1; omega)
              replace hS := Bools.fr hS hF2 (fun q h1 e => by cases h1; have z : wa2.heap.size ≤ w1.heap.size := (Row.lt hV _ e).1; omega)
              have hO2 := Ints.fr hO hF2 (fun q h1 e => hap q e h1)
              replace ff := ff.trans' hF2 (fun q hq e => by have := (Row.lt hV q e).1; omega)
              have hap2 : ∀ q, v4.ownBlock = some q → (Value.slice (some ⟨go, oo, none⟩) (outsF bs y).length oc2).ownBlock ≠ some q := fun q h1 h2 => (hown q h1).elim (fun z => hap q z h2) (fun z => by have := zO q h2; omega)
              replace hz := Nat.le_trans hz hF2.size
              rw [List.append_assoc, ← take_sc hi2] at hV2
              -- world wB
              refine WL.op rfl rfl rfl (Go.Proofs.Ytobibplilbchfaa.W.quiet_assign rfl rfl) ?_
              refine WL.end ?_
              refine Xw.nblk ?_
              refine Xw.nrm ?_
              refine TW.reg ?_
              refine WL.op rfl rfl rfl (Go.Proofs.Ytobibplilbchfaa.W.quiet_move rfl rfl) ?_
              refine WL.op rfl rfl rfl (Go.Proofs.Ytobibplilbchfaa.W.quiet_bin rfl rfl rfl (fun W => qb_add_int W _ _ _ _ (by omega) (by omega))) ?_
              refine WL.op rfl rfl rfl (Go.Proofs.Ytobibplilbchfaa.W.quiet_assign rfl rfl) ?_
              refine WL.end ?_
              refine Xw.any (fun a k => ?_)
              exact ⟨i + 1, by omega, by omega, v4, (by (repeat (refine Kn.cons k rfl ?_)); exact k.base), ff, bx1, hS, hV2, hz, hO2, hap2⟩
            · skip
              have hje : i = (outsF bs y).length := by have := of_decide_eq_false hbi; omega
              subst hje
              rw [List.take_length] at hV
              refine WL.nil ?_
              refine TW.cond rfl (fun hb => by cases hb) (fun _ => ?_)
              refine TW.exit ?_
              refine Xw.thn (by simp) ?_
              refine Xw.thn (by simp) ?_
              refine Xw.hit ?_
              refine Xw.nblk ?_
              refine Xw.nrm ?_
              refine TW.reg ?_
              refine WL.op rfl rfl rfl (Go.Proofs.Ytobibplilbchfaa.W.quiet_move rfl rfl) ?_
              refine WL.op rfl rfl rfl (Go.Proofs.Ytobibplilbchfaa.W.quiet_bin rfl rfl rfl (fun W => qb_add_int W _ _ _ _ (by omega) (by omega))) ?_
              refine WL.op rfl rfl rfl (Go.Proofs.Ytobibplilbchfaa.W.quiet_assign rfl rfl) ?_
              refine WL.end ?_
              refine Xw.any (fun a k => ?_)
              exact ⟨j + 1, by omega, by omega, _, _, _, (by (repeat (refine Kn.cons k rfl ?_)); exact k.base), ff, bx1, hS, hV, hz, hBf.push hj2 hy hyb hs (by simpa using h0)⟩
          · skip
            refine WL.nil ?_
            refine TW.cond rfl (fun hb => by cases hb) (fun _ => ?_)
            refine TW.skipx ?_
            refine Xw.nblk ?_
            refine Xw.nrm ?_
            refine TW.reg ?_
            refine WL.op rfl rfl rfl (Go.Proofs.Ytobibplilbchfaa.W.quiet_move rfl rfl) ?_
            refine WL.op rfl rfl rfl (Go.Proofs.Ytobibplilbchfaa.W.quiet_bin rfl rfl rfl (fun W => qb_add_int W _ _ _ _ (by omega) (by omega))) ?_
            refine WL.op rfl rfl rfl (Go.Proofs.Ytobibplilbchfaa.W.quiet_assign rfl rfl) ?_
            refine WL.end ?_
            refine Xw.any (fun a k => ?_)
            exact ⟨j + 1, by omega, by omega, _, _, _, (by (repeat (refine Kn.cons k rfl ?_)); exact k.base), ff, bx1, hS, hV, hz, hBf.stop hj2 hy hyb hs (by simpa using h1) (by simpa using h0)⟩
    · skip
      refine WL.nil ?_
      refine TW.cond rfl (fun hb => by cases hb) (fun _ => ?_)
      refine TW.exit ?_
      refine Xw.thn (by simp) ?_
      refine Xw.thn (by simp) ?_
      refine Xw.hit ?_
      refine Xw.nrm ?_
      refine TW.sreg ?_
      refine WL.op rfl rfl rfl (Go.Proofs.Ytobibplilbchfaa.W.quiet_assign rfl rfl) ?_
      refine WL.nil ?_
      refine TW.rt ?_
      refine bodyw_ret rfl rfl ?_
      have hge : T.length ≤ j := by have := of_decide_eq_false hbj; omega
      exact ⟨false, rfl, iff_of_false (by decide) (lv_c hz0 (hBf.fin hge)), ff⟩
end Go.Proofs.Ytobibplilbchfaa
