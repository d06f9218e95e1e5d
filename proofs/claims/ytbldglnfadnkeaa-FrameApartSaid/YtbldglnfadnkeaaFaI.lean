/-
  Frames (layer 25): the walk of FrameLays.
-/
import Derived.Test.YtbldglnfadnkeaaFaH
namespace Go.Proofs.Ytbldglnfadnkeaa
open Go.RowKit
set_option linter.unusedVariables false
set_option linter.unusedSimpArgs false
theorem qk_rushlightlaw25_few (w : World) (vs : Array Value) : (callFunc 5 vs).run Try.prog w = .ok (.enter 5 vs) w := by simp [go_sem]
theorem qk_rushlightlaw25_awake (w : World) (vs : Array Value) : (callFunc 6 vs).run Try.prog w = .ok (.enter 6 vs) w := by simp [go_sem]
theorem qk_rushlightref25_Lay (w : World) (vs : Array Value) : (callFunc 8 vs).run Try.prog w = .ok (.enter 8 vs) w := by simp [go_sem]
theorem qk_rushlightlaw25_same (w : World) (vs : Array Value) : (callFunc 9 vs).run Try.prog w = .ok (.enter 9 vs) w := by simp [go_sem]
/-- What a frame holds: size, saved, slots, objects, error. -/
def LR (s : List Int) (n : Nat) (R k : Int) (sv : List Int) : Int × List Int × Int × List Int × Int :=
  if k < 0 ∨ (n : Int) ≠ R then (0, [], 0, [], 1)
  else if 2000 < k ∨ 2000 < fstI sv k + offs s s.length then (0, [], 0, [], 2)
  else (fstI sv k + offs s s.length, sv, 4 + 4 * (sv.length : Int), obsL s (fstI sv k) s.length, 0)
def FrG (w w' : World) (e : Ending) (sz : Int) (sv : List Int) (sl : Int) (ob : List Int) (er : Int) : Prop := ∃ a c b d, e = .returned (.tuple #[.agg #[.int .i64 sz, .slice a sv.length c, .int .i64 sl, .slice b ob.length d], .int .i64 er]) ∧ IntsAt w' a sv ∧ IntsAt w' b ob ∧ Fr (fun _ => False) w w'
theorem ints_none (w : World) : IntsAt w none [] := fun k hk => by simp at hk
theorem lay_g {s : List Int} {n : Nat} {R k : Int} {sv : List Int} {w w' : World} {e : Ending} (h : LayP s n R k sv w e w') {sz sl er : Int} {v o : List Int} (hr : LR s n R k sv = (sz, v, sl, o, er)) : FrG w w' e sz v sl o er := by
  unfold LayP at h
  unfold LR at hr
  by_cases h1 : k < 0 ∨ (n : Int) ≠ R
  · rw [if_pos h1] at h hr
    simp only [Prod.mk.injEq] at hr
    obtain ⟨rfl, rfl, rfl, rfl, rfl⟩ := hr
    exact ⟨none, 0, none, 0, h.1, ints_none _, ints_none _, h.2⟩
  · rw [if_neg h1] at h hr
    by_cases h2 : 2000 < k ∨ 2000 < fstI sv k + offs s s.length
    · rw [if_pos h2] at h hr
      simp only [Prod.mk.injEq] at hr
      obtain ⟨rfl, rfl, rfl, rfl, rfl⟩ := hr
      exact ⟨none, 0, none, 0, h.1, ints_none _, ints_none _, h.2⟩
    · rw [if_neg h2] at h hr
      simp only [Prod.mk.injEq] at hr
      obtain ⟨rfl, rfl, rfl, rfl, rfl⟩ := hr
      exact h
theorem lr_len {s : List Int} {n : Nat} {R k : Int} {sv : List Int} {sz sl er : Int} {v o : List Int} (hr : LR s n R k sv = (sz, v, sl, o, er)) (h1 : s.length ≤ 1000) (h2 : sv.length ≤ 1000) : v.length ≤ 1000 ∧ o.length ≤ 1000 := by
  unfold LR at hr
  split at hr
  · simp only [Prod.mk.injEq] at hr
    obtain ⟨rfl, rfl, rfl, rfl, rfl⟩ := hr
    simp
  · split at hr
    · simp only [Prod.mk.injEq] at hr
      obtain ⟨rfl, rfl, rfl, rfl, rfl⟩ := hr
      simp
    · simp only [Prod.mk.injEq] at hr
      obtain ⟨rfl, rfl, rfl, rfl, rfl⟩ := hr
      rw [obsL_len]
      exact ⟨h2, h1⟩
theorem Slm.slim {s : List Int} (h : Slm s) : Slim s := fun k hk => by
  have := h k hk
  omega
/-- Numbers in memory, in a block below a bound. -/
def IntsB (Z : Nat) (w : World) (a : Option Addr) (l : List Int) : Prop := ∀ k, k < l.length → ∃ g o, a = some ⟨g, o, none⟩ ∧ g < Z ∧ w.cell? ⟨g, o + k, none⟩ = some (.int .i64 (l.getD k 0))
theorem IntsB.fr {Z : Nat} {w w' : World} {a : Option Addr} {l : List Int} {F : Nat → Prop} (h : IntsB Z w a l) (f : Fr F w w') (hn : ∀ q, q < Z → ¬F q) : IntsB Z w' a l := fun k hk => by
  obtain ⟨g, o, e, hz, hc⟩ := h k hk
  exact ⟨g, o, e, hz, f.cell hc (hn g hz)⟩
theorem IntsB.at {Z : Nat} {w : World} {a : Option Addr} {l : List Int} (h : IntsB Z w a l) : IntsAt w a l := fun k hk => by
  obtain ⟨g, o, e, _, hc⟩ := h k hk
  exact ⟨g, o, e, hc⟩
theorem IntsAt.b {w : World} {a : Option Addr} {l : List Int} (h : IntsAt w a l) : IntsB w.heap.size w a l := fun k hk => by
  obtain ⟨g, o, e, hc⟩ := h k hk
  exact ⟨g, o, e, World.block_lt_of_cell? _ _ hc, hc⟩
set_option maxRecDepth 100000 in
theorem walk_lays (nm : ByteArray) (vd : Bool) (pr R kc : Int) (oa : Option Addr) (oc : Nat) (s : List Int) (qa : Option Addr) (qn qc : Nat) (ad : Option Addr) (c : Nat) (l : List (Int × Int)) (w : World) (hso : SlotsAt w oa s) (hse : SeatsAt w ad l) : Calls Try.prog 3 #[.agg #[.string nm, .bool vd, .int .i64 pr, .int .i64 R, .slice oa s.length oc, .slice qa qn qc], .slice ad l.length c, .int .i64 kc] w fun e w' => e = .returned (.bool true) ∧ Fr (fun _ => False) w w' := by
  have ff := Fr.refl (fun _ => False) w
  refine calls_tw Try.func3 rfl rfl (Nat.le_of_ble_eq_true rfl) ?_
  refine TW.sreg ?_
  have lw1 := ff.size
  refine O.boxR rfl rfl rfl rfl rfl (qxR_api_Proc w _ _ _ _ _ _ _ _ _ _) ?_
  rintro wa1 ⟨fa1, bx1⟩
  replace ff := ff.trans fa1
  refine WL.op rfl rfl rfl (Go.Proofs.Ytbldglnfadnkeaa.W.quiet_assign rfl rfl) ?_
  refine WL.nil ?_
  refine TW.seq ?_
  refine TW.sreg ?_
  refine WL.ld rfl rfl rfl rfl rfl (qlB_api_Proc _ _ _ _ _ _ _ _ _ _ _ _ _ bx1) ?_
  refine WL.op rfl rfl rfl (Go.Proofs.Ytbldglnfadnkeaa.W.quiet_move rfl rfl) ?_
  refine WL.call (hr := t_few nm vd pr R oa oc s qa qn qc ad c l _ (hso.fr ff) (hse.fr ff)) rfl rfl rfl rfl rfl (fun W => qk_rushlightlaw25_few W _) ?_
  rintro e w1 ⟨b1, rfl, hb1, f1⟩
  refine ⟨_, rfl, ?_⟩
  replace bx1 := bx1.fr f1 id
  replace ff := ff.trans f1
  cases b1
  · clear hb1
    refine WL.op rfl rfl rfl (Go.Proofs.Ytbldglnfadnkeaa.W.quiet_not rfl rfl) ?_
    refine O.split (fun hb => ?_) (fun hb => by exfalso; revert hb; first | (simp; done) | (simp; omega))
    refine WL.nil ?_
    refine TW.cond rfl (fun _ => ?_) (fun hb => by cases hb)
    refine TW.sreg ?_
    refine WL.call (hr := t_awake _) rfl rfl rfl rfl rfl (fun W => qk_rushlightlaw25_awake W _) ?_
    rintro e w2 ⟨rfl, f2⟩
    refine ⟨_, rfl, ?_⟩
    replace bx1 := bx1.fr f2 id
    replace ff := ff.trans f2
    refine WL.op rfl rfl rfl (Go.Proofs.Ytbldglnfadnkeaa.W.quiet_assign rfl rfl) ?_
    refine WL.nil ?_
    refine TW.rt ?_
    refine Xw.thn (by simp) ?_
    refine bodyw_ret rfl rfl ?_
    exact ⟨rfl, ff⟩
  · obtain ⟨hn1, hn2, hsl, hok⟩ := hb1 rfl
    have hgs := gvn_svd hok
    have hgl := gvn_le l
    obtain ⟨⟨sz, sv, sl, ob, er⟩, hr⟩ : ∃ r, LR s l.length R kc (gvn l) = r := ⟨_, rfl⟩
    have hr2 := hr
    rw [hgs] at hr2
    obtain ⟨hv1, hv2⟩ := lr_len hr (by omega) (by omega)
    refine WL.op rfl rfl rfl (Go.Proofs.Ytbldglnfadnkeaa.W.quiet_not rfl rfl) ?_
    refine O.split (fun hb => by exfalso; revert hb; first | (simp; done) | (simp; omega)) (fun hb => ?_)
    refine WL.nil ?_
    refine TW.cond rfl (fun hb => by cases hb) (fun _ => ?_)
    refine TW.skip ?_
    refine TW.sreg ?_
    refine WL.ld rfl rfl rfl rfl rfl (qlB_api_Proc _ _ _ _ _ _ _ _ _ _ _ _ _ bx1) ?_
    refine WL.op rfl rfl rfl (Go.Proofs.Ytbldglnfadnkeaa.W.quiet_move rfl rfl) ?_
    refine WL.op rfl rfl rfl (Go.Proofs.Ytbldglnfadnkeaa.W.quiet_move rfl rfl) ?_
    refine WL.call (hr := (t_lay nm vd pr R kc oa oc s qa qn qc ad c l (by omega) (by omega) hsl.slim _ (hso.fr ff) (hse.fr ff)).mono fun e w' q => lay_g q hr) rfl rfl rfl rfl rfl (fun W => qk_frame_Lay W _) ?_
    rintro e w3 ⟨a1, c1, a2, c2, rfl, hA, hB, f3⟩
    refine ⟨_, rfl, ?_⟩
    replace bx1 := bx1.fr f3 id
    replace ff := ff.trans f3
    replace hA := hA.b
    replace hB := hB.b
    refine WL.op rfl rfl rfl (Go.Proofs.Ytbldglnfadnkeaa.W.quiet_move rfl rfl) ?_
    refine O.ext rfl rfl rfl rfl rfl rfl ?_
    refine O.ext rfl rfl rfl rfl rfl rfl ?_
    have lt2_bx1 := bx1.lt
    have lw2 := ff.size
    refine O.allocR rfl rfl rfl rfl (qzR_api_Frame w3) ?_
    rintro wa2 ⟨fa2, bx2⟩
    replace bx1 := bx1.fr fa2 id
    replace hA := hA.fr fa2 (fun q h1 => id)
    replace hB := hB.fr fa2 (fun q h1 => id)
    replace ff := ff.trans fa2
    refine O.storeR rfl rfl rfl rfl rfl (qsA_api_Frame wa2 _ _ _ _ _ _ _ _ _ _ _ _ _ bx2) ?_
    rintro wa3 ⟨fa3, bx2x⟩
    replace bx1 := bx1.fr fa3 (fun e => by omega)
    replace hA := hA.fr fa3 (fun q h1 e => by omega)
    replace hB := hB.fr fa3 (fun q h1 e => by omega)
    replace ff := ff.trans' fa3 (fun q hq e => by omega)
    clear bx2
    have bx2 := bx2x
    clear bx2x
    refine WL.op rfl rfl rfl (Go.Proofs.Ytbldglnfadnkeaa.W.quiet_assign rfl rfl) ?_
    refine WL.nil ?_
    refine TW.sreg ?_
    refine WL.ld rfl rfl rfl rfl rfl (qlB_api_Proc _ _ _ _ _ _ _ _ _ _ _ _ _ bx1) ?_
    refine WL.op rfl rfl rfl (Go.Proofs.Ytbldglnfadnkeaa.W.quiet_move rfl rfl) ?_
    refine WL.op rfl rfl rfl (Go.Proofs.Ytbldglnfadnkeaa.W.quiet_move rfl rfl) ?_
    refine WL.call (hr := (r_lay nm vd pr R kc oa oc s qa qn qc ad c l (by omega) (by omega) hsl.slim _ (hso.fr ff) (hse.fr ff)).mono fun e w' q => lay_g q hr2) rfl rfl rfl rfl rfl (fun W => qk_rushlightref25_Lay W _) ?_
    rintro e w4 ⟨a3, c3, a4, c4, rfl, hC, hD, f4⟩
    refine ⟨_, rfl, ?_⟩
    replace bx1 := bx1.fr f4 id
    replace bx2 := bx2.fr f4 id
    replace hA := hA.fr f4 (fun q h1 => id)
    replace hB := hB.fr f4 (fun q h1 => id)
    replace ff := ff.trans f4
    replace hC := hC.b
    replace hD := hD.b
    refine WL.op rfl rfl rfl (Go.Proofs.Ytbldglnfadnkeaa.W.quiet_move rfl rfl) ?_
    refine O.ext rfl rfl rfl rfl rfl rfl ?_
    refine O.ext rfl rfl rfl rfl rfl rfl ?_
    have lt3_bx1 := bx1.lt
    have lt3_bx2 := bx2.lt
    have lw3 := ff.size
    refine O.allocR rfl rfl rfl rfl (qzR_api_Frame w4) ?_
    rintro wa4 ⟨fa4, bx3⟩
    replace bx1 := bx1.fr fa4 id
    replace bx2 := bx2.fr fa4 id
    replace hA := hA.fr fa4 (fun q h1 => id)
    replace hB := hB.fr fa4 (fun q h1 => id)
    replace hC := hC.fr fa4 (fun q h1 => id)
    replace hD := hD.fr fa4 (fun q h1 => id)
    replace ff := ff.trans fa4
    refine O.storeR rfl rfl rfl rfl rfl (qsA_api_Frame wa4 _ _ _ _ _ _ _ _ _ _ _ _ _ bx3) ?_
    rintro wa5 ⟨fa5, bx3x⟩
    replace bx1 := bx1.fr fa5 (fun e => by omega)
    replace bx2 := bx2.fr fa5 (fun e => by omega)
    replace hA := hA.fr fa5 (fun q h1 e => by omega)
    replace hB := hB.fr fa5 (fun q h1 e => by omega)
    replace hC := hC.fr fa5 (fun q h1 e => by omega)
    replace hD := hD.fr fa5 (fun q h1 e => by omega)
    replace ff := ff.trans' fa5 (fun q hq e => by omega)
    clear bx3
    have bx3 := bx3x
    clear bx3x
    refine WL.op rfl rfl rfl (Go.Proofs.Ytbldglnfadnkeaa.W.quiet_assign rfl rfl) ?_
    refine WL.nil ?_
    refine TW.sreg ?_
    refine WL.call (hr := t_awake _) rfl rfl rfl rfl rfl (fun W => qk_rushlightlaw25_awake W _) ?_
    rintro e w5 ⟨rfl, f5⟩
    refine ⟨_, rfl, ?_⟩
    replace bx1 := bx1.fr f5 id
    replace bx2 := bx2.fr f5 id
    replace bx3 := bx3.fr f5 id
    replace hA := hA.fr f5 (fun q h1 => id)
    replace hB := hB.fr f5 (fun q h1 => id)
    replace hC := hC.fr f5 (fun q h1 => id)
    replace hD := hD.fr f5 (fun q h1 => id)
    replace ff := ff.trans f5
    refine O.split (fun hb => ?_) (fun hb => by exfalso; revert hb; first | (simp; done) | (simp; omega))
    refine WL.op rfl rfl rfl (Go.Proofs.Ytbldglnfadnkeaa.W.quiet_move rfl rfl) ?_
    refine WL.op rfl rfl rfl (Go.Proofs.Ytbldglnfadnkeaa.W.quiet_move rfl rfl) ?_
    refine WL.op rfl rfl rfl (Go.Proofs.Ytbldglnfadnkeaa.W.quiet_move rfl rfl) ?_
    refine WL.op rfl rfl rfl (Go.Proofs.Ytbldglnfadnkeaa.W.quiet_bin rfl rfl rfl (fun W => qb_eql_int W _ _ _ _)) ?_
    refine O.split (fun hb => ?_) (fun hb => by exfalso; revert hb; first | (simp; done) | (simp; omega))
    refine WL.op rfl rfl rfl (Go.Proofs.Ytbldglnfadnkeaa.W.quiet_pick rfl rfl rfl) ?_
    refine WL.op rfl rfl rfl (Go.Proofs.Ytbldglnfadnkeaa.W.quiet_move rfl rfl) ?_
    refine WL.op rfl rfl rfl (Go.Proofs.Ytbldglnfadnkeaa.W.quiet_field rfl rfl (fun W => (qa_api_Frame_0 W _ _))) ?_
    refine WL.ld rfl rfl rfl rfl rfl (ql_int _ _ _ (bx2.cell (j := 0) rfl)) ?_
    refine WL.op rfl rfl rfl (Go.Proofs.Ytbldglnfadnkeaa.W.quiet_field rfl rfl (fun W => (qa_api_Frame_0 W _ _))) ?_
    refine WL.ld rfl rfl rfl rfl rfl (ql_int _ _ _ (bx3.cell (j := 0) rfl)) ?_
    refine WL.op rfl rfl rfl (Go.Proofs.Ytbldglnfadnkeaa.W.quiet_bin rfl rfl rfl (fun W => qb_eql_int W _ _ _ _)) ?_
    refine O.split (fun hb => ?_) (fun hb => by exfalso; revert hb; first | (simp; done) | (simp; omega))
    refine WL.op rfl rfl rfl (Go.Proofs.Ytbldglnfadnkeaa.W.quiet_pick rfl rfl rfl) ?_
    refine WL.op rfl rfl rfl (Go.Proofs.Ytbldglnfadnkeaa.W.quiet_move rfl rfl) ?_
    refine WL.op rfl rfl rfl (Go.Proofs.Ytbldglnfadnkeaa.W.quiet_field rfl rfl (fun W => (qa_api_Frame_2 W _ _))) ?_
    refine WL.ld rfl rfl rfl rfl rfl (ql_int _ _ _ (bx2.cell (j := 2) rfl)) ?_
    refine WL.op rfl rfl rfl (Go.Proofs.Ytbldglnfadnkeaa.W.quiet_field rfl rfl (fun W => (qa_api_Frame_2 W _ _))) ?_
    refine WL.ld rfl rfl rfl rfl rfl (ql_int _ _ _ (bx3.cell (j := 2) rfl)) ?_
    refine WL.op rfl rfl rfl (Go.Proofs.Ytbldglnfadnkeaa.W.quiet_bin rfl rfl rfl (fun W => qb_eql_int W _ _ _ _)) ?_
    refine O.split (fun hb => ?_) (fun hb => by exfalso; revert hb; first | (simp; done) | (simp; omega))
    refine WL.op rfl rfl rfl (Go.Proofs.Ytbldglnfadnkeaa.W.quiet_pick rfl rfl rfl) ?_
    refine WL.op rfl rfl rfl (Go.Proofs.Ytbldglnfadnkeaa.W.quiet_move rfl rfl) ?_
    refine WL.op rfl rfl rfl (Go.Proofs.Ytbldglnfadnkeaa.W.quiet_field rfl rfl (fun W => (qa_api_Frame_1 W _ _))) ?_
    refine WL.ld rfl rfl rfl rfl rfl (ql_s_int _ _ _ _ _ (bx2.cell (j := 1) rfl)) ?_
    refine WL.op rfl rfl rfl (Go.Proofs.Ytbldglnfadnkeaa.W.quiet_field rfl rfl (fun W => (qa_api_Frame_1 W _ _))) ?_
    refine WL.ld rfl rfl rfl rfl rfl (ql_s_int _ _ _ _ _ (bx3.cell (j := 1) rfl)) ?_
    refine WL.call (hr := t_same a1 a3 c1 c3 sv sv (by omega) _ hA.at hC.at) rfl rfl rfl rfl rfl (fun W => qk_rushlightlaw25_same W _) ?_
    rintro e w6 ⟨b6, rfl, hb6, f6⟩
    refine ⟨_, rfl, ?_⟩
    replace bx1 := bx1.fr f6 id
    replace bx2 := bx2.fr f6 id
    replace bx3 := bx3.fr f6 id
    replace hA := hA.fr f6 (fun q h1 => id)
    replace hB := hB.fr f6 (fun q h1 => id)
    replace hC := hC.fr f6 (fun q h1 => id)
    replace hD := hD.fr f6 (fun q h1 => id)
    replace ff := ff.trans f6
    obtain rfl : b6 = true := hb6.2 rfl
    refine O.split (fun hb => ?_) (fun hb => by exfalso; revert hb; first | (simp; done) | (simp; omega))
    refine WL.op rfl rfl rfl (Go.Proofs.Ytbldglnfadnkeaa.W.quiet_pick rfl rfl rfl) ?_
    refine WL.op rfl rfl rfl (Go.Proofs.Ytbldglnfadnkeaa.W.quiet_move rfl rfl) ?_
    refine WL.op rfl rfl rfl (Go.Proofs.Ytbldglnfadnkeaa.W.quiet_field rfl rfl (fun W => (qa_api_Frame_3 W _ _))) ?_
    refine WL.ld rfl rfl rfl rfl rfl (ql_s_int _ _ _ _ _ (bx2.cell (j := 3) rfl)) ?_
    refine WL.op rfl rfl rfl (Go.Proofs.Ytbldglnfadnkeaa.W.quiet_field rfl rfl (fun W => (qa_api_Frame_3 W _ _))) ?_
    refine WL.ld rfl rfl rfl rfl rfl (ql_s_int _ _ _ _ _ (bx3.cell (j := 3) rfl)) ?_
    refine WL.call (hr := t_same a2 a4 c2 c4 ob ob (by omega) _ hB.at hD.at) rfl rfl rfl rfl rfl (fun W => qk_rushlightlaw25_same W _) ?_
    rintro e w7 ⟨b7, rfl, hb7, f7⟩
    refine ⟨_, rfl, ?_⟩
    replace bx1 := bx1.fr f7 id
    replace bx2 := bx2.fr f7 id
    replace bx3 := bx3.fr f7 id
    replace hA := hA.fr f7 (fun q h1 => id)
    replace hB := hB.fr f7 (fun q h1 => id)
    replace hC := hC.fr f7 (fun q h1 => id)
    replace hD := hD.fr f7 (fun q h1 => id)
    replace ff := ff.trans f7
    obtain rfl : b7 = true := hb7.2 rfl
    refine WL.op rfl rfl rfl (Go.Proofs.Ytbldglnfadnkeaa.W.quiet_pick rfl rfl rfl) ?_
    refine WL.op rfl rfl rfl (Go.Proofs.Ytbldglnfadnkeaa.W.quiet_assign rfl rfl) ?_
    refine WL.nil ?_
    refine TW.rt ?_
    refine bodyw_ret rfl rfl ?_
    exact ⟨rfl, ff⟩
end Go.Proofs.Ytbldglnfadnkeaa
