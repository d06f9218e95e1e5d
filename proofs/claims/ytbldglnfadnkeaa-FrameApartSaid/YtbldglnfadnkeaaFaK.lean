/-
  Frames (layer 25): the walk of FrameApart.
-/
import Derived.Test.YtbldglnfadnkeaaFaJ
namespace Go.Proofs.Ytbldglnfadnkeaa
open Go.RowKit
set_option linter.unusedVariables false
set_option linter.unusedSimpArgs false
theorem qb_neq_api_Errno (w : World) (x y : Operand) (m n : Int) : ((do eqGuard .neq 32 x y (.int .i64 m) (.int .i64 n); binOp .neq 32 (.int .i64 m) (.int .i64 n) : Sem Value)).run Try.prog w = .ok (.bool (m != n)) w := by simp [go_sem]
theorem qb_rem_int (w : World) (x y : Operand) (m n : Int) (hn : n ≠ 0) (h0 : -9223372036854775808 ≤ m.tmod n) (h1 : m.tmod n ≤ 9223372036854775807) : ((do eqGuard .rem 3 x y (.int .i64 m) (.int .i64 n); binOp .rem 3 (.int .i64 m) (.int .i64 n) : Sem Value)).run Try.prog w = .ok (.int .i64 (m.tmod n)) w := by
  have h : IntKind.i64.wrap (m.tmod n) = m.tmod n := IntWalk.i64_in _ (by omega)
  simp [go_sem, h, hn]
theorem qi_s_bool (w : World) (b o n c j : Nat) (hj : j < n) : (Instr.indexAt 39 (.slice (some ⟨b, o, none⟩) n c) (.int .i64 (j : Int))).run Try.prog w = .ok (.pointer (some ⟨b, o + j, none⟩)) w := by
  have h : (j : Int) < (n : Int) := by omega
  simp [go_sem, h, hj]
theorem ql_bool (w : World) (p : Bool) (d : Addr) (h : w.cell? d = some (.bool p)) : (Instr.loadAt 4 (.pointer (some d))).run Try.prog w = .ok (.bool p) w := by simp [go_sem, h]
theorem qsF_bool (w : World) (g j : Nat) (z : Array Value) (tt : TypeId) (y : Value) (up0 : Bool) (h : Bx w g z tt) (hj : z[j]? = some y) : ∃ w', (Instr.storeAt 4 (.pointer (some ⟨g, j, none⟩)) (.bool up0)).run Try.prog w = .ok () w' ∧ (Fr (fun q => q = g) w w' ∧ Bx w' g (z.setIfInBounds j (.bool up0)) tt) := by
  have c0 := h.cell hj
  have e0 := h.free j
  exact ⟨w.setCell ⟨g, j, none⟩ (.bool up0), by simp [go_sem, c0, e0], Fr.setCell _ _ _ rfl, h.set j _⟩
theorem rowS_one {M : Nat} {s : List Int} (hM : 0 < M) : rowS M s 1 = [0] := by unfold rowS; simp [List.range_succ, st_lo hM]
theorem rowL_one {M : Nat} {s : List Int} (hM : 0 < M) : rowL M s 1 = [4] := by unfold rowL; simp [List.range_succ, ln_lo hM]
theorem obsL_get (s : List Int) (f : Int) (j : Nat) (hj : j < s.length) : (obsL s f s.length).getD j 0 = f + offs s j := by
  unfold obsL offL
  simp [List.getD_eq_getElem?_getD, hj]
set_option maxRecDepth 100000 in
theorem walk_apart (nm : ByteArray) (vd : Bool) (pr R kc : Int) (oa : Option Addr) (oc : Nat) (s : List Int) (qa : Option Addr) (qn qc : Nat) (ad : Option Addr) (c : Nat) (l : List (Int × Int)) (w : World) (hso : SlotsAt w oa s) (hse : SeatsAt w ad l) : Calls Try.prog 4 #[.agg #[.string nm, .bool vd, .int .i64 pr, .int .i64 R, .slice oa s.length oc, .slice qa qn qc], .slice ad l.length c, .int .i64 kc] w fun e w' => e = .returned (.bool true) ∧ Fr (fun _ => False) w w' := by
  have ff := Fr.refl (fun _ => False) w
  refine calls_tw Try.func4 rfl rfl (Nat.le_of_ble_eq_true rfl) ?_
  refine TW.sreg ?_
  have lw1 := ff.size
  refine O.boxR rfl rfl rfl rfl rfl (qxR_api_Proc w _ _ _ _ _ _ _ _ _ _) ?_
  rintro wa1 ⟨fa1, bx1⟩
  replace ff := ff.trans fa1
  refine WL.op rfl rfl rfl (Go.Proofs.Ytbldglnfadnkeaa.W.quiet_assign rfl rfl) ?_
  refine WL.nil ?_
  refine TW.seq ?_
  refine TW.sreg ?_
  refine WL.ld rfl rfl rfl rfl rfl (qlB_api_Proc _ _ _ _ _ _ _ _ _ _ _ _ _ bx1) ?_
  refine WL.op rfl rfl rfl (Go.Proofs.Ytbldglnfadnkeaa.W.quiet_move rfl rfl) ?_
  refine WL.call (hr := t_few nm vd pr R oa oc s qa qn qc ad c l _ (hso.fr ff) (hse.fr ff)) rfl rfl rfl rfl rfl (fun W => qk_rushlightlaw25_few W _) ?_
  rintro e w1 ⟨b1, rfl, hb1, f1⟩
  refine ⟨_, rfl, ?_⟩
  replace bx1 := bx1.fr f1 id
  replace ff := ff.trans f1
  cases b1
  · clear hb1
    refine WL.op rfl rfl rfl (Go.Proofs.Ytbldglnfadnkeaa.W.quiet_not rfl rfl) ?_
    refine O.split (fun hb => ?_) (fun hb => by exfalso; revert hb; first | (simp; done) | (simp; omega))
    refine WL.op rfl rfl rfl (Go.Proofs.Ytbldglnfadnkeaa.W.quiet_move rfl rfl) ?_
    refine WL.skip rfl rfl rfl ?_
    refine WL.skip rfl rfl rfl ?_
    refine WL.op rfl rfl rfl (Go.Proofs.Ytbldglnfadnkeaa.W.quiet_pick rfl rfl rfl) ?_
    refine WL.op rfl rfl rfl (Go.Proofs.Ytbldglnfadnkeaa.W.quiet_move rfl rfl) ?_
    refine WL.skip rfl rfl rfl ?_
    refine WL.skip rfl rfl rfl ?_
    refine WL.op rfl rfl rfl (Go.Proofs.Ytbldglnfadnkeaa.W.quiet_pick rfl rfl rfl) ?_
    refine WL.nil ?_
    refine TW.cond rfl (fun _ => ?_) (fun hb => by cases hb)
    refine TW.sreg ?_
    refine WL.call (hr := t_awake _) rfl rfl rfl rfl rfl (fun W => qk_rushlightlaw25_awake W _) ?_
    rintro e wz1 ⟨rfl, fz1⟩
    refine ⟨_, rfl, ?_⟩
    replace bx1 := bx1.fr fz1 id
    replace ff := ff.trans fz1
    refine WL.op rfl rfl rfl (Go.Proofs.Ytbldglnfadnkeaa.W.quiet_assign rfl rfl) ?_
    refine WL.nil ?_
    refine TW.rt ?_
    refine Xw.thn (by simp) ?_
    refine bodyw_ret rfl rfl ?_
    exact ⟨rfl, ff⟩
  · obtain ⟨hn1, hn2, hsl, hok⟩ := hb1 rfl
    have hgs := gvn_svd hok
    have hgl := gvn_le l
    obtain ⟨⟨sz, sv, sl, ob, er⟩, hr⟩ : ∃ r, LR s l.length R kc (gvn l) = r := ⟨_, rfl⟩
    have hr2 := hr
    rw [hgs] at hr2
    obtain ⟨hv1, hv2⟩ := lr_len hr (by omega) (by omega)
    refine WL.op rfl rfl rfl (Go.Proofs.Ytbldglnfadnkeaa.W.quiet_not rfl rfl) ?_
    refine O.split (fun hb => by exfalso; revert hb; first | (simp; done) | (simp; omega)) (fun hb => ?_)
    refine WL.op rfl rfl rfl (Go.Proofs.Ytbldglnfadnkeaa.W.quiet_move rfl rfl) ?_
    refine WL.op rfl rfl rfl (Go.Proofs.Ytbldglnfadnkeaa.W.quiet_move rfl rfl) ?_
    refine WL.op rfl rfl rfl (Go.Proofs.Ytbldglnfadnkeaa.W.quiet_bin rfl rfl rfl (fun W => qb_lss_int W _ _ _ _)) ?_
    refine O.split (fun hb2 => ?_) (fun hb2 => ?_)
    · skip
      refine WL.op rfl rfl rfl (Go.Proofs.Ytbldglnfadnkeaa.W.quiet_pick rfl rfl rfl) ?_
      refine WL.op rfl rfl rfl (Go.Proofs.Ytbldglnfadnkeaa.W.quiet_move rfl rfl) ?_
      refine WL.skip rfl rfl rfl ?_
      refine WL.skip rfl rfl rfl ?_
      refine WL.op rfl rfl rfl (Go.Proofs.Ytbldglnfadnkeaa.W.quiet_pick rfl rfl rfl) ?_
      refine WL.nil ?_
      refine TW.cond rfl (fun _ => ?_) (fun hb => by cases hb)
      refine TW.sreg ?_
      refine WL.call (hr := t_awake _) rfl rfl rfl rfl rfl (fun W => qk_rushlightlaw25_awake W _) ?_
      rintro e wz2 ⟨rfl, fz2⟩
      refine ⟨_, rfl, ?_⟩
      replace bx1 := bx1.fr fz2 id
      replace ff := ff.trans fz2
      refine WL.op rfl rfl rfl (Go.Proofs.Ytbldglnfadnkeaa.W.quiet_assign rfl rfl) ?_
      refine WL.nil ?_
      refine TW.rt ?_
      refine Xw.thn (by simp) ?_
      refine bodyw_ret rfl rfl ?_
      exact ⟨rfl, ff⟩
    · skip
      have hk0 : 0 ≤ kc := by have := of_decide_eq_false hb2; omega
      refine WL.op rfl rfl rfl (Go.Proofs.Ytbldglnfadnkeaa.W.quiet_pick rfl rfl rfl) ?_
      refine WL.op rfl rfl rfl (Go.Proofs.Ytbldglnfadnkeaa.W.quiet_move rfl rfl) ?_
      refine WL.op rfl rfl rfl (Go.Proofs.Ytbldglnfadnkeaa.W.quiet_move rfl rfl) ?_
      refine WL.op rfl rfl rfl (Go.Proofs.Ytbldglnfadnkeaa.W.quiet_bin rfl rfl rfl (fun W => qb_gtr_int W _ _ _ _)) ?_
      refine O.split (fun hb3 => ?_) (fun hb3 => ?_)
      · skip
        refine WL.op rfl rfl rfl (Go.Proofs.Ytbldglnfadnkeaa.W.quiet_pick rfl rfl rfl) ?_
        refine WL.nil ?_
        refine TW.cond rfl (fun _ => ?_) (fun hb => by cases hb)
        refine TW.sreg ?_
        refine WL.call (hr := t_awake _) rfl rfl rfl rfl rfl (fun W => qk_rushlightlaw25_awake W _) ?_
        rintro e wz3 ⟨rfl, fz3⟩
        refine ⟨_, rfl, ?_⟩
        replace bx1 := bx1.fr fz3 id
        replace ff := ff.trans fz3
        refine WL.op rfl rfl rfl (Go.Proofs.Ytbldglnfadnkeaa.W.quiet_assign rfl rfl) ?_
        refine WL.nil ?_
        refine TW.rt ?_
        refine Xw.thn (by simp) ?_
        refine bodyw_ret rfl rfl ?_
        exact ⟨rfl, ff⟩
      · skip
        have hk6 : kc ≤ 600 := by have := of_decide_eq_false hb3; omega
        obtain ⟨kk, rfl⟩ : ∃ kk : Nat, kc = (kk : Int) := ⟨kc.toNat, by omega⟩
        refine WL.op rfl rfl rfl (Go.Proofs.Ytbldglnfadnkeaa.W.quiet_pick rfl rfl rfl) ?_
        refine WL.nil ?_
        refine TW.cond rfl (fun hb => by cases hb) (fun _ => ?_)
        refine TW.skip ?_
        refine TW.sreg ?_
        refine WL.ld rfl rfl rfl rfl rfl (qlB_api_Proc _ _ _ _ _ _ _ _ _ _ _ _ _ bx1) ?_
        refine WL.op rfl rfl rfl (Go.Proofs.Ytbldglnfadnkeaa.W.quiet_move rfl rfl) ?_
        refine WL.op rfl rfl rfl (Go.Proofs.Ytbldglnfadnkeaa.W.quiet_move rfl rfl) ?_
        refine WL.call (hr := (t_lay nm vd pr R (kk : Int) oa oc s qa qn qc ad c l (by omega) (by omega) hsl.slim _ (hso.fr ff) (hse.fr ff)).mono fun e w' q => lay_g q hr) rfl rfl rfl rfl rfl (fun W => qk_frame_Lay W _) ?_
        rintro e w3 ⟨a1, c1, a2, c2, rfl, hA, hB, f3⟩
        refine ⟨_, rfl, ?_⟩
        replace bx1 := bx1.fr f3 id
        replace ff := ff.trans f3
        replace hA := hA.b
        replace hB := hB.b
        refine WL.op rfl rfl rfl (Go.Proofs.Ytbldglnfadnkeaa.W.quiet_move rfl rfl) ?_
        refine O.ext rfl rfl rfl rfl rfl rfl ?_
        refine O.ext rfl rfl rfl rfl rfl rfl ?_
        have lt2_bx1 := bx1.lt
        have lw2 := ff.size
        refine O.allocR rfl rfl rfl rfl (qzR_api_Frame w3) ?_
        rintro wa2 ⟨fa2, bx2⟩
        replace bx1 := bx1.fr fa2 id
        replace hB := hB.fr fa2 (fun q h1 => id)
        replace ff := ff.trans fa2
        refine O.storeR rfl rfl rfl rfl rfl (qsA_api_Frame wa2 _ _ _ _ _ _ _ _ _ _ _ _ _ bx2) ?_
        rintro wa3 ⟨fa3, bx2x⟩
        replace bx1 := bx1.fr fa3 (fun e => by omega)
        replace hB := hB.fr fa3 (fun q h1 e => by omega)
        replace ff := ff.trans' fa3 (fun q hq e => by omega)
        clear bx2
        have bx2 := bx2x
        clear bx2x
        refine WL.op rfl rfl rfl (Go.Proofs.Ytbldglnfadnkeaa.W.quiet_assign rfl rfl) ?_
        refine WL.nil ?_
        refine TW.seq ?_
        refine TW.sreg ?_
        refine WL.op rfl rfl rfl (Go.Proofs.Ytbldglnfadnkeaa.W.quiet_move rfl rfl) ?_
        refine WL.op rfl rfl rfl (Go.Proofs.Ytbldglnfadnkeaa.W.quiet_bin rfl rfl rfl (fun W => qb_neq_api_Errno W _ _ _ _)) ?_
        refine O.split (fun hb4 => ?_) (fun hb4 => ?_)
        · skip
          refine WL.nil ?_
          refine TW.cond rfl (fun _ => ?_) (fun hb => by cases hb)
          refine TW.sreg ?_
          refine WL.call (hr := t_awake _) rfl rfl rfl rfl rfl (fun W => qk_rushlightlaw25_awake W _) ?_
          rintro e wz4 ⟨rfl, fz4⟩
          refine ⟨_, rfl, ?_⟩
          replace bx1 := bx1.fr fz4 id
          replace bx2 := bx2.fr fz4 id
          replace hB := hB.fr fz4 (fun q h1 => id)
          replace ff := ff.trans fz4
          refine WL.op rfl rfl rfl (Go.Proofs.Ytbldglnfadnkeaa.W.quiet_assign rfl rfl) ?_
          refine WL.nil ?_
          refine TW.rt ?_
          refine Xw.thn (by simp) ?_
          refine bodyw_ret rfl rfl ?_
          exact ⟨rfl, ff⟩
        · skip
          have her : er = 0 := by simpa using hb4
          subst her
          obtain ⟨hsz, rfl, hob, hszl⟩ := lr_zero hr
          have hst := st_mod (M := (1 + sv.length + kk)) hsl (Nat.le_refl _)
          rw [← hsz] at hst
          obtain ⟨n, rfl⟩ : ∃ n : Nat, sz = (n : Int) := ⟨sz.toNat, by omega⟩
          have hnm : (n : Int).tmod 4 = 0 := by rw [Int.tmod_eq_emod_of_nonneg hst.1]; exact hst.2
          have hobl : ob.length = s.length := by rw [hob, obsL_len]
          refine WL.nil ?_
          refine TW.cond rfl (fun hb => by cases hb) (fun _ => ?_)
          refine TW.skip ?_
          refine TW.seq ?_
          refine TW.sreg ?_
          refine WL.op rfl rfl rfl (Go.Proofs.Ytbldglnfadnkeaa.W.quiet_field rfl rfl (fun W => (qa_api_Frame_0 W _ _))) ?_
          refine WL.ld rfl rfl rfl rfl rfl (ql_int _ _ _ (bx2.cell (j := 0) rfl)) ?_
          refine WL.op rfl rfl rfl (Go.Proofs.Ytbldglnfadnkeaa.W.quiet_bin rfl rfl rfl (fun W => qb_lss_int W _ _ _ _)) ?_
          refine O.split (fun hb => absurd (of_decide_eq_true hb) (by omega)) (fun hb => ?_)
          refine WL.op rfl rfl rfl (Go.Proofs.Ytbldglnfadnkeaa.W.quiet_move rfl rfl) ?_
          refine WL.op rfl rfl rfl (Go.Proofs.Ytbldglnfadnkeaa.W.quiet_field rfl rfl (fun W => (qa_api_Frame_0 W _ _))) ?_
          refine WL.ld rfl rfl rfl rfl rfl (ql_int _ _ _ (bx2.cell (j := 0) rfl)) ?_
          refine WL.op rfl rfl rfl (Go.Proofs.Ytbldglnfadnkeaa.W.quiet_bin rfl rfl rfl (fun W => qb_gtr_int W _ _ _ _)) ?_
          refine O.split (fun hb => absurd (of_decide_eq_true hb) (by omega)) (fun hb => ?_)
          refine WL.op rfl rfl rfl (Go.Proofs.Ytbldglnfadnkeaa.W.quiet_pick rfl rfl rfl) ?_
          refine WL.op rfl rfl rfl (Go.Proofs.Ytbldglnfadnkeaa.W.quiet_move rfl rfl) ?_
          refine WL.op rfl rfl rfl (Go.Proofs.Ytbldglnfadnkeaa.W.quiet_field rfl rfl (fun W => (qa_api_Frame_3 W _ _))) ?_
          refine WL.ld rfl rfl rfl rfl rfl (ql_s_int _ _ _ _ _ (bx2.cell (j := 3) rfl)) ?_
          refine O.len rfl rfl rfl rfl rfl (qn_s_int _ _ _ _) ?_
          refine WL.op rfl rfl rfl (Go.Proofs.Ytbldglnfadnkeaa.W.quiet_field rfl rfl (fun W => (qa_api_Proc_4 W _ _))) ?_
          refine WL.ld rfl rfl rfl rfl rfl (ql_s_api_Slot _ _ _ _ _ (bx1.cell (j := 4) rfl)) ?_
          refine O.len rfl rfl rfl rfl rfl (qn_s_api_Slot _ _ _ _) ?_
          refine WL.op rfl rfl rfl (Go.Proofs.Ytbldglnfadnkeaa.W.quiet_bin rfl rfl rfl (fun W => qb_neq_int W _ _ _ _)) ?_
          refine O.split (fun hb => by rw [hobl] at hb; simp at hb) (fun hb => ?_)
          refine WL.op rfl rfl rfl (Go.Proofs.Ytbldglnfadnkeaa.W.quiet_pick rfl rfl rfl) ?_
          refine WL.nil ?_
          refine TW.cond rfl (fun hb => by cases hb) (fun _ => ?_)
          refine TW.skip ?_
          refine TW.sreg ?_
          refine WL.op rfl rfl rfl (Go.Proofs.Ytbldglnfadnkeaa.W.quiet_field rfl rfl (fun W => (qa_api_Frame_0 W _ _))) ?_
          refine WL.ld rfl rfl rfl rfl rfl (ql_int _ _ _ (bx2.cell (j := 0) rfl)) ?_
          have lt3_bx1 := bx1.lt
          have lt3_bx2 := bx2.lt
          have lw3 := ff.size
          refine O.mkR rfl rfl rfl rfl rfl rfl (mk_b n (by omega) _) ?_
          rintro wa4 ⟨fa4, bx3⟩
          replace bx1 := bx1.fr fa4 id
          replace bx2 := bx2.fr fa4 id
          replace hB := hB.fr fa4 (fun q h1 => id)
          replace ff := ff.trans fa4
          have hU := Us.made bx3
          have lu3 := bx3.lt
          refine WL.op rfl rfl rfl (Go.Proofs.Ytbldglnfadnkeaa.W.quiet_assign rfl rfl) ?_
          refine WL.nil ?_
          refine TW.sreg ?_
          have lt4_bx1 := bx1.lt
          have lt4_bx2 := bx2.lt
          have lw4 := ff.size
          refine O.bslR rfl rfl rfl rfl rfl (qv_s_int_1 wa4 _) ?_
          rintro wa5 ⟨fa5, bx4⟩
          replace bx1 := bx1.fr fa5 id
          replace bx2 := bx2.fr fa5 id
          replace hB := hB.fr fa5 (fun q h1 => id)
          replace hU := hU.fr fa5 id
          replace ff := ff.trans fa5
          have hR1 := Ints.lit (B := wa4.heap.size) bx4 (Nat.le_refl _)
          rw [← rowS_one (M := (1 + sv.length + kk)) (s := s) (by omega)] at hR1
          refine WL.op rfl rfl rfl (Go.Proofs.Ytbldglnfadnkeaa.W.quiet_assign rfl rfl) ?_
          refine WL.nil ?_
          refine TW.sreg ?_
          have lt5_bx1 := bx1.lt
          have lt5_bx2 := bx2.lt
          have lw5 := ff.size
          refine O.bslR rfl rfl rfl rfl rfl (qv_s_int_1 wa5 _) ?_
          rintro wa6 ⟨fa6, bx5⟩
          replace bx1 := bx1.fr fa6 id
          replace bx2 := bx2.fr fa6 id
          replace hB := hB.fr fa6 (fun q h1 => id)
          replace hU := hU.fr fa6 id
          replace hR1 := hR1.fr fa6 (fun q h1 => id)
          replace ff := ff.trans fa6
          have hR2 := Ints.lit (B := wa4.heap.size) bx5 (by have := fa5.size; omega)
          rw [← rowL_one (M := (1 + sv.length + kk)) (s := s) (by omega)] at hR2
          have hz : wa4.heap.size ≤ wa6.heap.size := by have := fa5.size; have := fa6.size; omega
          refine WL.op rfl rfl rfl (Go.Proofs.Ytbldglnfadnkeaa.W.quiet_assign rfl rfl) ?_
          refine WL.nil ?_
          refine TW.seq ?_
          refine TW.sreg ?_
          refine WL.op rfl rfl rfl (Go.Proofs.Ytbldglnfadnkeaa.W.quiet_assign rfl rfl) ?_
          refine WL.nil ?_
          refine TW.block ?_
          refine O.loopG (n := sv.length) (fun a _ => (intOf (a.tmps.getD 12 undef)).toNat) (fun j a W => ∃ (v1 v2 : Value), Kn Try.f4.ntmps [(2, .int .i64 (kk : Int)), (3, .pointer (some ⟨w.heap.size, 0, none⟩)), (7, .pointer (some ⟨w3.heap.size, 0, none⟩)), (9, .slice (some ⟨wa3.heap.size, 0, none⟩) n n), (10, v1), (11, v2), (12, .int .i64 (j : Int))] a ∧ Fr (fun _ => False) w W ∧ Bx W w.heap.size #[.string nm, .bool vd, .int .i64 pr, .int .i64 R, .slice oa s.length oc, .slice qa qn qc] 25 ∧ Bx W w3.heap.size #[.int .i64 (n : Int), .slice a1 sv.length c1, .int .i64 (4 + 4 * (sv.length : Int)), .slice a2 ob.length c2] 31 ∧ IntsB w3.heap.size W a2 ob ∧ Us W wa3.heap.size n 0 ∧ wa4.heap.size ≤ W.heap.size ∧ Ints wa4.heap.size W v1 (rowS (1 + sv.length + kk) s (1 + j)) ∧ Ints wa4.heap.size W v2 (rowL (1 + sv.length + kk) s (1 + j))) (fun j a W h => by obtain ⟨_, _, h⟩ := h; exact O.slotv h.1 rfl) 0 (Nat.zero_le _) (fun a k => ⟨_, _, (by (repeat (refine Kn.cons k rfl ?_)); exact k.base), ff, bx1, bx2, hB, hU, hz, hR1, hR2⟩) ?_
          rintro j a wla hj ⟨v1, v2, k, ff, bx1, bx2, hB, hU, hz, hR1, hR2⟩
          refine TW.app (s := [(2, .int .i64 (kk : Int)), (3, .pointer (some ⟨w.heap.size, 0, none⟩)), (7, .pointer (some ⟨w3.heap.size, 0, none⟩)), (9, .slice (some ⟨wa3.heap.size, 0, none⟩) n n), (10, v1), (11, v2), (12, .int .i64 (j : Int))]) ?_ k
          refine TW.seq ?_
          refine TW.sreg ?_
          refine WL.op rfl rfl rfl (Go.Proofs.Ytbldglnfadnkeaa.W.quiet_move rfl rfl) ?_
          refine WL.op rfl rfl rfl (Go.Proofs.Ytbldglnfadnkeaa.W.quiet_field rfl rfl (fun W => (qa_api_Frame_1 W _ _))) ?_
          refine WL.ld rfl rfl rfl rfl rfl (ql_s_int _ _ _ _ _ (bx2.cell (j := 1) rfl)) ?_
          refine O.len rfl rfl rfl rfl rfl (qn_s_int _ _ _ _) ?_
          refine WL.op rfl rfl rfl (Go.Proofs.Ytbldglnfadnkeaa.W.quiet_bin rfl rfl rfl (fun W => qb_lss_int W _ _ _ _)) ?_
          refine O.split (fun ha => ?_) (fun ha => ?_)
          · skip
            have hj2 : j < sv.length := by have := of_decide_eq_true ha; omega
            have hap := rows_apart (by omega) (by omega) (by omega) hR1 hR2
            refine WL.nil ?_
            refine TW.cond rfl (fun _ => ?_) (fun hb => by cases hb)
            refine TW.skip ?_
            refine TW.seq ?_
            refine TW.block ?_
            refine TW.sreg ?_
            refine WL.op rfl rfl rfl (Go.Proofs.Ytbldglnfadnkeaa.W.quiet_move rfl rfl) ?_
            refine WL.ld rfl rfl rfl rfl rfl (qlB_api_Frame _ _ _ _ _ _ _ _ _ _ _ bx2) ?_
            refine WL.op rfl rfl rfl (Go.Proofs.Ytbldglnfadnkeaa.W.quiet_move rfl rfl) ?_
            refine WL.call (hr := t_kept _ _ _ _ _ _ _ _ (j : Int) (by omega) (by omega) _) rfl rfl rfl rfl rfl (fun W => qk_frame_Kept W _) ?_
            rintro e w7 ⟨rfl, f7⟩
            refine ⟨_, rfl, ?_⟩
            replace bx1 := bx1.fr f7 id
            replace bx2 := bx2.fr f7 id
            replace hB := hB.fr f7 (fun q h1 => id)
            replace hU := hU.fr f7 id
            replace hz := Nat.le_trans hz f7.size
            replace hR1 := hR1.fr f7 (fun q h1 => id)
            replace hR2 := hR2.fr f7 (fun q h1 => id)
            replace ff := ff.trans f7
            refine O.bsl rfl rfl rfl rfl rfl (qv_s_int_1 _ _) ?_
            refine WL.append rfl rfl rfl rfl rfl rfl (Ints.appO _ _ hR1 hz (by rw [rowS_len]; omega)) ?_
            rintro vn wA ⟨hRn, hFa⟩
            have hvb := hR1.lt
            replace bx1 := bx1.fr hFa (fun e => by have := hvb _ e; omega)
            replace bx2 := bx2.fr hFa (fun e => by have := hvb _ e; omega)
            replace hB := hB.fr hFa (fun q h1 e => by have := hvb _ e; omega)
            replace hU := hU.fr hFa (fun e => by have := hvb _ e; omega)
            replace hz := Nat.le_trans hz hFa.size
            replace hR2 := hR2.frO hFa (fun k hk e => by first | exact hap k e hk | exact hap k hk e)
            replace ff := ff.trans' hFa (fun q hq e => by have := hvb _ e; omega)
            clear hvb hR1
            rw [show 4 + 4 * (j : Int) = ST (1 + sv.length + kk) s (1 + j) by rw [st_lo (by omega)]; omega] at hRn
            rw [← rowS_succ] at hRn
            have hR1 := hRn
            clear hRn hap
            have hap := rows_apart (by omega) (by omega) (by omega) hR1 hR2
            -- world wA
            refine WL.op rfl rfl rfl (Go.Proofs.Ytbldglnfadnkeaa.W.quiet_assign rfl rfl) ?_
            refine WL.nil ?_
            refine TW.reg ?_
            refine WL.op rfl rfl rfl (Go.Proofs.Ytbldglnfadnkeaa.W.quiet_move rfl rfl) ?_
            refine O.bsl rfl rfl rfl rfl rfl (qv_s_int_1 _ _) ?_
            refine WL.append rfl rfl rfl rfl rfl rfl (Ints.appO _ _ hR2 hz (by rw [rowL_len]; omega)) ?_
            rintro vn wA ⟨hRn, hFa⟩
            have hvb := hR2.lt
            replace bx1 := bx1.fr hFa (fun e => by have := hvb _ e; omega)
            replace bx2 := bx2.fr hFa (fun e => by have := hvb _ e; omega)
            replace hB := hB.fr hFa (fun q h1 e => by have := hvb _ e; omega)
            replace hU := hU.fr hFa (fun e => by have := hvb _ e; omega)
            replace hz := Nat.le_trans hz hFa.size
            replace hR1 := hR1.frO hFa (fun k hk e => by first | exact hap k e hk | exact hap k hk e)
            replace ff := ff.trans' hFa (fun q hq e => by have := hvb _ e; omega)
            clear hvb hR2
            rw [show [(4 : Int)] = [LN (1 + sv.length + kk) s (1 + j)] by rw [ln_lo (by omega)]] at hRn
            rw [← rowL_succ] at hRn
            have hR2 := hRn
            clear hRn hap
            have hap := rows_apart (by omega) (by omega) (by omega) hR1 hR2
            -- world wA
            refine WL.op rfl rfl rfl (Go.Proofs.Ytbldglnfadnkeaa.W.quiet_assign rfl rfl) ?_
            refine WL.end ?_
            refine Xw.nblk ?_
            refine Xw.nrm ?_
            refine TW.reg ?_
            refine WL.op rfl rfl rfl (Go.Proofs.Ytbldglnfadnkeaa.W.quiet_move rfl rfl) ?_
            refine WL.op rfl rfl rfl (Go.Proofs.Ytbldglnfadnkeaa.W.quiet_bin rfl rfl rfl (fun W => qb_add_int W _ _ _ _ (by omega) (by omega))) ?_
            refine WL.op rfl rfl rfl (Go.Proofs.Ytbldglnfadnkeaa.W.quiet_assign rfl rfl) ?_
            refine WL.end ?_
            refine Xw.any (fun a k => ?_)
            refine ⟨j + 1, by omega, by omega, _, _, (by (repeat (refine Kn.cons k rfl ?_)); exact k.base), ff, bx1, bx2, hB, hU, hz, ?_, ?_⟩
            · exact hR1
            · exact hR2
          · skip
            have hje : sv.length = j := by have := of_decide_eq_false ha; omega
            subst hje
            refine WL.nil ?_
            refine TW.cond rfl (fun hb => by cases hb) (fun _ => ?_)
            refine TW.exit ?_
            refine Xw.thn (by simp) ?_
            refine Xw.thn (by simp) ?_
            refine Xw.hit ?_
            refine Xw.nrm ?_
            refine TW.seq ?_
            refine TW.sreg ?_
            refine WL.op rfl rfl rfl (Go.Proofs.Ytbldglnfadnkeaa.W.quiet_assign rfl rfl) ?_
            refine WL.nil ?_
            refine TW.block ?_
            refine O.loopG (n := kk) (fun a _ => (intOf (a.tmps.getD 13 undef)).toNat) (fun j a W => ∃ (v1 v2 : Value), Kn Try.f4.ntmps [(2, .int .i64 (kk : Int)), (3, .pointer (some ⟨w.heap.size, 0, none⟩)), (7, .pointer (some ⟨w3.heap.size, 0, none⟩)), (9, .slice (some ⟨wa3.heap.size, 0, none⟩) n n), (10, v1), (11, v2), (13, .int .i64 (j : Int))] a ∧ Fr (fun _ => False) w W ∧ Bx W w.heap.size #[.string nm, .bool vd, .int .i64 pr, .int .i64 R, .slice oa s.length oc, .slice qa qn qc] 25 ∧ Bx W w3.heap.size #[.int .i64 (n : Int), .slice a1 sv.length c1, .int .i64 (4 + 4 * (sv.length : Int)), .slice a2 ob.length c2] 31 ∧ IntsB w3.heap.size W a2 ob ∧ Us W wa3.heap.size n 0 ∧ wa4.heap.size ≤ W.heap.size ∧ Ints wa4.heap.size W v1 (rowS (1 + sv.length + kk) s (1 + sv.length + j)) ∧ Ints wa4.heap.size W v2 (rowL (1 + sv.length + kk) s (1 + sv.length + j))) (fun j a W h => by obtain ⟨_, _, h⟩ := h; exact O.slotv h.1 rfl) 0 (Nat.zero_le _) (fun a k => ⟨_, _, (by (repeat (refine Kn.cons k rfl ?_)); exact k.base), ff, bx1, bx2, hB, hU, hz, hR1, hR2⟩) ?_
            rintro j a wlb hj ⟨v1, v2, k, ff, bx1, bx2, hB, hU, hz, hR1, hR2⟩
            refine TW.app (s := [(2, .int .i64 (kk : Int)), (3, .pointer (some ⟨w.heap.size, 0, none⟩)), (7, .pointer (some ⟨w3.heap.size, 0, none⟩)), (9, .slice (some ⟨wa3.heap.size, 0, none⟩) n n), (10, v1), (11, v2), (13, .int .i64 (j : Int))]) ?_ k
            refine TW.seq ?_
            refine TW.sreg ?_
            refine WL.op rfl rfl rfl (Go.Proofs.Ytbldglnfadnkeaa.W.quiet_move rfl rfl) ?_
            refine WL.op rfl rfl rfl (Go.Proofs.Ytbldglnfadnkeaa.W.quiet_move rfl rfl) ?_
            refine WL.op rfl rfl rfl (Go.Proofs.Ytbldglnfadnkeaa.W.quiet_bin rfl rfl rfl (fun W => qb_lss_int W _ _ _ _)) ?_
            refine O.split (fun hb => ?_) (fun hb => ?_)
            · skip
              have hj2 : j < kk := by have := of_decide_eq_true hb; omega
              have hap := rows_apart (by omega) (by omega) (by omega) hR1 hR2
              refine WL.nil ?_
              refine TW.cond rfl (fun _ => ?_) (fun hb => by cases hb)
              refine TW.skip ?_
              refine TW.seq ?_
              refine TW.block ?_
              refine TW.sreg ?_
              refine WL.op rfl rfl rfl (Go.Proofs.Ytbldglnfadnkeaa.W.quiet_move rfl rfl) ?_
              refine WL.ld rfl rfl rfl rfl rfl (qlB_api_Frame _ _ _ _ _ _ _ _ _ _ _ bx2) ?_
              refine WL.op rfl rfl rfl (Go.Proofs.Ytbldglnfadnkeaa.W.quiet_move rfl rfl) ?_
              refine WL.call (hr := t_slot _ _ _ _ _ _ _ _ (j : Int) (by omega) (by omega) (by omega) (by omega) _) rfl rfl rfl rfl rfl (fun W => qk_frame_Slot W _) ?_
              rintro e w8 ⟨rfl, f8⟩
              refine ⟨_, rfl, ?_⟩
              replace bx1 := bx1.fr f8 id
              replace bx2 := bx2.fr f8 id
              replace hB := hB.fr f8 (fun q h1 => id)
              replace hU := hU.fr f8 id
              replace hz := Nat.le_trans hz f8.size
              replace hR1 := hR1.fr f8 (fun q h1 => id)
              replace hR2 := hR2.fr f8 (fun q h1 => id)
              replace ff := ff.trans f8
              refine O.bsl rfl rfl rfl rfl rfl (qv_s_int_1 _ _) ?_
              refine WL.append rfl rfl rfl rfl rfl rfl (Ints.appO _ _ hR1 hz (by rw [rowS_len]; omega)) ?_
              rintro vn wA ⟨hRn, hFa⟩
              have hvb := hR1.lt
              replace bx1 := bx1.fr hFa (fun e => by have := hvb _ e; omega)
              replace bx2 := bx2.fr hFa (fun e => by have := hvb _ e; omega)
              replace hB := hB.fr hFa (fun q h1 e => by have := hvb _ e; omega)
              replace hU := hU.fr hFa (fun e => by have := hvb _ e; omega)
              replace hz := Nat.le_trans hz hFa.size
              replace hR2 := hR2.frO hFa (fun k hk e => by first | exact hap k e hk | exact hap k hk e)
              replace ff := ff.trans' hFa (fun q hq e => by have := hvb _ e; omega)
              clear hvb hR1
              rw [show 4 + 4 * (sv.length : Int) + 4 * (j : Int) = ST (1 + sv.length + kk) s (1 + sv.length + j) by rw [st_lo (by omega)]; omega] at hRn
              rw [← rowS_succ] at hRn
              have hR1 := hRn
              clear hRn hap
              have hap := rows_apart (by omega) (by omega) (by omega) hR1 hR2
              -- world wA
              refine WL.op rfl rfl rfl (Go.Proofs.Ytbldglnfadnkeaa.W.quiet_assign rfl rfl) ?_
              refine WL.nil ?_
              refine TW.reg ?_
              refine WL.op rfl rfl rfl (Go.Proofs.Ytbldglnfadnkeaa.W.quiet_move rfl rfl) ?_
              refine O.bsl rfl rfl rfl rfl rfl (qv_s_int_1 _ _) ?_
              refine WL.append rfl rfl rfl rfl rfl rfl (Ints.appO _ _ hR2 hz (by rw [rowL_len]; omega)) ?_
              rintro vn wA ⟨hRn, hFa⟩
              have hvb := hR2.lt
              replace bx1 := bx1.fr hFa (fun e => by have := hvb _ e; omega)
              replace bx2 := bx2.fr hFa (fun e => by have := hvb _ e; omega)
              replace hB := hB.fr hFa (fun q h1 e => by have := hvb _ e; omega)
              replace hU := hU.fr hFa (fun e => by have := hvb _ e; omega)
              replace hz := Nat.le_trans hz hFa.size
              replace hR1 := hR1.frO hFa (fun k hk e => by first | exact hap k e hk | exact hap k hk e)
              replace ff := ff.trans' hFa (fun q hq e => by have := hvb _ e; omega)
              clear hvb hR2
              rw [show [(4 : Int)] = [LN (1 + sv.length + kk) s (1 + sv.length + j)] by rw [ln_lo (by omega)]] at hRn
              rw [← rowL_succ] at hRn
              have hR2 := hRn
              clear hRn hap
              have hap := rows_apart (by omega) (by omega) (by omega) hR1 hR2
              -- world wA
              refine WL.op rfl rfl rfl (Go.Proofs.Ytbldglnfadnkeaa.W.quiet_assign rfl rfl) ?_
              refine WL.end ?_
              refine Xw.nblk ?_
              refine Xw.nrm ?_
              refine TW.reg ?_
              refine WL.op rfl rfl rfl (Go.Proofs.Ytbldglnfadnkeaa.W.quiet_move rfl rfl) ?_
              refine WL.op rfl rfl rfl (Go.Proofs.Ytbldglnfadnkeaa.W.quiet_bin rfl rfl rfl (fun W => qb_add_int W _ _ _ _ (by omega) (by omega))) ?_
              refine WL.op rfl rfl rfl (Go.Proofs.Ytbldglnfadnkeaa.W.quiet_assign rfl rfl) ?_
              refine WL.end ?_
              refine Xw.any (fun a k => ?_)
              refine ⟨j + 1, by omega, by omega, _, _, (by (repeat (refine Kn.cons k rfl ?_)); exact k.base), ff, bx1, bx2, hB, hU, hz, ?_, ?_⟩
              · exact hR1
              · exact hR2
            · skip
              have hje : kk = j := by have := of_decide_eq_false hb; omega
              subst hje
              refine WL.nil ?_
              refine TW.cond rfl (fun hb => by cases hb) (fun _ => ?_)
              refine TW.exit ?_
              refine Xw.thn (by simp) ?_
              refine Xw.thn (by simp) ?_
              refine Xw.hit ?_
              refine Xw.nrm ?_
              refine TW.seq ?_
              refine TW.sreg ?_
              refine WL.op rfl rfl rfl (Go.Proofs.Ytbldglnfadnkeaa.W.quiet_assign rfl rfl) ?_
              refine WL.nil ?_
              refine TW.block ?_
              refine O.loopG (n := ob.length) (fun a _ => (intOf (a.tmps.getD 14 undef)).toNat) (fun j a W => ∃ (v1 v2 : Value), Kn Try.f4.ntmps [(2, .int .i64 (kk : Int)), (3, .pointer (some ⟨w.heap.size, 0, none⟩)), (7, .pointer (some ⟨w3.heap.size, 0, none⟩)), (9, .slice (some ⟨wa3.heap.size, 0, none⟩) n n), (10, v1), (11, v2), (14, .int .i64 (j : Int))] a ∧ Fr (fun _ => False) w W ∧ Bx W w.heap.size #[.string nm, .bool vd, .int .i64 pr, .int .i64 R, .slice oa s.length oc, .slice qa qn qc] 25 ∧ Bx W w3.heap.size #[.int .i64 (n : Int), .slice a1 sv.length c1, .int .i64 (4 + 4 * (sv.length : Int)), .slice a2 ob.length c2] 31 ∧ IntsB w3.heap.size W a2 ob ∧ Us W wa3.heap.size n 0 ∧ wa4.heap.size ≤ W.heap.size ∧ Ints wa4.heap.size W v1 (rowS (1 + sv.length + kk) s ((1 + sv.length + kk) + j)) ∧ Ints wa4.heap.size W v2 (rowL (1 + sv.length + kk) s ((1 + sv.length + kk) + j))) (fun j a W h => by obtain ⟨_, _, h⟩ := h; exact O.slotv h.1 rfl) 0 (Nat.zero_le _) (fun a k => ⟨_, _, (by (repeat (refine Kn.cons k rfl ?_)); exact k.base), ff, bx1, bx2, hB, hU, hz, hR1, hR2⟩) ?_
              rintro j a wlc hj ⟨v1, v2, k, ff, bx1, bx2, hB, hU, hz, hR1, hR2⟩
              refine TW.app (s := [(2, .int .i64 (kk : Int)), (3, .pointer (some ⟨w.heap.size, 0, none⟩)), (7, .pointer (some ⟨w3.heap.size, 0, none⟩)), (9, .slice (some ⟨wa3.heap.size, 0, none⟩) n n), (10, v1), (11, v2), (14, .int .i64 (j : Int))]) ?_ k
              refine TW.seq ?_
              refine TW.sreg ?_
              refine WL.op rfl rfl rfl (Go.Proofs.Ytbldglnfadnkeaa.W.quiet_move rfl rfl) ?_
              refine WL.op rfl rfl rfl (Go.Proofs.Ytbldglnfadnkeaa.W.quiet_field rfl rfl (fun W => (qa_api_Frame_3 W _ _))) ?_
              refine WL.ld rfl rfl rfl rfl rfl (ql_s_int _ _ _ _ _ (bx2.cell (j := 3) rfl)) ?_
              refine O.len rfl rfl rfl rfl rfl (qn_s_int _ _ _ _) ?_
              refine WL.op rfl rfl rfl (Go.Proofs.Ytbldglnfadnkeaa.W.quiet_bin rfl rfl rfl (fun W => qb_lss_int W _ _ _ _)) ?_
              refine O.split (fun hc => ?_) (fun hc => ?_)
              · skip
                have hj2 : j < ob.length := by have := of_decide_eq_true hc; omega
                have hap := rows_apart (by omega) (by omega) (by omega) hR1 hR2
                have hj3 : j < s.length := by omega
                obtain ⟨gb, ob_, rfl, _, hc⟩ := hB j hj2
                have hgj : ob.getD j 0 = ST (1 + sv.length + kk) s ((1 + sv.length + kk) + j) := by rw [st_hi, hob]; exact obsL_get s _ j hj3
                rw [hgj] at hc
                refine WL.nil ?_
                refine TW.cond rfl (fun _ => ?_) (fun hb => by cases hb)
                refine TW.skip ?_
                refine TW.seq ?_
                refine TW.block ?_
                refine TW.sreg ?_
                refine WL.op rfl rfl rfl (Go.Proofs.Ytbldglnfadnkeaa.W.quiet_move rfl rfl) ?_
                refine WL.op rfl rfl rfl (Go.Proofs.Ytbldglnfadnkeaa.W.quiet_field rfl rfl (fun W => (qa_api_Frame_3 W _ _))) ?_
                refine WL.ld rfl rfl rfl rfl rfl (ql_s_int _ _ _ _ _ (bx2.cell (j := 3) rfl)) ?_
                refine WL.op rfl rfl rfl (Go.Proofs.Ytbldglnfadnkeaa.W.quiet_move rfl rfl) ?_
                refine O.ixa rfl rfl rfl rfl rfl rfl (qi_s_int _ _ _ _ _ _ (by omega)) ?_
                refine WL.ld rfl rfl rfl rfl rfl (ql_int _ _ _ hc) ?_
                refine O.bsl rfl rfl rfl rfl rfl (qv_s_int_1 _ _) ?_
                refine WL.append rfl rfl rfl rfl rfl rfl (Ints.appO _ _ hR1 hz (by rw [rowS_len]; omega)) ?_
                rintro vn wA ⟨hRn, hFa⟩
                have hvb := hR1.lt
                replace bx1 := bx1.fr hFa (fun e => by have := hvb _ e; omega)
                replace bx2 := bx2.fr hFa (fun e => by have := hvb _ e; omega)
                replace hB := hB.fr hFa (fun q h1 e => by have := hvb _ e; omega)
                replace hU := hU.fr hFa (fun e => by have := hvb _ e; omega)
                replace hz := Nat.le_trans hz hFa.size
                replace hR2 := hR2.frO hFa (fun k hk e => by first | exact hap k e hk | exact hap k hk e)
                replace ff := ff.trans' hFa (fun q hq e => by have := hvb _ e; omega)
                clear hvb hR1
                rw [← rowS_succ] at hRn
                have hR1 := hRn
                clear hRn hap
                have hap := rows_apart (by omega) (by omega) (by omega) hR1 hR2
                -- world wA
                obtain ⟨gs, os_, nm2, al, ce, rfl, _, hc2, _, _⟩ := (hso.fr ff) j hj3
                rw [show s.getD j 0 = LN (1 + sv.length + kk) s ((1 + sv.length + kk) + j) from (ln_hi _ _ _).symm] at hc2
                refine WL.op rfl rfl rfl (Go.Proofs.Ytbldglnfadnkeaa.W.quiet_assign rfl rfl) ?_
                refine WL.nil ?_
                refine TW.reg ?_
                refine WL.op rfl rfl rfl (Go.Proofs.Ytbldglnfadnkeaa.W.quiet_move rfl rfl) ?_
                refine WL.op rfl rfl rfl (Go.Proofs.Ytbldglnfadnkeaa.W.quiet_field rfl rfl (fun W => (qa_api_Proc_4 W _ _))) ?_
                refine WL.ld rfl rfl rfl rfl rfl (ql_s_api_Slot _ _ _ _ _ (bx1.cell (j := 4) rfl)) ?_
                refine WL.op rfl rfl rfl (Go.Proofs.Ytbldglnfadnkeaa.W.quiet_move rfl rfl) ?_
                refine O.ixa rfl rfl rfl rfl rfl rfl (qi_s_api_Slot _ _ _ _ _ _ (by omega)) ?_
                refine WL.op rfl rfl rfl (Go.Proofs.Ytbldglnfadnkeaa.W.quiet_field rfl rfl (fun W => (qa_api_Slot_1 W _ _))) ?_
                refine WL.ld rfl rfl rfl rfl rfl (ql_int _ _ _ hc2) ?_
                refine O.bsl rfl rfl rfl rfl rfl (qv_s_int_1 _ _) ?_
                refine WL.append rfl rfl rfl rfl rfl rfl (Ints.appO _ _ hR2 hz (by rw [rowL_len]; omega)) ?_
                rintro vn wA ⟨hRn, hFa⟩
                have hvb := hR2.lt
                replace bx1 := bx1.fr hFa (fun e => by have := hvb _ e; omega)
                replace bx2 := bx2.fr hFa (fun e => by have := hvb _ e; omega)
                replace hB := hB.fr hFa (fun q h1 e => by have := hvb _ e; omega)
                replace hU := hU.fr hFa (fun e => by have := hvb _ e; omega)
                replace hz := Nat.le_trans hz hFa.size
                replace hR1 := hR1.frO hFa (fun k hk e => by first | exact hap k e hk | exact hap k hk e)
                replace ff := ff.trans' hFa (fun q hq e => by have := hvb _ e; omega)
                clear hvb hR2
                rw [← rowL_succ] at hRn
                have hR2 := hRn
                clear hRn hap
                have hap := rows_apart (by omega) (by omega) (by omega) hR1 hR2
                -- world wA
                refine WL.op rfl rfl rfl (Go.Proofs.Ytbldglnfadnkeaa.W.quiet_assign rfl rfl) ?_
                refine WL.end ?_
                refine Xw.nblk ?_
                refine Xw.nrm ?_
                refine TW.reg ?_
                refine WL.op rfl rfl rfl (Go.Proofs.Ytbldglnfadnkeaa.W.quiet_move rfl rfl) ?_
                refine WL.op rfl rfl rfl (Go.Proofs.Ytbldglnfadnkeaa.W.quiet_bin rfl rfl rfl (fun W => qb_add_int W _ _ _ _ (by omega) (by omega))) ?_
                refine WL.op rfl rfl rfl (Go.Proofs.Ytbldglnfadnkeaa.W.quiet_assign rfl rfl) ?_
                refine WL.end ?_
                refine Xw.any (fun a k => ?_)
                refine ⟨j + 1, by omega, by omega, _, _, (by (repeat (refine Kn.cons k rfl ?_)); exact k.base), ff, bx1, bx2, hB, hU, hz, ?_, ?_⟩
                · exact hR1
                · exact hR2
              · skip
                have hje : ob.length = j := by have := of_decide_eq_false hc; omega
                subst hje
                rw [hobl] at hR1 hR2
                obtain ⟨g1, d1, rfl, ho1, hS⟩ := row_at (by omega) hR1
                obtain ⟨g2, d2, rfl, ho2, hL⟩ := row_at (by omega) hR2
                have hg1 := hR1.lt g1 ho1
                have hg2 := hR2.lt g2 ho2
                have hu1 : g1 ≠ wa3.heap.size := by omega
                have hu2 : g2 ≠ wa3.heap.size := by omega
                refine WL.nil ?_
                refine TW.cond rfl (fun hb => by cases hb) (fun _ => ?_)
                refine TW.exit ?_
                refine Xw.thn (by simp) ?_
                refine Xw.thn (by simp) ?_
                refine Xw.hit ?_
                refine Xw.nrm ?_
                refine TW.seq ?_
                refine TW.sreg ?_
                refine WL.op rfl rfl rfl (Go.Proofs.Ytbldglnfadnkeaa.W.quiet_assign rfl rfl) ?_
                refine WL.nil ?_
                refine TW.block ?_
                refine O.loopG (n := ((1 + sv.length + kk) + s.length)) (fun a _ => (intOf (a.tmps.getD 15 undef)).toNat) (fun i a W => Kn Try.f4.ntmps [(7, .pointer (some ⟨w3.heap.size, 0, none⟩)), (9, .slice (some ⟨wa3.heap.size, 0, none⟩) n n), (10, .slice (some ⟨g1, 0, none⟩) ((1 + sv.length + kk) + s.length) d1), (11, .slice (some ⟨g2, 0, none⟩) ((1 + sv.length + kk) + s.length) d2), (15, .int .i64 (i : Int))] a ∧ Fr (fun _ => False) w W ∧ Bx W w3.heap.size #[.int .i64 (n : Int), .slice a1 sv.length c1, .int .i64 (4 + 4 * (sv.length : Int)), .slice a2 ob.length c2] 31 ∧ Us W wa3.heap.size n (ST (1 + sv.length + kk) s i) ∧ RwAt W g1 ((1 + sv.length + kk) + s.length) (ST (1 + sv.length + kk) s) ∧ RwAt W g2 ((1 + sv.length + kk) + s.length) (LN (1 + sv.length + kk) s)) (fun i a W h => O.slotv h.1 rfl) 0 (Nat.zero_le _) (fun a k => ⟨(by (repeat (refine Kn.cons k rfl ?_)); exact k.base), ff, bx2, hU.le (st_mod hsl (by omega)).1, hS, hL⟩) ?_
                rintro i a wi hj ⟨k, ff, bx2, hU, hS, hL⟩
                refine TW.app (s := [(7, .pointer (some ⟨w3.heap.size, 0, none⟩)), (9, .slice (some ⟨wa3.heap.size, 0, none⟩) n n), (10, .slice (some ⟨g1, 0, none⟩) ((1 + sv.length + kk) + s.length) d1), (11, .slice (some ⟨g2, 0, none⟩) ((1 + sv.length + kk) + s.length) d2), (15, .int .i64 (i : Int))]) ?_ k
                refine TW.seq ?_
                refine TW.sreg ?_
                refine WL.op rfl rfl rfl (Go.Proofs.Ytbldglnfadnkeaa.W.quiet_move rfl rfl) ?_
                refine WL.op rfl rfl rfl (Go.Proofs.Ytbldglnfadnkeaa.W.quiet_move rfl rfl) ?_
                refine O.len rfl rfl rfl rfl rfl (qn_s_int _ _ _ _) ?_
                refine WL.op rfl rfl rfl (Go.Proofs.Ytbldglnfadnkeaa.W.quiet_bin rfl rfl rfl (fun W => qb_lss_int W _ _ _ _)) ?_
                refine O.split (fun hbi => ?_) (fun hbi => ?_)
                · skip
                  have hi2 : i < (1 + sv.length + kk) + s.length := by have := of_decide_eq_true hbi; omega
                  obtain ⟨z0, z1, z2, z3, z4, z5⟩ := st_facts hsl hi2
                  refine WL.nil ?_
                  refine TW.cond rfl (fun _ => ?_) (fun hb => by cases hb)
                  refine TW.skip ?_
                  refine TW.seq ?_
                  refine TW.block ?_
                  refine TW.seq ?_
                  refine Q.sreg (C := fun W => Fr (fun _ => False) wi W) (by kernel_rfl) (by kernel_rfl) (fun W h => h.drewN 1) (Fr.refl _ _) ?_
                  refine W.op rfl rfl rfl (Go.Proofs.Ytbldglnfadnkeaa.W.quiet_move rfl rfl) ?_
                  refine W.op rfl rfl rfl (Go.Proofs.Ytbldglnfadnkeaa.W.quiet_move rfl rfl) ?_
                  refine W.op rfl rfl rfl (Go.Proofs.Ytbldglnfadnkeaa.W.quiet_index rfl rfl rfl (fun W => (qi_s_int _ _ _ _ _ _ (by omega)))) ?_
                  refine W.op rfl rfl rfl (Go.Proofs.Ytbldglnfadnkeaa.W.quiet_load rfl rfl (fun W hW => (ql_int _ _ _ (hW.cell (hS i hi2) id)))) ?_
                  refine W.op rfl rfl rfl (Go.Proofs.Ytbldglnfadnkeaa.W.quiet_bin rfl rfl rfl (fun W => qb_lss_int W _ _ _ _)) ?_
                  refine Q.split (fun hb => absurd (of_decide_eq_true hb) (by omega)) (fun hb => ?_)
                  refine W.op rfl rfl rfl (Go.Proofs.Ytbldglnfadnkeaa.W.quiet_move rfl rfl) ?_
                  refine W.op rfl rfl rfl (Go.Proofs.Ytbldglnfadnkeaa.W.quiet_move rfl rfl) ?_
                  refine W.op rfl rfl rfl (Go.Proofs.Ytbldglnfadnkeaa.W.quiet_move rfl rfl) ?_
                  refine W.op rfl rfl rfl (Go.Proofs.Ytbldglnfadnkeaa.W.quiet_index rfl rfl rfl (fun W => (qi_s_int _ _ _ _ _ _ (by omega)))) ?_
                  refine W.op rfl rfl rfl (Go.Proofs.Ytbldglnfadnkeaa.W.quiet_load rfl rfl (fun W hW => (ql_int _ _ _ (hW.cell (hS i hi2) id)))) ?_
                  refine W.op rfl rfl rfl (Go.Proofs.Ytbldglnfadnkeaa.W.quiet_bin rfl rfl rfl (fun W => (qb_rem_int W _ _ _ _ (by decide) (by rw [z1]; decide) (by rw [z1]; decide)).trans (by rw [z1]))) ?_
                  refine W.op rfl rfl rfl (Go.Proofs.Ytbldglnfadnkeaa.W.quiet_bin rfl rfl rfl (fun W => qb_neq_int W _ _ _ _)) ?_
                  refine Q.split (fun hb => by exfalso; revert hb; first | (simp; done) | (simp; omega)) (fun hb => ?_)
                  refine W.op rfl rfl rfl (Go.Proofs.Ytbldglnfadnkeaa.W.quiet_pick rfl rfl rfl) ?_
                  refine W.op rfl rfl rfl (Go.Proofs.Ytbldglnfadnkeaa.W.quiet_move rfl rfl) ?_
                  refine W.op rfl rfl rfl (Go.Proofs.Ytbldglnfadnkeaa.W.quiet_move rfl rfl) ?_
                  refine W.op rfl rfl rfl (Go.Proofs.Ytbldglnfadnkeaa.W.quiet_move rfl rfl) ?_
                  refine W.op rfl rfl rfl (Go.Proofs.Ytbldglnfadnkeaa.W.quiet_index rfl rfl rfl (fun W => (qi_s_int _ _ _ _ _ _ (by omega)))) ?_
                  refine W.op rfl rfl rfl (Go.Proofs.Ytbldglnfadnkeaa.W.quiet_load rfl rfl (fun W hW => (ql_int _ _ _ (hW.cell (hS i hi2) id)))) ?_
                  refine W.op rfl rfl rfl (Go.Proofs.Ytbldglnfadnkeaa.W.quiet_field rfl rfl (fun W => (qa_api_Frame_0 W _ _))) ?_
                  refine W.op rfl rfl rfl (Go.Proofs.Ytbldglnfadnkeaa.W.quiet_load rfl rfl (fun W hW => (ql_int _ _ _ ((bx2.fr hW id).cell (j := 0) rfl)))) ?_
                  refine W.op rfl rfl rfl (Go.Proofs.Ytbldglnfadnkeaa.W.quiet_bin rfl rfl rfl (fun W => qb_gtr_int W _ _ _ _)) ?_
                  refine Q.split (fun hb => absurd (of_decide_eq_true hb) (by omega)) (fun hb => ?_)
                  refine W.op rfl rfl rfl (Go.Proofs.Ytbldglnfadnkeaa.W.quiet_pick rfl rfl rfl) ?_
                  refine W.op rfl rfl rfl (Go.Proofs.Ytbldglnfadnkeaa.W.quiet_move rfl rfl) ?_
                  refine W.op rfl rfl rfl (Go.Proofs.Ytbldglnfadnkeaa.W.quiet_move rfl rfl) ?_
                  refine W.op rfl rfl rfl (Go.Proofs.Ytbldglnfadnkeaa.W.quiet_move rfl rfl) ?_
                  refine W.op rfl rfl rfl (Go.Proofs.Ytbldglnfadnkeaa.W.quiet_index rfl rfl rfl (fun W => (qi_s_int _ _ _ _ _ _ (by omega)))) ?_
                  refine W.op rfl rfl rfl (Go.Proofs.Ytbldglnfadnkeaa.W.quiet_load rfl rfl (fun W hW => (ql_int _ _ _ (hW.cell (hL i hi2) id)))) ?_
                  refine W.op rfl rfl rfl (Go.Proofs.Ytbldglnfadnkeaa.W.quiet_field rfl rfl (fun W => (qa_api_Frame_0 W _ _))) ?_
                  refine W.op rfl rfl rfl (Go.Proofs.Ytbldglnfadnkeaa.W.quiet_load rfl rfl (fun W hW => (ql_int _ _ _ ((bx2.fr hW id).cell (j := 0) rfl)))) ?_
                  refine W.op rfl rfl rfl (Go.Proofs.Ytbldglnfadnkeaa.W.quiet_move rfl rfl) ?_
                  refine W.op rfl rfl rfl (Go.Proofs.Ytbldglnfadnkeaa.W.quiet_move rfl rfl) ?_
                  refine W.op rfl rfl rfl (Go.Proofs.Ytbldglnfadnkeaa.W.quiet_index rfl rfl rfl (fun W => (qi_s_int _ _ _ _ _ _ (by omega)))) ?_
                  refine W.op rfl rfl rfl (Go.Proofs.Ytbldglnfadnkeaa.W.quiet_load rfl rfl (fun W hW => (ql_int _ _ _ (hW.cell (hS i hi2) id)))) ?_
                  refine W.op rfl rfl rfl (Go.Proofs.Ytbldglnfadnkeaa.W.quiet_bin rfl rfl rfl (fun W => qb_sub_int W _ _ _ _ (by omega) (by omega))) ?_
                  refine W.op rfl rfl rfl (Go.Proofs.Ytbldglnfadnkeaa.W.quiet_bin rfl rfl rfl (fun W => qb_gtr_int W _ _ _ _)) ?_
                  refine Q.split (fun hb => absurd (of_decide_eq_true hb) (by omega)) (fun hb => ?_)
                  refine W.op rfl rfl rfl (Go.Proofs.Ytbldglnfadnkeaa.W.quiet_pick rfl rfl rfl) ?_
                  refine Q.nil (T.tw fun wq1 fq1 => ?_)
                  replace bx2 := bx2.fr fq1 id
                  replace hU := hU.fr fq1 id
                  replace hS := hS.fr fq1 id
                  replace hL := hL.fr fq1 id
                  replace ff := ff.trans fq1
                  refine TW.cond rfl (fun hb => by cases hb) (fun _ => ?_)
                  refine TW.skip ?_
                  refine TW.sreg ?_
                  refine WL.op rfl rfl rfl (Go.Proofs.Ytbldglnfadnkeaa.W.quiet_assign rfl rfl) ?_
                  refine WL.nil ?_
                  refine TW.block ?_
                  refine O.loopG (n := (LN (1 + sv.length + kk) s i).toNat) (fun a _ => (intOf (a.tmps.getD 16 undef)).toNat) (fun j a W => Kn Try.f4.ntmps [(7, .pointer (some ⟨w3.heap.size, 0, none⟩)), (9, .slice (some ⟨wa3.heap.size, 0, none⟩) n n), (10, .slice (some ⟨g1, 0, none⟩) ((1 + sv.length + kk) + s.length) d1), (11, .slice (some ⟨g2, 0, none⟩) ((1 + sv.length + kk) + s.length) d2), (15, .int .i64 (i : Int)), (16, .int .i64 (j : Int))] a ∧ Fr (fun _ => False) w W ∧ Bx W w3.heap.size #[.int .i64 (n : Int), .slice a1 sv.length c1, .int .i64 (4 + 4 * (sv.length : Int)), .slice a2 ob.length c2] 31 ∧ Us W wa3.heap.size n (ST (1 + sv.length + kk) s i + (j : Int)) ∧ RwAt W g1 ((1 + sv.length + kk) + s.length) (ST (1 + sv.length + kk) s) ∧ RwAt W g2 ((1 + sv.length + kk) + s.length) (LN (1 + sv.length + kk) s)) (fun j a W h => O.slotv h.1 rfl) 0 (Nat.zero_le _) (fun a k => ⟨(by (repeat (refine Kn.cons k rfl ?_)); exact k.base), ff, bx2, hU.le (by omega), hS, hL⟩) ?_
                  rintro j a wj hj ⟨k, ff, bx2, hU, hS, hL⟩
                  refine TW.app (s := [(7, .pointer (some ⟨w3.heap.size, 0, none⟩)), (9, .slice (some ⟨wa3.heap.size, 0, none⟩) n n), (10, .slice (some ⟨g1, 0, none⟩) ((1 + sv.length + kk) + s.length) d1), (11, .slice (some ⟨g2, 0, none⟩) ((1 + sv.length + kk) + s.length) d2), (15, .int .i64 (i : Int)), (16, .int .i64 (j : Int))]) ?_ k
                  refine TW.seq ?_
                  refine TW.sreg ?_
                  refine WL.op rfl rfl rfl (Go.Proofs.Ytbldglnfadnkeaa.W.quiet_move rfl rfl) ?_
                  refine WL.op rfl rfl rfl (Go.Proofs.Ytbldglnfadnkeaa.W.quiet_move rfl rfl) ?_
                  refine WL.op rfl rfl rfl (Go.Proofs.Ytbldglnfadnkeaa.W.quiet_move rfl rfl) ?_
                  refine O.ixa rfl rfl rfl rfl rfl rfl (qi_s_int _ _ _ _ _ _ (by omega)) ?_
                  refine WL.ld rfl rfl rfl rfl rfl (ql_int _ _ _ (hL i hi2)) ?_
                  refine WL.op rfl rfl rfl (Go.Proofs.Ytbldglnfadnkeaa.W.quiet_bin rfl rfl rfl (fun W => qb_lss_int W _ _ _ _)) ?_
                  refine O.split (fun hbj => ?_) (fun hbj => ?_)
                  · skip
                    have hj2 : (j : Int) < LN (1 + sv.length + kk) s i := of_decide_eq_true hbj
                    have hj3 : j < (LN (1 + sv.length + kk) s i).toNat := by omega
                    obtain ⟨z, hbz, hz⟩ := hU
                    have hzq := hz ((ST (1 + sv.length + kk) s i).toNat + j) (by omega) (by omega)
                    refine WL.nil ?_
                    refine TW.cond rfl (fun _ => ?_) (fun hb => by cases hb)
                    refine TW.skip ?_
                    refine TW.seq ?_
                    refine TW.block ?_
                    refine TW.seq ?_
                    refine TW.sreg ?_
                    refine WL.op rfl rfl rfl (Go.Proofs.Ytbldglnfadnkeaa.W.quiet_move rfl rfl) ?_
                    refine WL.op rfl rfl rfl (Go.Proofs.Ytbldglnfadnkeaa.W.quiet_move rfl rfl) ?_
                    refine WL.op rfl rfl rfl (Go.Proofs.Ytbldglnfadnkeaa.W.quiet_move rfl rfl) ?_
                    refine O.ixa rfl rfl rfl rfl rfl rfl (qi_s_int _ _ _ _ _ _ (by omega)) ?_
                    refine WL.ld rfl rfl rfl rfl rfl (ql_int _ _ _ (hS i hi2)) ?_
                    refine WL.op rfl rfl rfl (Go.Proofs.Ytbldglnfadnkeaa.W.quiet_move rfl rfl) ?_
                    refine WL.op rfl rfl rfl (Go.Proofs.Ytbldglnfadnkeaa.W.quiet_bin rfl rfl rfl (fun W => (qb_add_int W _ _ _ _ (by omega) (by omega)).trans (by rw [show ST (1 + sv.length + kk) s i + (j : Int) = (((ST (1 + sv.length + kk) s i).toNat + j : Nat) : Int) by omega]))) ?_
                    refine O.ixa rfl rfl rfl rfl rfl rfl (qi_s_bool _ _ _ _ _ _ (by omega)) ?_
                    refine WL.ld rfl rfl rfl rfl rfl (ql_bool _ _ _ (by rw [Nat.zero_add]; exact hbz.cell hzq)) ?_
                    refine O.split (fun hb => by exfalso; revert hb; first | (simp; done) | (simp; omega)) (fun hb => ?_)
                    refine WL.nil ?_
                    refine TW.cond rfl (fun hb => by cases hb) (fun _ => ?_)
                    refine TW.skip ?_
                    refine TW.reg ?_
                    refine WL.op rfl rfl rfl (Go.Proofs.Ytbldglnfadnkeaa.W.quiet_move rfl rfl) ?_
                    refine WL.op rfl rfl rfl (Go.Proofs.Ytbldglnfadnkeaa.W.quiet_move rfl rfl) ?_
                    refine WL.op rfl rfl rfl (Go.Proofs.Ytbldglnfadnkeaa.W.quiet_move rfl rfl) ?_
                    refine O.ixa rfl rfl rfl rfl rfl rfl (qi_s_int _ _ _ _ _ _ (by omega)) ?_
                    refine WL.ld rfl rfl rfl rfl rfl (ql_int _ _ _ (hS i hi2)) ?_
                    refine WL.op rfl rfl rfl (Go.Proofs.Ytbldglnfadnkeaa.W.quiet_move rfl rfl) ?_
                    refine WL.op rfl rfl rfl (Go.Proofs.Ytbldglnfadnkeaa.W.quiet_bin rfl rfl rfl (fun W => (qb_add_int W _ _ _ _ (by omega) (by omega)).trans (by rw [show ST (1 + sv.length + kk) s i + (j : Int) = (((ST (1 + sv.length + kk) s i).toNat + j : Nat) : Int) by omega]))) ?_
                    have hbxu := hbz
                    refine O.ixa rfl rfl rfl rfl rfl rfl (qi_s_bool _ _ _ _ _ _ (by omega)) ?_
                    refine O.storeR rfl rfl rfl rfl rfl (qsF_bool _ _ (0 + ((ST (1 + sv.length + kk) s i).toNat + j)) _ _ _ true hbxu (by rw [Nat.zero_add]; exact hzq)) ?_
                    rintro wa7 ⟨fa7, hbxux⟩
                    replace bx2 := bx2.fr fa7 (fun e => by omega)
                    replace hS := hS.fr fa7 (fun e => by omega)
                    replace hL := hL.fr fa7 (fun e => by omega)
                    replace ff := ff.trans' fa7 (fun q hq e => by omega)
                    clear hbxu
                    have hbxu := hbxux
                    clear hbxux
                    have hU : Us _ wa3.heap.size n (ST (1 + sv.length + kk) s i + ((j + 1 : Nat) : Int)) := us_set (p := (ST (1 + sv.length + kk) s i).toNat + j) (by rw [Nat.zero_add] at hbxu; exact hbxu) hz (by omega) (by omega)
                    refine WL.end ?_
                    refine Xw.nblk ?_
                    refine Xw.nrm ?_
                    refine TW.reg ?_
                    refine WL.op rfl rfl rfl (Go.Proofs.Ytbldglnfadnkeaa.W.quiet_move rfl rfl) ?_
                    refine WL.op rfl rfl rfl (Go.Proofs.Ytbldglnfadnkeaa.W.quiet_bin rfl rfl rfl (fun W => qb_add_int W _ _ _ _ (by omega) (by omega))) ?_
                    refine WL.op rfl rfl rfl (Go.Proofs.Ytbldglnfadnkeaa.W.quiet_assign rfl rfl) ?_
                    refine WL.end ?_
                    refine Xw.any (fun a k => ?_)
                    exact ⟨j + 1, by omega, by omega, (by (repeat (refine Kn.cons k rfl ?_)); exact k.base), ff, bx2, hU, hS, hL⟩
                  · skip
                    refine WL.nil ?_
                    refine TW.cond rfl (fun hb => by cases hb) (fun _ => ?_)
                    refine TW.exit ?_
                    refine Xw.thn (by simp) ?_
                    refine Xw.thn (by simp) ?_
                    refine Xw.hit ?_
                    refine Xw.nblk ?_
                    refine Xw.nrm ?_
                    refine TW.reg ?_
                    refine WL.op rfl rfl rfl (Go.Proofs.Ytbldglnfadnkeaa.W.quiet_move rfl rfl) ?_
                    refine WL.op rfl rfl rfl (Go.Proofs.Ytbldglnfadnkeaa.W.quiet_bin rfl rfl rfl (fun W => qb_add_int W _ _ _ _ (by omega) (by omega))) ?_
                    refine WL.op rfl rfl rfl (Go.Proofs.Ytbldglnfadnkeaa.W.quiet_assign rfl rfl) ?_
                    refine WL.end ?_
                    refine Xw.any (fun a k => ?_)
                    have hje : ¬ (j : Int) < LN (1 + sv.length + kk) s i := of_decide_eq_false hbj
                    exact ⟨i + 1, by omega, by omega, (by (repeat (refine Kn.cons k rfl ?_)); exact k.base), ff, bx2, hU.le (by omega), hS, hL⟩
                · skip
                  refine WL.nil ?_
                  refine TW.cond rfl (fun hb => by cases hb) (fun _ => ?_)
                  refine TW.exit ?_
                  refine Xw.thn (by simp) ?_
                  refine Xw.thn (by simp) ?_
                  refine Xw.hit ?_
                  refine Xw.nrm ?_
                  refine TW.sreg ?_
                  refine WL.call (hr := t_awake _) rfl rfl rfl rfl rfl (fun W => qk_rushlightlaw25_awake W _) ?_
                  rintro e wq ⟨rfl, fq⟩
                  refine ⟨_, rfl, ?_⟩
                  replace bx2 := bx2.fr fq id
                  replace hU := hU.fr fq id
                  replace hS := hS.fr fq id
                  replace hL := hL.fr fq id
                  replace ff := ff.trans fq
                  refine O.split (fun hb => ?_) (fun hb => by exfalso; revert hb; first | (simp; done) | (simp; omega))
                  refine WL.op rfl rfl rfl (Go.Proofs.Ytbldglnfadnkeaa.W.quiet_move rfl rfl) ?_
                  refine WL.op rfl rfl rfl (Go.Proofs.Ytbldglnfadnkeaa.W.quiet_field rfl rfl (fun W => (qa_api_Frame_0 W _ _))) ?_
                  refine WL.ld rfl rfl rfl rfl rfl (ql_int _ _ _ (bx2.cell (j := 0) rfl)) ?_
                  refine WL.op rfl rfl rfl (Go.Proofs.Ytbldglnfadnkeaa.W.quiet_bin rfl rfl rfl (fun W => (qb_rem_int W _ _ _ _ (by decide) (by rw [hnm]; decide) (by rw [hnm]; decide)).trans (by rw [hnm]))) ?_
                  refine WL.op rfl rfl rfl (Go.Proofs.Ytbldglnfadnkeaa.W.quiet_bin rfl rfl rfl (fun W => qb_eql_int W _ _ _ _)) ?_
                  refine O.split (fun hb => ?_) (fun hb => by exfalso; revert hb; first | (simp; done) | (simp; omega))
                  refine WL.op rfl rfl rfl (Go.Proofs.Ytbldglnfadnkeaa.W.quiet_pick rfl rfl rfl) ?_
                  refine WL.op rfl rfl rfl (Go.Proofs.Ytbldglnfadnkeaa.W.quiet_assign rfl rfl) ?_
                  refine WL.nil ?_
                  refine TW.rt ?_
                  refine bodyw_ret rfl rfl ?_
                  exact ⟨rfl, ff⟩
end Go.Proofs.Ytbldglnfadnkeaa
