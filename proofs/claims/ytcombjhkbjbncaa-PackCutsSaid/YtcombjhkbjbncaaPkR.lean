/-
  Pack (layer 32): the walk of PackCuts.
-/
import Derived.Test.YtcombjhkbjbncaaPkP
namespace Go.Proofs.Ytcombjhkbjbncaa
open Go.RowKit
set_option linter.unusedVariables false
set_option linter.unusedSimpArgs false
set_option linter.unnecessarySimpa false
theorem qb_neq_api_Errno (w : World) (x y : Operand) (m n : Int) : ((do eqGuard .neq 28 x y (.int .i64 m) (.int .i64 n); binOp .neq 28 (.int .i64 m) (.int .i64 n) : Sem Value)).run Try.prog w = .ok (.bool (m != n)) w := by simp [go_sem]
theorem qv_s_uint8_0 (w : World)  : (Instr.buildSlice 23 0 #[]).run Try.prog w = .ok (.slice (some ⟨w.heap.size, 0, none⟩) 0 0) (w.alloc (.cells #[] 5)) := by simp [go_sem]
theorem rem_to (w : World) (x y : Operand) (a n r : Int) (hn : n ≠ 0) (h : a.tmod n = r) (h0 : -9223372036854775808 ≤ r) (h1 : r ≤ 9223372036854775807) : ((do eqGuard .rem 3 x y (.int .i64 a) (.int .i64 n); binOp .rem 3 (.int .i64 a) (.int .i64 n) : Sem Value)).run Try.prog w = .ok (.int .i64 r) w := by
  subst h
  exact qb_rem_int w x y a n hn h0 h1
theorem rem_twice (a : Int) {n : Nat} (hn : 0 < n) : ∃ r : Int, ∃ m : Nat, a.tmod n = r ∧ -(n : Int) < r ∧ r < n ∧ (r + n).tmod n = (m : Int) ∧ m < n := by
  have h1 := Int.tmod_lt_of_pos a (show (0 : Int) < n by omega)
  have h2 := Int.lt_tmod_of_pos a (show (0 : Int) < n by omega)
  have h3 := Int.tmod_lt_of_pos (a.tmod n + n) (show (0 : Int) < n by omega)
  have h4 := Int.tmod_nonneg (n : Int) (show 0 ≤ a.tmod n + n by omega)
  exact ⟨a.tmod n, ((a.tmod n + n).tmod n).toNat, rfl, h2, h1, by omega, by omega⟩
set_option maxRecDepth 100000 in
theorem walk_cuts (ca da : Option Addr) (cc dc : Nat) (g : Img) (hwf : g.wf) (hdc : g.data.length ≤ dc) (hli : g.lim ≤ 9223372036854775807) (cut : Int) (hc0 : -9223372036854775808 ≤ cut) (hc1 : cut ≤ 9223372036854775807) (x : Int) (hx : 0 ≤ x ∧ x ≤ 255) (w : World) (hca : NumAt .u32 w.heap.size w ca g.code) (hda : NumAt .u8 w.heap.size w da g.data) : Calls Try.prog 5 #[.agg #[.slice ca g.code.length cc, .slice da g.data.length dc, .int .i64 g.lim, .int .i64 g.notes], .int .i64 cut, .int .u8 x] w fun e w' => e = .returned (.bool true) ∧ Fr (fun _ => False) w w' := by
  have ff := Fr.refl (fun _ => False) w
  refine calls_tw Try.func5 rfl rfl (Nat.le_of_ble_eq_true rfl) ?_
  refine TW.sreg ?_
  have lw1 := ff.size
  refine O.boxR rfl rfl rfl rfl rfl (qxR_api_Image w _ _ _ _ _ _ _ _) ?_
  rintro wa1 ⟨fa1, bx1⟩
  replace hca := hca.fr fa1
  replace hda := hda.fr fa1
  replace ff := ff.trans fa1
  refine WL.op rfl rfl rfl (Go.Proofs.Ytcombjhkbjbncaa.W.quiet_assign rfl rfl) ?_
  refine WL.nil ?_
  refine TW.seq ?_
  refine TW.sreg ?_
  refine WL.ld rfl rfl rfl rfl rfl (qlB_api_Image _ _ _ _ _ _ _ _ _ _ _ bx1) ?_
  refine WL.call (hr := t_few ca da cc dc g _) rfl rfl rfl rfl rfl (fun W => qk_rushlightlaw32_few W _) ?_
  rintro e w1 ⟨b, rfl, hfw, f1⟩
  refine ⟨_, rfl, ?_⟩
  replace bx1 := bx1.fr f1 id
  replace hca := hca.fr f1
  replace hda := hda.fr f1
  replace ff := ff.trans f1
  cases b
  · skip
    refine WL.op rfl rfl rfl (Go.Proofs.Ytcombjhkbjbncaa.W.quiet_not rfl rfl) ?_
    refine O.split (fun hb => ?_) (fun hb => by exfalso; revert hb; first | (simp; done) | (simp; omega))
    refine WL.op rfl rfl rfl (Go.Proofs.Ytcombjhkbjbncaa.W.quiet_move rfl rfl) ?_
    refine WL.skip rfl rfl rfl ?_
    refine WL.skip rfl rfl rfl ?_
    refine WL.skip rfl rfl rfl ?_
    refine WL.op rfl rfl rfl (Go.Proofs.Ytcombjhkbjbncaa.W.quiet_pick rfl rfl rfl) ?_
    refine WL.nil ?_
    refine TW.cond rfl (fun _ => ?_) (fun hb => by cases hb)
    refine TW.sreg ?_
    refine WL.call (hr := t_awake _) rfl rfl rfl rfl rfl (fun W => qk_rushlightlaw32_awake W _) ?_
    rintro e wq ⟨rfl, fq⟩
    refine ⟨_, rfl, ?_⟩
    replace bx1 := bx1.fr fq id
    replace hca := hca.fr fq
    replace hda := hda.fr fq
    replace ff := ff.trans fq
    refine WL.op rfl rfl rfl (Go.Proofs.Ytcombjhkbjbncaa.W.quiet_assign rfl rfl) ?_
    refine WL.nil ?_
    refine TW.rt ?_
    refine Xw.thn (by simp) ?_
    refine bodyw_ret rfl rfl ?_
    exact ⟨rfl, ff⟩
  · have hfw2 := hfw rfl
    refine WL.op rfl rfl rfl (Go.Proofs.Ytcombjhkbjbncaa.W.quiet_not rfl rfl) ?_
    refine O.split (fun hb => by exfalso; revert hb; first | (simp; done) | (simp; omega)) (fun hb => ?_)
    by_cases hok : g.ok
    · have hes : (enc g).length ≤ 8000 := enc_small (by have := hok.c1; omega) (by have := hok.d1; omega)
      have hes2 := enc_len g
      refine WL.op rfl rfl rfl (Go.Proofs.Ytcombjhkbjbncaa.W.quiet_move rfl rfl) ?_
      refine WL.ld rfl rfl rfl rfl rfl (qlB_api_Image _ _ _ _ _ _ _ _ _ _ _ bx1) ?_
      refine WL.call (hr := (rright_ok ca da cc dc g hli _ hok)) rfl rfl rfl rfl rfl (fun W => qk_rushlightref32_Right W _) ?_
      rintro e w3 ⟨rfl, f3⟩
      refine ⟨_, rfl, ?_⟩
      replace bx1 := bx1.fr f3 id
      replace hca := hca.fr f3
      replace hda := hda.fr f3
      replace ff := ff.trans f3
      refine O.split (fun hb => ?_) (fun hb => by exfalso; revert hb; first | (simp; done) | (simp; omega))
      refine WL.op rfl rfl rfl (Go.Proofs.Ytcombjhkbjbncaa.W.quiet_not rfl rfl) ?_
      refine WL.op rfl rfl rfl (Go.Proofs.Ytcombjhkbjbncaa.W.quiet_pick rfl rfl rfl) ?_
      refine WL.nil ?_
      refine TW.cond rfl (fun hb => by cases hb) (fun _ => ?_)
      refine TW.skip ?_
      refine TW.sreg ?_
      refine WL.ld rfl rfl rfl rfl rfl (qlB_api_Image _ _ _ _ _ _ _ _ _ _ _ bx1) ?_
      refine WL.call (hr := (t_encode ca da cc dc g hwf hdc _ (hca.up ff.size) (hda.up ff.size) hok)) rfl rfl rfl rfl rfl (fun W => qk_pack_Encode W _) ?_
      rintro e w2 ⟨vE, rfl, hv, f2⟩
      refine ⟨_, rfl, ?_⟩
      replace bx1 := bx1.fr f2 id
      replace hca := hca.fr f2
      replace hda := hda.fr f2
      replace ff := ff.trans f2
      obtain ⟨va, vc, rfl⟩ := Row.form hv
      have hNv := (Row.capLe hv).2.1
      refine WL.op rfl rfl rfl (Go.Proofs.Ytcombjhkbjbncaa.W.quiet_move rfl rfl) ?_
      refine O.ext rfl rfl rfl rfl rfl rfl ?_
      refine O.ext rfl rfl rfl rfl rfl rfl ?_
      refine WL.op rfl rfl rfl (Go.Proofs.Ytcombjhkbjbncaa.W.quiet_assign rfl rfl) ?_
      refine WL.op rfl rfl rfl (Go.Proofs.Ytcombjhkbjbncaa.W.quiet_assign rfl rfl) ?_
      refine WL.nil ?_
      refine TW.seq ?_
      refine TW.sreg ?_
      refine WL.op rfl rfl rfl (Go.Proofs.Ytcombjhkbjbncaa.W.quiet_move rfl rfl) ?_
      refine WL.op rfl rfl rfl (Go.Proofs.Ytcombjhkbjbncaa.W.quiet_bin rfl rfl rfl (fun W => qb_neq_api_Errno W _ _ _ _)) ?_
      refine O.split (fun hb => by exfalso; revert hb; first | (simp; done) | (simp; omega)) (fun hb => ?_)
      refine WL.op rfl rfl rfl (Go.Proofs.Ytcombjhkbjbncaa.W.quiet_move rfl rfl) ?_
      refine WL.op rfl rfl rfl (Go.Proofs.Ytcombjhkbjbncaa.W.quiet_move rfl rfl) ?_
      refine O.len rfl rfl rfl rfl rfl (qn_s_uint8 _ _ _ _) ?_
      refine WL.op rfl rfl rfl (Go.Proofs.Ytcombjhkbjbncaa.W.quiet_bin rfl rfl rfl (fun W => qb_eql_int W _ _ _ _)) ?_
      refine O.split (fun hb => absurd (eq_of_beq hb) (by omega)) (fun hb => ?_)
      obtain ⟨r, m, hr1, hr2, hr3, hr4, hmN⟩ := rem_twice cut (show 0 < (enc g).length by omega)
      refine WL.op rfl rfl rfl (Go.Proofs.Ytcombjhkbjbncaa.W.quiet_pick rfl rfl rfl) ?_
      refine WL.nil ?_
      refine TW.cond rfl (fun hb => by cases hb) (fun _ => ?_)
      refine TW.skip ?_
      refine TW.sreg ?_
      refine WL.op rfl rfl rfl (Go.Proofs.Ytcombjhkbjbncaa.W.quiet_move rfl rfl) ?_
      refine WL.op rfl rfl rfl (Go.Proofs.Ytcombjhkbjbncaa.W.quiet_move rfl rfl) ?_
      refine O.len rfl rfl rfl rfl rfl (qn_s_uint8 _ _ _ _) ?_
      refine WL.op rfl rfl rfl (Go.Proofs.Ytcombjhkbjbncaa.W.quiet_bin rfl rfl rfl (fun W => rem_to W _ _ cut ((enc g).length : Int) r (by omega) hr1 (by omega) (by omega))) ?_
      refine WL.op rfl rfl rfl (Go.Proofs.Ytcombjhkbjbncaa.W.quiet_move rfl rfl) ?_
      refine O.len rfl rfl rfl rfl rfl (qn_s_uint8 _ _ _ _) ?_
      refine WL.op rfl rfl rfl (Go.Proofs.Ytcombjhkbjbncaa.W.quiet_bin rfl rfl rfl (fun W => qb_add_int W _ _ _ _ (by omega) (by omega))) ?_
      refine WL.op rfl rfl rfl (Go.Proofs.Ytcombjhkbjbncaa.W.quiet_move rfl rfl) ?_
      refine O.len rfl rfl rfl rfl rfl (qn_s_uint8 _ _ _ _) ?_
      refine WL.op rfl rfl rfl (Go.Proofs.Ytcombjhkbjbncaa.W.quiet_bin rfl rfl rfl (fun W => rem_to W _ _ (r + ((enc g).length : Int)) ((enc g).length : Int) (m : Int) (by omega) hr4 (by omega) (by omega))) ?_
      refine WL.op rfl rfl rfl (Go.Proofs.Ytcombjhkbjbncaa.W.quiet_assign rfl rfl) ?_
      refine WL.nil ?_
      refine TW.sreg ?_
      refine WL.op rfl rfl rfl (Go.Proofs.Ytcombjhkbjbncaa.W.quiet_move rfl rfl) ?_
      refine WL.op rfl rfl rfl (Go.Proofs.Ytcombjhkbjbncaa.W.quiet_move rfl rfl) ?_
      refine O.sl2 rfl rfl rfl rfl rfl rfl (sl_to 23 Try.underlying23 _ _ _ m (by omega) _) ?_
      have htl : ((enc g).take m).length = m := by rw [List.length_take]; omega
      have hno1 : ∀ g9, ¬Is ((enc g).take m) g9 := fun g9 h9 => by
        have h8 := Is.ahead (r := (enc g).drop m) h9 (by rw [List.take_append_drop]; exact ⟨hok, hwf, rfl⟩)
        have h7 := congrArg List.length h8
        rw [List.length_drop] at h7
        simp at h7
        omega
      refine WL.call (hr := (dec_no va vc ((enc g).take m) m htl (by omega) (by omega) _ ((Row.num hv).take m) ((enc_byt hwf.data).take m) hno1)) rfl rfl rfl rfl rfl (fun W => qk_pack_Decode W _) ?_
      rintro e w4 ⟨rfl, f4⟩
      refine ⟨_, rfl, ?_⟩
      replace bx1 := bx1.fr f4 id
      replace hv := Row.fr hv f4 (fun _ _ => id)
      replace ff := ff.trans f4
      refine WL.op rfl rfl rfl (Go.Proofs.Ytcombjhkbjbncaa.W.quiet_move rfl rfl) ?_
      refine O.ext rfl rfl rfl rfl rfl rfl ?_
      refine O.ext rfl rfl rfl rfl rfl rfl ?_
      have lw2 := ff.size
      refine O.allocR rfl rfl rfl rfl (qzR_api_Image w4) ?_
      rintro wa2 ⟨fa2, bx2⟩
      replace hv := Row.fr hv fa2 (fun _ _ => id)
      replace ff := ff.trans fa2
      refine O.storeR rfl rfl rfl rfl rfl (qsA_api_Image wa2 _ _ _ _ _ _ _ _ _ _ _ _ _ bx2) ?_
      rintro wa3 ⟨fa3, bx2x⟩
      replace hv := Row.fr hv fa3 (fun k hk e => Row.apart_typ hv bx2 (by decide) (hk.trans (congrArg some e)))
      replace ff := ff.trans' fa3 (fun q hq e => by omega)
      clear bx2
      have bx2 := bx2x
      clear bx2x
      refine WL.op rfl rfl rfl (Go.Proofs.Ytcombjhkbjbncaa.W.quiet_assign rfl rfl) ?_
      refine WL.nil ?_
      refine TW.sreg ?_
      have lw3 := ff.size
      refine O.bslR rfl rfl rfl rfl rfl (qv_s_uint8_0 wa3) ?_
      rintro wa4 ⟨fa4, bx3⟩
      replace hv := Row.fr hv fa4 (fun _ _ => id)
      replace ff := ff.trans fa4
      obtain ⟨gZ, hgZ⟩ : ∃ gZ, gZ = wa3.heap.size := ⟨_, rfl⟩
      rw [← hgZ] at bx3
      rw [← hgZ]
      have hgl := bx3.lt
      have hE : R8 gZ wa4 (.slice (some ⟨gZ, 0, none⟩) 0 0) [] := Row.lit0 bx3 (Nat.le_refl _)
      refine WL.op rfl rfl rfl (Go.Proofs.Ytcombjhkbjbncaa.W.quiet_move rfl rfl) ?_
      refine WL.append rfl rfl rfl rfl rfl rfl (R8.appN (enc g) _ hE (Nat.le_of_lt hgl) (Nat.zero_le _) (by omega) (Row.num hv)) ?_
      rintro v3 w3 ⟨hw, hF3, ho3⟩
      rw [List.nil_append] at hw
      replace ff := ff.trans' hF3 (fun q hq e => by have e2 : gZ = q := Option.some.inj e; omega)
      have hB3 := hF3.size
      obtain ⟨vb, vd, rfl⟩ := Row.form hw
      -- world w3
      refine WL.op rfl rfl rfl (Go.Proofs.Ytcombjhkbjbncaa.W.quiet_assign rfl rfl) ?_
      refine WL.nil ?_
      refine TW.sreg ?_
      refine WL.op rfl rfl rfl (Go.Proofs.Ytcombjhkbjbncaa.W.quiet_move rfl rfl) ?_
      refine WL.op rfl rfl rfl (Go.Proofs.Ytcombjhkbjbncaa.W.quiet_move rfl rfl) ?_
      refine O.bsl rfl rfl rfl rfl rfl (qv_s_uint8_1 _ _) ?_
      refine WL.append rfl rfl rfl rfl rfl rfl (R8.app1 x _ hw (by omega) (by omega)) ?_
      rintro v4 w4 ⟨hy, hF4, ho4⟩
      replace ff := ff.trans' hF4 (fun q hq e => by have := (Row.lt hw q e).1; omega)
      obtain ⟨vx, vy, rfl⟩ := Row.form hy
      -- world w4
      refine WL.call (hr := (dec_no vx vy (enc g ++ [x]) _ rfl (by rw [List.length_append]; simp only [List.length_singleton]; omega) (Row.capLe hy).2.1 _ (Row.num hy) ((enc_byt hwf.data).app (Byt.cons hx Byt.nil)) (fun g9 h9 => absurd (Is.ahead (l := enc g) (r := [x]) ⟨hok, hwf, rfl⟩ h9) (by simp)))) rfl rfl rfl rfl rfl (fun W => qk_pack_Decode W _) ?_
      rintro e w5 ⟨rfl, f5⟩
      refine ⟨_, rfl, ?_⟩
      replace ff := ff.trans f5
      refine WL.op rfl rfl rfl (Go.Proofs.Ytcombjhkbjbncaa.W.quiet_move rfl rfl) ?_
      refine O.ext rfl rfl rfl rfl rfl rfl ?_
      refine O.ext rfl rfl rfl rfl rfl rfl ?_
      have lw4 := ff.size
      refine O.allocR rfl rfl rfl rfl (qzR_api_Image w5) ?_
      rintro wa5 ⟨fa5, bx4⟩
      replace ff := ff.trans fa5
      refine O.storeR rfl rfl rfl rfl rfl (qsA_api_Image wa5 _ _ _ _ _ _ _ _ _ _ _ _ _ bx4) ?_
      rintro wa6 ⟨fa6, bx4x⟩
      replace ff := ff.trans' fa6 (fun q hq e => by omega)
      clear bx4
      have bx4 := bx4x
      clear bx4x
      refine WL.op rfl rfl rfl (Go.Proofs.Ytcombjhkbjbncaa.W.quiet_assign rfl rfl) ?_
      refine WL.nil ?_
      refine TW.sreg ?_
      refine WL.call (hr := t_awake _) rfl rfl rfl rfl rfl (fun W => qk_rushlightlaw32_awake W _) ?_
      rintro e wq ⟨rfl, fq⟩
      refine ⟨_, rfl, ?_⟩
      replace bx4 := bx4.fr fq id
      replace ff := ff.trans fq
      refine O.split (fun hb => ?_) (fun hb => by exfalso; revert hb; first | (simp; done) | (simp; omega))
      refine WL.op rfl rfl rfl (Go.Proofs.Ytcombjhkbjbncaa.W.quiet_move rfl rfl) ?_
      refine WL.op rfl rfl rfl (Go.Proofs.Ytcombjhkbjbncaa.W.quiet_move rfl rfl) ?_
      refine WL.op rfl rfl rfl (Go.Proofs.Ytcombjhkbjbncaa.W.quiet_bin rfl rfl rfl (fun W => qb_eql_api_Errno W _ _ _ _)) ?_
      refine O.split (fun hb => ?_) (fun hb => by exfalso; revert hb; first | (simp; done) | (simp; omega))
      refine WL.op rfl rfl rfl (Go.Proofs.Ytcombjhkbjbncaa.W.quiet_pick rfl rfl rfl) ?_
      refine WL.op rfl rfl rfl (Go.Proofs.Ytcombjhkbjbncaa.W.quiet_move rfl rfl) ?_
      refine WL.op rfl rfl rfl (Go.Proofs.Ytcombjhkbjbncaa.W.quiet_move rfl rfl) ?_
      refine WL.op rfl rfl rfl (Go.Proofs.Ytcombjhkbjbncaa.W.quiet_bin rfl rfl rfl (fun W => qb_eql_api_Errno W _ _ _ _)) ?_
      refine O.split (fun hb => ?_) (fun hb => by exfalso; revert hb; first | (simp; done) | (simp; omega))
      refine WL.op rfl rfl rfl (Go.Proofs.Ytcombjhkbjbncaa.W.quiet_pick rfl rfl rfl) ?_
      refine WL.op rfl rfl rfl (Go.Proofs.Ytcombjhkbjbncaa.W.quiet_assign rfl rfl) ?_
      refine WL.nil ?_
      refine TW.rt ?_
      refine bodyw_ret rfl rfl ?_
      exact ⟨rfl, ff⟩
    · skip
      refine WL.op rfl rfl rfl (Go.Proofs.Ytcombjhkbjbncaa.W.quiet_move rfl rfl) ?_
      refine WL.ld rfl rfl rfl rfl rfl (qlB_api_Image _ _ _ _ _ _ _ _ _ _ _ bx1) ?_
      refine WL.call (hr := (rright_no ca da cc dc g hli _ hok)) rfl rfl rfl rfl rfl (fun W => qk_rushlightref32_Right W _) ?_
      rintro e w3 ⟨rfl, f3⟩
      refine ⟨_, rfl, ?_⟩
      replace bx1 := bx1.fr f3 id
      replace hca := hca.fr f3
      replace hda := hda.fr f3
      replace ff := ff.trans f3
      refine O.split (fun hb => by exfalso; revert hb; first | (simp; done) | (simp; omega)) (fun hb => ?_)
      refine WL.op rfl rfl rfl (Go.Proofs.Ytcombjhkbjbncaa.W.quiet_not rfl rfl) ?_
      refine WL.op rfl rfl rfl (Go.Proofs.Ytcombjhkbjbncaa.W.quiet_pick rfl rfl rfl) ?_
      refine WL.nil ?_
      refine TW.cond rfl (fun _ => ?_) (fun hb => by cases hb)
      refine TW.sreg ?_
      refine WL.call (hr := t_awake _) rfl rfl rfl rfl rfl (fun W => qk_rushlightlaw32_awake W _) ?_
      rintro e wq ⟨rfl, fq⟩
      refine ⟨_, rfl, ?_⟩
      replace bx1 := bx1.fr fq id
      replace hca := hca.fr fq
      replace hda := hda.fr fq
      replace ff := ff.trans fq
      refine WL.op rfl rfl rfl (Go.Proofs.Ytcombjhkbjbncaa.W.quiet_assign rfl rfl) ?_
      refine WL.nil ?_
      refine TW.rt ?_
      refine Xw.thn (by simp) ?_
      refine bodyw_ret rfl rfl ?_
      exact ⟨rfl, ff⟩
end Go.Proofs.Ytcombjhkbjbncaa
