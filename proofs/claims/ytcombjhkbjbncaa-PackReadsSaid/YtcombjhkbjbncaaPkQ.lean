/-
  Pack (layer 32): the walk of PackReads.
-/
import Derived.Test.YtcombjhkbjbncaaPkP
namespace Go.Proofs.Ytcombjhkbjbncaa
open Go.RowKit
set_option linter.unusedVariables false
set_option linter.unusedSimpArgs false
set_option linter.unnecessarySimpa false
theorem ql_api_Image (w : World) (b o : Nat) (u0 u1 u2 u3 : Value) (h0 : w.cell? ⟨b, o, none⟩ = some u0) (h1 : w.cell? ⟨b, o + 1, none⟩ = some u1) (h2 : w.cell? ⟨b, o + 2, none⟩ = some u2) (h3 : w.cell? ⟨b, o + 3, none⟩ = some u3) : (Instr.loadAt 25 (.pointer (some ⟨b, o, none⟩))).run Try.prog w = .ok (.agg #[u0, u1, u2, u3]) w := by simp [go_sem, h0, h1, h2, h3]
theorem qk_rushlightref32_Decode (w : World) (vs : Array Value) : (callFunc 13 vs).run Try.prog w = .ok (.enter 13 vs) w := by simp [go_sem]
theorem qa_rushlightref32_Read_1 (w : World) (b o : Nat) : (Instr.fieldAt 36 (.pointer (some ⟨b, o, none⟩)) 1).run Try.prog w = .ok (.pointer (some ⟨b, o + 4, none⟩)) w := by simp [go_sem]
theorem ql_bool (w : World) (p : Bool) (d : Addr) (h : w.cell? d = some (.bool p)) : (Instr.loadAt 4 (.pointer (some d))).run Try.prog w = .ok (.bool p) w := by simp [go_sem, h]
theorem qa_rushlightref32_Read_0 (w : World) (b o : Nat) : (Instr.fieldAt 36 (.pointer (some ⟨b, o, none⟩)) 0).run Try.prog w = .ok (.pointer (some ⟨b, o, none⟩)) w := by simp [go_sem]
set_option maxRecDepth 100000 in
theorem walk_reads (a : Option Addr) (c : Nat) (l : List Int) (hc : l.length ≤ c) (hby : Byt l) (w : World) (ha : NumAt .u8 w.heap.size w a l) : Calls Try.prog 4 #[.slice a l.length c] w fun e w' => e = .returned (.bool true) ∧ Fr (fun _ => False) w w' := by
  have ff := Fr.refl (fun _ => False) w
  refine calls_tw Try.func4 rfl rfl (Nat.le_of_ble_eq_true rfl) ?_
  refine TW.sreg ?_
  refine WL.op rfl rfl rfl (Go.Proofs.Ytcombjhkbjbncaa.W.quiet_assign rfl rfl) ?_
  refine WL.nil ?_
  refine TW.seq ?_
  refine TW.sreg ?_
  refine WL.op rfl rfl rfl (Go.Proofs.Ytcombjhkbjbncaa.W.quiet_move rfl rfl) ?_
  refine O.len rfl rfl rfl rfl rfl (qn_s_uint8 _ _ _ _) ?_
  refine WL.op rfl rfl rfl (Go.Proofs.Ytcombjhkbjbncaa.W.quiet_bin rfl rfl rfl (fun W => qb_gtr_int W _ _ _ _)) ?_
  refine O.split (fun h1 => ?_) (fun h1 => ?_)
  · skip
    refine WL.nil ?_
    refine TW.cond rfl (fun _ => ?_) (fun hb => by cases hb)
    refine TW.sreg ?_
    refine WL.call (hr := t_awake _) rfl rfl rfl rfl rfl (fun W => qk_rushlightlaw32_awake W _) ?_
    rintro e wq ⟨rfl, fq⟩
    refine ⟨_, rfl, ?_⟩
    replace ha := ha.fr fq
    replace ff := ff.trans fq
    refine WL.op rfl rfl rfl (Go.Proofs.Ytcombjhkbjbncaa.W.quiet_assign rfl rfl) ?_
    refine WL.nil ?_
    refine TW.rt ?_
    refine Xw.thn (by simp) ?_
    refine bodyw_ret rfl rfl ?_
    exact ⟨rfl, ff⟩
  · skip
    have hl : l.length ≤ 4000 := by have := of_decide_eq_false h1; omega
    refine WL.nil ?_
    by_cases hIs : ∃ g, Is l g
    · obtain ⟨g, hIs⟩ := hIs
      have hok := hIs.1
      have hwf := hIs.2.1
      refine TW.cond rfl (fun hb => by cases hb) (fun _ => ?_)
      refine TW.skip ?_
      refine TW.sreg ?_
      refine WL.op rfl rfl rfl (Go.Proofs.Ytcombjhkbjbncaa.W.quiet_move rfl rfl) ?_
      refine WL.call (hr := (dec_ok a c l _ rfl (by omega) hc _ (ha.up ff.size) hby g hIs)) rfl rfl rfl rfl rfl (fun W => qk_pack_Decode W _) ?_
      rintro e w1 ⟨ca2, da2, cc2, dc2, rfl, hca2, hda2, hdc2, f1⟩
      refine ⟨_, rfl, ?_⟩
      replace ha := ha.fr f1
      replace ff := ff.trans f1
      have hz2 := Nat.le_refl w1.heap.size
      refine WL.op rfl rfl rfl (Go.Proofs.Ytcombjhkbjbncaa.W.quiet_move rfl rfl) ?_
      refine O.ext rfl rfl rfl rfl rfl rfl ?_
      refine O.ext rfl rfl rfl rfl rfl rfl ?_
      have lw1 := ff.size
      refine O.allocR rfl rfl rfl rfl (qzR_api_Image w1) ?_
      rintro wa1 ⟨fa1, bx1⟩
      replace ha := ha.fr fa1
      replace hca2 := hca2.fr fa1
      replace hda2 := hda2.fr fa1
      replace hz2 := Nat.le_trans hz2 fa1.size
      replace ff := ff.trans fa1
      refine O.storeR rfl rfl rfl rfl rfl (qsA_api_Image wa1 _ _ _ _ _ _ _ _ _ _ _ _ _ bx1) ?_
      rintro wa2 ⟨fa2, bx1x⟩
      replace ha := ha.frZ fa2 (fun q hq e => by omega)
      replace hca2 := hca2.frZ fa2 (fun q hq e => by omega)
      replace hda2 := hda2.frZ fa2 (fun q hq e => by omega)
      replace hz2 := Nat.le_trans hz2 fa2.size
      replace ff := ff.trans' fa2 (fun q hq e => by omega)
      clear bx1
      have bx1 := bx1x
      clear bx1x
      refine WL.op rfl rfl rfl (Go.Proofs.Ytcombjhkbjbncaa.W.quiet_assign rfl rfl) ?_
      refine WL.nil ?_
      refine TW.sreg ?_
      refine WL.op rfl rfl rfl (Go.Proofs.Ytcombjhkbjbncaa.W.quiet_move rfl rfl) ?_
      refine WL.call (hr := (rdec_ok a c l (by omega) _ (ha.up ff.size) hby g hIs)) rfl rfl rfl rfl rfl (fun W => qk_rushlightref32_Decode W _) ?_
      rintro e w2 ⟨ca3, da3, cc3, dc3, rfl, hca3, hda3, hdc3, f2⟩
      refine ⟨_, rfl, ?_⟩
      replace bx1 := bx1.fr f2 id
      replace ha := ha.fr f2
      replace hca2 := hca2.fr f2
      replace hda2 := hda2.fr f2
      replace hz2 := Nat.le_trans hz2 f2.size
      replace ff := ff.trans f2
      have lt2_bx1 := bx1.lt
      have lw2 := ff.size
      refine O.allocR rfl rfl rfl rfl (qzR_rushlightref32_Read w2) ?_
      rintro wa3 ⟨fa3, bx2⟩
      replace bx1 := bx1.fr fa3 id
      replace ha := ha.fr fa3
      replace hca2 := hca2.fr fa3
      replace hda2 := hda2.fr fa3
      replace hz2 := Nat.le_trans hz2 fa3.size
      replace hca3 := hca3.fr fa3
      replace hda3 := hda3.fr fa3
      replace ff := ff.trans fa3
      refine O.storeR rfl rfl rfl rfl rfl (qsA_rushlightref32_Read wa3 _ _ _ _ _ _ _ _ _ _ _ _ _ _ _ bx2) ?_
      rintro wa4 ⟨fa4, bx2x⟩
      replace bx1 := bx1.fr fa4 (fun e => by omega)
      replace ha := ha.frZ fa4 (fun q hq e => by omega)
      replace hca2 := hca2.frZ fa4 (fun q hq e => by omega)
      replace hda2 := hda2.frZ fa4 (fun q hq e => by omega)
      replace hz2 := Nat.le_trans hz2 fa4.size
      replace hca3 := hca3.frZ fa4 (fun q hq e => by omega)
      replace hda3 := hda3.frZ fa4 (fun q hq e => by omega)
      replace ff := ff.trans' fa4 (fun q hq e => by omega)
      clear bx2
      have bx2 := bx2x
      clear bx2x
      refine WL.nil ?_
      refine TW.seq ?_
      refine TW.sreg ?_
      refine WL.op rfl rfl rfl (Go.Proofs.Ytcombjhkbjbncaa.W.quiet_field rfl rfl (fun W => (qa_rushlightref32_Read_1 W _ _))) ?_
      refine WL.ld rfl rfl rfl rfl rfl (ql_bool _ _ _ (bx2.cell (j := 4) rfl)) ?_
      refine O.split (fun hb => ?_) (fun hb => by exfalso; revert hb; first | (simp; done) | (simp; omega))
      refine WL.op rfl rfl rfl (Go.Proofs.Ytcombjhkbjbncaa.W.quiet_not rfl rfl) ?_
      refine WL.nil ?_
      refine TW.cond rfl (fun hb => by cases hb) (fun _ => ?_)
      refine TW.skip ?_
      refine TW.sreg ?_
      refine WL.ld rfl rfl rfl rfl rfl (qlB_api_Image _ _ _ _ _ _ _ _ _ _ _ bx1) ?_
      refine WL.call (hr := (t_encode ca2 da2 cc2 dc2 g hwf hdc2 _ (hca2.up hz2) (hda2.up hz2) hok)) rfl rfl rfl rfl rfl (fun W => qk_pack_Encode W _) ?_
      rintro e w3 ⟨vE, rfl, hv, f3⟩
      refine ⟨_, rfl, ?_⟩
      replace bx1 := bx1.fr f3 id
      replace bx2 := bx2.fr f3 id
      replace ha := ha.fr f3
      replace hca2 := hca2.fr f3
      replace hda2 := hda2.fr f3
      replace hz2 := Nat.le_trans hz2 f3.size
      replace hca3 := hca3.fr f3
      replace hda3 := hda3.fr f3
      replace ff := ff.trans f3
      rw [hIs.2.2] at hv
      obtain ⟨va, vc, rfl⟩ := Row.form hv
      refine WL.op rfl rfl rfl (Go.Proofs.Ytcombjhkbjbncaa.W.quiet_move rfl rfl) ?_
      refine O.ext rfl rfl rfl rfl rfl rfl ?_
      refine O.ext rfl rfl rfl rfl rfl rfl ?_
      refine WL.op rfl rfl rfl (Go.Proofs.Ytcombjhkbjbncaa.W.quiet_assign rfl rfl) ?_
      refine WL.op rfl rfl rfl (Go.Proofs.Ytcombjhkbjbncaa.W.quiet_assign rfl rfl) ?_
      refine WL.nil ?_
      refine TW.sreg ?_
      refine WL.call (hr := t_awake _) rfl rfl rfl rfl rfl (fun W => qk_rushlightlaw32_awake W _) ?_
      rintro e wq ⟨rfl, fq⟩
      refine ⟨_, rfl, ?_⟩
      replace bx1 := bx1.fr fq id
      replace bx2 := bx2.fr fq id
      replace ha := ha.fr fq
      replace hca2 := hca2.fr fq
      replace hda2 := hda2.fr fq
      replace hz2 := Nat.le_trans hz2 fq.size
      replace hca3 := hca3.fr fq
      replace hda3 := hda3.fr fq
      replace hv := Row.fr hv fq (fun _ _ => id)
      replace ff := ff.trans fq
      refine O.split (fun hb => ?_) (fun hb => by exfalso; revert hb; first | (simp; done) | (simp; omega))
      refine WL.op rfl rfl rfl (Go.Proofs.Ytcombjhkbjbncaa.W.quiet_move rfl rfl) ?_
      refine WL.op rfl rfl rfl (Go.Proofs.Ytcombjhkbjbncaa.W.quiet_move rfl rfl) ?_
      refine WL.op rfl rfl rfl (Go.Proofs.Ytcombjhkbjbncaa.W.quiet_bin rfl rfl rfl (fun W => qb_eql_api_Errno W _ _ _ _)) ?_
      refine O.split (fun hb => ?_) (fun hb => by exfalso; revert hb; first | (simp; done) | (simp; omega))
      refine WL.op rfl rfl rfl (Go.Proofs.Ytcombjhkbjbncaa.W.quiet_pick rfl rfl rfl) ?_
      refine WL.op rfl rfl rfl (Go.Proofs.Ytcombjhkbjbncaa.W.quiet_move rfl rfl) ?_
      refine WL.ld rfl rfl rfl rfl rfl (qlB_api_Image _ _ _ _ _ _ _ _ _ _ _ bx1) ?_
      refine WL.op rfl rfl rfl (Go.Proofs.Ytcombjhkbjbncaa.W.quiet_field rfl rfl (fun W => (qa_rushlightref32_Read_0 W _ _))) ?_
      refine WL.ld rfl rfl rfl rfl rfl (ql_api_Image _ _ _ _ _ _ _ (bx2.cell (j := 0) rfl) (bx2.cell (j := 1) rfl) (bx2.cell (j := 2) rfl) (bx2.cell (j := 3) rfl)) ?_
      refine WL.call (hr := (t_same _ _ _ _ ca2 da2 ca3 da3 cc2 dc2 cc3 dc3 g (by have := hok.c1; omega) _ hca2 hda2 hca3 hda3)) rfl rfl rfl rfl rfl (fun W => qk_rushlightlaw32_Same W _) ?_
      rintro e w8 ⟨rfl, f8⟩
      refine ⟨_, rfl, ?_⟩
      replace bx1 := bx1.fr f8 id
      replace bx2 := bx2.fr f8 id
      replace ha := ha.fr f8
      replace hca2 := hca2.fr f8
      replace hda2 := hda2.fr f8
      replace hz2 := Nat.le_trans hz2 f8.size
      replace hca3 := hca3.fr f8
      replace hda3 := hda3.fr f8
      replace hv := Row.fr hv f8 (fun _ _ => id)
      replace ff := ff.trans f8
      refine O.split (fun hb => ?_) (fun hb => by exfalso; revert hb; first | (simp; done) | (simp; omega))
      refine WL.op rfl rfl rfl (Go.Proofs.Ytcombjhkbjbncaa.W.quiet_pick rfl rfl rfl) ?_
      refine WL.op rfl rfl rfl (Go.Proofs.Ytcombjhkbjbncaa.W.quiet_move rfl rfl) ?_
      refine WL.op rfl rfl rfl (Go.Proofs.Ytcombjhkbjbncaa.W.quiet_move rfl rfl) ?_
      refine WL.op rfl rfl rfl (Go.Proofs.Ytcombjhkbjbncaa.W.quiet_bin rfl rfl rfl (fun W => qb_eql_api_Errno W _ _ _ _)) ?_
      refine O.split (fun hb => ?_) (fun hb => by exfalso; revert hb; first | (simp; done) | (simp; omega))
      refine WL.op rfl rfl rfl (Go.Proofs.Ytcombjhkbjbncaa.W.quiet_pick rfl rfl rfl) ?_
      refine WL.op rfl rfl rfl (Go.Proofs.Ytcombjhkbjbncaa.W.quiet_move rfl rfl) ?_
      refine WL.op rfl rfl rfl (Go.Proofs.Ytcombjhkbjbncaa.W.quiet_move rfl rfl) ?_
      refine O.cv rfl rfl rfl rfl rfl (str_of (Row.num hv)) ?_
      refine WL.op rfl rfl rfl (Go.Proofs.Ytcombjhkbjbncaa.W.quiet_move rfl rfl) ?_
      refine O.cv rfl rfl rfl rfl rfl (str_of ha) ?_
      refine WL.op rfl rfl rfl (Go.Proofs.Ytcombjhkbjbncaa.W.quiet_bin rfl rfl rfl (fun W => bn_eqs W _ _ (u8s l) (u8s l))) ?_
      refine O.split (fun hb => ?_) (fun hb => by exfalso; revert hb; first | (simp; done) | (simp; omega))
      refine WL.op rfl rfl rfl (Go.Proofs.Ytcombjhkbjbncaa.W.quiet_pick rfl rfl rfl) ?_
      refine WL.op rfl rfl rfl (Go.Proofs.Ytcombjhkbjbncaa.W.quiet_assign rfl rfl) ?_
      refine WL.nil ?_
      refine TW.rt ?_
      refine bodyw_ret rfl rfl ?_
      exact ⟨rfl, ff⟩
    · have hno : ∀ g, ¬Is l g := fun g h => hIs ⟨g, h⟩
      refine TW.cond rfl (fun hb => by cases hb) (fun _ => ?_)
      refine TW.skip ?_
      refine TW.sreg ?_
      refine WL.op rfl rfl rfl (Go.Proofs.Ytcombjhkbjbncaa.W.quiet_move rfl rfl) ?_
      refine WL.call (hr := (dec_no a c l _ rfl (by omega) hc _ (ha.up ff.size) hby hno)) rfl rfl rfl rfl rfl (fun W => qk_pack_Decode W _) ?_
      rintro e w1 ⟨rfl, f1⟩
      refine ⟨_, rfl, ?_⟩
      replace ha := ha.fr f1
      replace ff := ff.trans f1
      refine WL.op rfl rfl rfl (Go.Proofs.Ytcombjhkbjbncaa.W.quiet_move rfl rfl) ?_
      refine O.ext rfl rfl rfl rfl rfl rfl ?_
      refine O.ext rfl rfl rfl rfl rfl rfl ?_
      have lw3 := ff.size
      refine O.allocR rfl rfl rfl rfl (qzR_api_Image w1) ?_
      rintro wa5 ⟨fa5, bx3⟩
      replace ha := ha.fr fa5
      replace ff := ff.trans fa5
      refine O.storeR rfl rfl rfl rfl rfl (qsA_api_Image wa5 _ _ _ _ _ _ _ _ _ _ _ _ _ bx3) ?_
      rintro wa6 ⟨fa6, bx3x⟩
      replace ha := ha.frZ fa6 (fun q hq e => by omega)
      replace ff := ff.trans' fa6 (fun q hq e => by omega)
      clear bx3
      have bx3 := bx3x
      clear bx3x
      refine WL.op rfl rfl rfl (Go.Proofs.Ytcombjhkbjbncaa.W.quiet_assign rfl rfl) ?_
      refine WL.nil ?_
      refine TW.sreg ?_
      refine WL.op rfl rfl rfl (Go.Proofs.Ytcombjhkbjbncaa.W.quiet_move rfl rfl) ?_
      refine WL.call (hr := (rdec_no a c l (by omega) _ (ha.up ff.size) hby hno)) rfl rfl rfl rfl rfl (fun W => qk_rushlightref32_Decode W _) ?_
      rintro e w2 ⟨rfl, f2⟩
      refine ⟨_, rfl, ?_⟩
      replace bx3 := bx3.fr f2 id
      replace ha := ha.fr f2
      replace ff := ff.trans f2
      have lt4_bx3 := bx3.lt
      have lw4 := ff.size
      refine O.allocR rfl rfl rfl rfl (qzR_rushlightref32_Read w2) ?_
      rintro wa7 ⟨fa7, bx4⟩
      replace bx3 := bx3.fr fa7 id
      replace ha := ha.fr fa7
      replace ff := ff.trans fa7
      refine O.storeR rfl rfl rfl rfl rfl (qsA_rushlightref32_Read wa7 _ _ _ _ _ _ _ _ _ _ _ _ _ _ _ bx4) ?_
      rintro wa8 ⟨fa8, bx4x⟩
      replace bx3 := bx3.fr fa8 (fun e => by omega)
      replace ha := ha.frZ fa8 (fun q hq e => by omega)
      replace ff := ff.trans' fa8 (fun q hq e => by omega)
      clear bx4
      have bx4 := bx4x
      clear bx4x
      refine WL.nil ?_
      refine TW.seq ?_
      refine TW.sreg ?_
      refine WL.op rfl rfl rfl (Go.Proofs.Ytcombjhkbjbncaa.W.quiet_field rfl rfl (fun W => (qa_rushlightref32_Read_1 W _ _))) ?_
      refine WL.ld rfl rfl rfl rfl rfl (ql_bool _ _ _ (bx4.cell (j := 4) rfl)) ?_
      refine O.split (fun hb => by exfalso; revert hb; first | (simp; done) | (simp; omega)) (fun hb => ?_)
      refine WL.op rfl rfl rfl (Go.Proofs.Ytcombjhkbjbncaa.W.quiet_not rfl rfl) ?_
      refine WL.nil ?_
      refine TW.cond rfl (fun _ => ?_) (fun hb => by cases hb)
      refine TW.sreg ?_
      refine WL.call (hr := t_awake _) rfl rfl rfl rfl rfl (fun W => qk_rushlightlaw32_awake W _) ?_
      rintro e wq ⟨rfl, fq⟩
      refine ⟨_, rfl, ?_⟩
      replace bx3 := bx3.fr fq id
      replace bx4 := bx4.fr fq id
      replace ha := ha.fr fq
      replace ff := ff.trans fq
      refine O.split (fun hb => ?_) (fun hb => by exfalso; revert hb; first | (simp; done) | (simp; omega))
      refine WL.op rfl rfl rfl (Go.Proofs.Ytcombjhkbjbncaa.W.quiet_move rfl rfl) ?_
      refine WL.op rfl rfl rfl (Go.Proofs.Ytcombjhkbjbncaa.W.quiet_move rfl rfl) ?_
      refine WL.op rfl rfl rfl (Go.Proofs.Ytcombjhkbjbncaa.W.quiet_bin rfl rfl rfl (fun W => qb_eql_api_Errno W _ _ _ _)) ?_
      refine O.split (fun hb => ?_) (fun hb => by exfalso; revert hb; first | (simp; done) | (simp; omega))
      refine WL.op rfl rfl rfl (Go.Proofs.Ytcombjhkbjbncaa.W.quiet_pick rfl rfl rfl) ?_
      refine WL.op rfl rfl rfl (Go.Proofs.Ytcombjhkbjbncaa.W.quiet_move rfl rfl) ?_
      refine WL.ld rfl rfl rfl rfl rfl (qlB_api_Image _ _ _ _ _ _ _ _ _ _ _ bx3) ?_
      refine O.bld rfl rfl rfl rfl rfl (qd_api_Image_ _) ?_
      refine WL.call (hr := (t_same 0 0 0 0 none none none none 0 0 0 0 ⟨[], [], 0, 0⟩ (Nat.zero_le _) _ NumAt.nil NumAt.nil NumAt.nil NumAt.nil)) rfl rfl rfl rfl rfl (fun W => qk_rushlightlaw32_Same W _) ?_
      rintro e w8 ⟨rfl, f8⟩
      refine ⟨_, rfl, ?_⟩
      replace bx3 := bx3.fr f8 id
      replace bx4 := bx4.fr f8 id
      replace ha := ha.fr f8
      replace ff := ff.trans f8
      refine WL.op rfl rfl rfl (Go.Proofs.Ytcombjhkbjbncaa.W.quiet_pick rfl rfl rfl) ?_
      refine WL.op rfl rfl rfl (Go.Proofs.Ytcombjhkbjbncaa.W.quiet_assign rfl rfl) ?_
      refine WL.nil ?_
      refine TW.rt ?_
      refine Xw.thn (by simp) ?_
      refine bodyw_ret rfl rfl ?_
      exact ⟨rfl, ff⟩
end Go.Proofs.Ytcombjhkbjbncaa
