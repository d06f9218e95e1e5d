/-
  Pack (layer 32): data as runs.
-/
import Derived.Test.YtcombjhkbjbncaaPkC
namespace Go.Proofs.Ytcombjhkbjbncaa
open Go.RowKit
set_option linter.unusedVariables false
set_option linter.unusedSimpArgs false
set_option linter.unnecessarySimpa false
theorem qb_gtr_int (w : World) (x y : Operand) (m n : Int) : ((do eqGuard .gtr 3 x y (.int .i64 m) (.int .i64 n); binOp .gtr 3 (.int .i64 m) (.int .i64 n) : Sem Value)).run Try.prog w = .ok (.bool (decide (n < m))) w := by simp [go_sem]
theorem qv_s_uint8_1 (w : World) (u0_m0 : Int) : (Instr.buildSlice 23 1 #[(0, .int .u8 u0_m0)]).run Try.prog w = .ok (.slice (some ⟨w.heap.size, 0, none⟩) 1 1) (w.alloc (.cells #[.int .u8 u0_m0] 5)) := by simp [go_sem]
theorem qk_pack_others (w : World) (vs : Array Value) : (callFunc 26 vs).run Try.prog w = .ok (.enter 26 vs) w := by simp [go_sem]
set_option maxRecDepth 100000 in
theorem t_appruns (B : Nat) (v0 : Value) (xs0 : List Int) (da : Option Addr) (dc : Nat) (d0 : List Int) (hdl : d0.length ≤ 400000) (hlb : (xs0 ++ runs d0).length ≤ 900000) (hdc : d0.length ≤ dc) (w : World) (hB : B ≤ w.heap.size) (hv : R8 B w v0 xs0) (hda : NumAt .u8 B w da d0) : Calls Try.prog 16 #[v0, .slice da d0.length dc] w fun e w' => ∃ v', e = .returned v' ∧ R8 B w' v' (xs0 ++ runs d0) ∧ Fr (fun q => v0.ownBlock = some q) w w' ∧ ∀ k, v'.ownBlock = some k → v0.ownBlock = some k ∨ w.heap.size ≤ k := by
  refine calls_tw Try.func16 rfl rfl (Nat.le_of_ble_eq_true rfl) ?_
  refine TW.sreg ?_
  refine WL.op rfl rfl rfl (Go.Proofs.Ytcombjhkbjbncaa.W.quiet_assign rfl rfl) ?_
  refine WL.nil ?_
  refine TW.seq ?_
  refine TW.block ?_
  refine O.loopX (n := d0.length) (fun j a W => ∃ (v : Value) (xs d : List Int) (ad : Option Addr) (c : Nat), Kn Try.f16.ntmps [(0, v), (1, .slice ad d.length c)] a ∧ Fr (fun q => v0.ownBlock = some q) w W ∧ B ≤ W.heap.size ∧ R8 B W v xs ∧ (∀ k, v.ownBlock = some k → v0.ownBlock = some k ∨ w.heap.size ≤ k) ∧ NumAt .u8 B W ad d ∧ d.length ≤ c ∧ xs ++ runs d = xs0 ++ runs d0 ∧ d.length + j = d0.length) 0 (Nat.zero_le _) (fun a k => ⟨v0, xs0, d0, da, dc, (by (repeat (refine Kn.cons k rfl ?_)); exact k.base), Fr.refl _ _, hB, hv, (fun k h => .inl h), hda, hdc, rfl, by omega⟩) ?_
  rintro j a wl hj ⟨v, xs, d, ad, c, k, ff, hB, hv, ho, hda, hdc, hxs, hdj⟩
  refine TW.app (s := [(0, v), (1, .slice ad d.length c)]) ?_ k
  have hlx : (xs ++ runs d).length ≤ 900000 := by rw [hxs]; exact hlb
  rw [List.length_append] at hlx
  refine TW.seq ?_
  refine TW.sreg ?_
  refine WL.op rfl rfl rfl (Go.Proofs.Ytcombjhkbjbncaa.W.quiet_move rfl rfl) ?_
  refine O.len rfl rfl rfl rfl rfl (qn_s_uint8 _ _ _ _) ?_
  refine WL.op rfl rfl rfl (Go.Proofs.Ytcombjhkbjbncaa.W.quiet_bin rfl rfl rfl (fun W => qb_gtr_int W _ _ _ _)) ?_
  refine O.split (fun b1 => ?_) (fun b1 => ?_)
  · skip
    have hd0 : 0 < d.length := by have := of_decide_eq_true b1; omega
    have hdn : d ≠ [] := fun e => by subst e; simp at hd0
    have hwz := ff.size
    refine WL.nil ?_
    refine TW.cond rfl (fun _ => ?_) (fun hb => by cases hb)
    refine TW.skip ?_
    refine TW.block ?_
    refine TW.sreg ?_
    refine WL.op rfl rfl rfl (Go.Proofs.Ytcombjhkbjbncaa.W.quiet_move rfl rfl) ?_
    refine WL.call (hr := (t_zeros B ad c d (by omega) _ hda)) rfl rfl rfl rfl rfl (fun W => qk_pack_zeros W _) ?_
    rintro e wz ⟨rfl, fz⟩
    refine ⟨_, rfl, ?_⟩
    replace ff := ff.trans' fz (fun q hq e => e.elim)
    replace hv := Row.fr hv fz (fun _ _ => id)
    replace hB := Nat.le_trans hB fz.size
    replace hda := hda.fr fz
    refine WL.op rfl rfl rfl (Go.Proofs.Ytcombjhkbjbncaa.W.quiet_assign rfl rfl) ?_
    refine WL.nil ?_
    refine TW.seq ?_
    refine TW.sreg ?_
    refine WL.op rfl rfl rfl (Go.Proofs.Ytcombjhkbjbncaa.W.quiet_move rfl rfl) ?_
    refine WL.op rfl rfl rfl (Go.Proofs.Ytcombjhkbjbncaa.W.quiet_bin rfl rfl rfl (fun W => qb_gtr_int W _ _ _ _)) ?_
    refine O.split (fun b2 => ?_) (fun b2 => ?_)
    · skip
      have hb : bgn d := Classical.not_not.1 fun h => by have := of_decide_eq_true b2; have := (zs0 d).2 h; omega
      have hzs : zsF d = zl d := by unfold zsF; rw [if_pos hb]
      have hz1 := zl_pos hb
      have hz2 := zl_le d
      have hz3 := zl_128 d
      rw [hzs]
      have hzw := ff.size
      refine WL.nil ?_
      refine TW.cond rfl (fun _ => ?_) (fun hb => by cases hb)
      refine TW.reg ?_
      refine WL.op rfl rfl rfl (Go.Proofs.Ytcombjhkbjbncaa.W.quiet_move rfl rfl) ?_
      refine WL.op rfl rfl rfl (Go.Proofs.Ytcombjhkbjbncaa.W.quiet_move rfl rfl) ?_
      refine WL.op rfl rfl rfl (Go.Proofs.Ytcombjhkbjbncaa.W.quiet_bin rfl rfl rfl (fun W => qb_add_int W _ _ _ _ (by omega) (by omega))) ?_
      refine O.cv rfl rfl rfl rfl rfl (cv_i8 _ _) ?_
      refine O.bslR rfl rfl rfl rfl rfl (qv_s_uint8_1 wz _) ?_
      rintro wa1 ⟨fa1, bx1⟩
      replace ff := ff.trans' fa1 (fun q hq e => e.elim)
      replace hv := Row.fr hv fa1 (fun _ _ => id)
      replace hB := Nat.le_trans hB fa1.size
      replace hda := hda.fr fa1
      refine WL.append rfl rfl rfl rfl rfl rfl (R8.appN [(127 + (zl d : Int)) % 256] _ hv hB (by omega) (by simp) (bx_num [(127 + (zl d : Int)) % 256] bx1)) ?_
      rintro v3 w3 ⟨hv3, hF3, ho3⟩
      have hvk := fun k hk => (Row.lt hv k hk).1
      replace ff := ff.trans' hF3 (fun q hq e => (ho q e).elim id (fun h => absurd hq (by omega)))
      replace hda := hda.frZ hF3 (fun q hq e => by have := hvk q e; omega)
      replace hB := Nat.le_trans hB hF3.size
      have hv0 := hv
      clear hv
      have hv := hv3
      -- world w3
      have hon : ∀ k, v3.ownBlock = some k → v0.ownBlock = some k ∨ w.heap.size ≤ k := fun k hk => (ho3 k hk).elim (ho k) (fun h => .inr (by have := fa1.size; omega))
      obtain ⟨kn, hkn⟩ : ∃ kn, kn = zl d := ⟨_, rfl⟩
      have hst : [(127 + (zl d : Int)) % 256] ++ runs (d.drop kn) = runs d := by rw [runs_z hb, hkn, show (127 + (zl d : Int)) % 256 = 127 + (zl d : Int) by omega]; rfl
      rw [← hkn]
      refine WL.op rfl rfl rfl (Go.Proofs.Ytcombjhkbjbncaa.W.quiet_assign rfl rfl) ?_
      refine WL.nil ?_
      refine TW.reg ?_
      refine WL.op rfl rfl rfl (Go.Proofs.Ytcombjhkbjbncaa.W.quiet_move rfl rfl) ?_
      refine WL.op rfl rfl rfl (Go.Proofs.Ytcombjhkbjbncaa.W.quiet_move rfl rfl) ?_
      obtain ⟨a9, hsl, ha9, hc9⟩ := sl_from 23 Try.underlying23 hda kn (by omega) hdc
      refine O.sl1 rfl rfl rfl rfl rfl rfl (hsl _) ?_
      refine WL.op rfl rfl rfl (Go.Proofs.Ytcombjhkbjbncaa.W.quiet_assign rfl rfl) ?_
      refine WL.end ?_
      refine Xw.nblk ?_
      refine Xw.any (fun a k => ?_)
      refine ⟨j + kn, by omega, by omega, _, _, d.drop kn, a9, c - kn, (by (repeat (refine Kn.cons k rfl ?_)); exact k.base), ff, hB, hv, hon, ha9, hc9, ?_, by rw [List.length_drop]; omega⟩
      rw [← hxs, ← hst]; simp only [List.append_assoc, List.cons_append, List.nil_append]
    · skip
      have hb : ¬bgn d := (zs0 d).1 (by have := of_decide_eq_false b2; omega)
      refine WL.nil ?_
      refine TW.cond rfl (fun hb => by cases hb) (fun _ => ?_)
      refine TW.sreg ?_
      refine WL.op rfl rfl rfl (Go.Proofs.Ytcombjhkbjbncaa.W.quiet_move rfl rfl) ?_
      refine WL.call (hr := (t_others B ad c d (by omega) hdc _ hda)) rfl rfl rfl rfl rfl (fun W => qk_pack_others W _) ?_
      rintro e wo ⟨rfl, fo⟩
      refine ⟨_, rfl, ?_⟩
      replace ff := ff.trans' fo (fun q hq e => e.elim)
      replace hv := Row.fr hv fo (fun _ _ => id)
      replace hB := Nat.le_trans hB fo.size
      replace hda := hda.fr fo
      have ho1 := oth_pos hdn hb
      have ho2 := oth_le d
      have hzw := ff.size
      have htl : (d.take (oth d)).length = oth d := by rw [List.length_take]; omega
      refine WL.op rfl rfl rfl (Go.Proofs.Ytcombjhkbjbncaa.W.quiet_assign rfl rfl) ?_
      refine WL.nil ?_
      obtain ⟨a2, hsl2, ha2, hc2⟩ := sl_from 23 Try.underlying23 hda (oth d) ho2.2 hdc
      have hva := hv
      refine TW.regH (fun W => Fr (fun q => v.ownBlock = some q) wo W) (by kernel_rfl) ?_
      have fd : Fr (fun _ => False) wo wo.drew := (Fr.refl _ _).drewN 1
      have HW : Fr (fun q => v.ownBlock = some q) wo wo.drew := (Fr.refl _ _).drewN 1
      replace ff := ff.trans' fd (fun q hq e => e.elim)
      replace hv := Row.fr hv fd (fun _ _ => id)
      replace hB := Nat.le_trans hB fd.size
      replace hda := hda.fr fd
      generalize hV : wo.drew = V1 at *
      clear hV
      refine WH.take 0 rfl (by kernel_rfl) (by kernel_rfl) (by kernel_rfl) (fun _ _ _ _ _ h => h) rfl rfl rfl HW (RH.move rfl rfl) ?_
      refine WH.take 1 rfl (by kernel_rfl) (by kernel_rfl) (by kernel_rfl) (fun _ _ _ _ _ h => h) rfl rfl rfl HW (RH.move rfl rfl) ?_
      refine WH.take 2 rfl (by kernel_rfl) (by kernel_rfl) (by kernel_rfl) (fun _ _ _ _ _ h => h) rfl rfl rfl HW (RH.cv rfl rfl (fun W hW => (cv_i8 W _))) ?_
      refine WH.take 5 rfl (by kernel_rfl) (by kernel_rfl) (by kernel_rfl) (fun _ _ _ _ _ h => h) rfl rfl rfl HW (RH.move rfl rfl) ?_
      refine WH.take 6 rfl (by kernel_rfl) (by kernel_rfl) (by kernel_rfl) (fun _ _ _ _ _ h => h) rfl rfl rfl HW (RH.move rfl rfl) ?_
      refine WH.take 7 rfl (by kernel_rfl) (by kernel_rfl) (by kernel_rfl) (fun _ _ _ _ _ h => h) rfl rfl rfl HW (RH.sl2 rfl rfl rfl (fun W hW => (sl_to 23 Try.underlying23 _ _ _ _ (by omega) W))) ?_
      refine WH.one 3 (by kernel_rfl) rfl ?_ 
      refine O.bslR rfl rfl rfl rfl rfl (qv_s_uint8_1 V1 _) ?_
      rintro wa2 ⟨fa2, bx2⟩
      replace ff := ff.trans' fa2 (fun q hq e => e.elim)
      replace hv := Row.fr hv fa2 (fun _ _ => id)
      replace hB := Nat.le_trans hB fa2.size
      replace hda := hda.fr fa2
      replace HW := HW.trans' fa2 (fun q hq e => e.elim)
      refine WL.fin HW ?_
      refine WH.one 4 (by kernel_rfl) rfl ?_ 
      refine WL.append rfl rfl rfl rfl rfl rfl (R8.appN [(oth d : Int) % 256] _ hv hB (by omega) (by simp) (bx_num [(oth d : Int) % 256] bx2)) ?_
      rintro v3 w3 ⟨hv3, hF3, ho3⟩
      have hvk := fun k hk => (Row.lt hv k hk).1
      replace ff := ff.trans' hF3 (fun q hq e => (ho q e).elim id (fun h => absurd hq (by omega)))
      replace HW := HW.trans' hF3 (fun q hq e => e)
      replace hda := hda.frZ hF3 (fun q hq e => by have := hvk q e; omega)
      replace hB := Nat.le_trans hB hF3.size
      have hzw3 := bx2.lt
      have s1 := fd.size
      have s2 := fa2.size
      have s3 := hF3.size
      clear hv
      have hv := hv3
      -- world w3
      refine WL.fin HW ?_
      refine WH.one 8 (by kernel_rfl) rfl ?_ 
      have happ := fun ty => R8.appN (sc := c) (d.take (oth d)) ty hv hB (by simp; omega) (by simp; omega) (hda.take (oth d))
      simp only [htl] at happ
      refine WL.append rfl rfl rfl rfl rfl rfl (happ _) ?_
      rintro v4 w4 ⟨hv4, hF4, ho4⟩
      have hvk4 := fun k hk => (Row.lt hv k hk).1
      replace ff := ff.trans' hF4 (fun q hq e => (ho3 q e).elim (fun e => (ho q e).elim id (fun h => absurd hq (by omega))) (fun h => absurd hq (by omega)))
      replace HW := HW.trans' hF4 (fun q hq e => (ho3 q e).elim id (fun h => absurd hq (by omega)))
      replace hda := hda.frZ hF4 (fun q hq e => by have := hvk4 q e; omega)
      replace hB := Nat.le_trans hB hF4.size
      clear hv
      have hv := hv4
      -- world w4
      refine WL.fin HW ?_
      refine WH.take 9 rfl (by kernel_rfl) (by kernel_rfl) (by kernel_rfl) (fun _ _ _ _ _ h => h) rfl rfl rfl HW (RH.assign rfl rfl) ?_
      have hon : ∀ k, v4.ownBlock = some k → v0.ownBlock = some k ∨ w.heap.size ≤ k := fun k hk => (ho4 k hk).elim (fun h => (ho3 k h).elim (ho k) (fun h => .inr (by omega))) (fun h => .inr (by omega))
      obtain ⟨kn, hkn⟩ : ∃ kn, kn = oth d := ⟨_, rfl⟩
      have hst : [(oth d : Int) % 256] ++ d.take (oth d) ++ runs (d.drop kn) = runs d := by rw [runs_o hdn hb, hkn, show (oth d : Int) % 256 = (oth d : Int) by omega]; rfl
      rw [← hkn]
      refine WH.end (by kernel_rfl) ?_
      refine Xw.nrm ?_
      refine TW.reg ?_
      refine WL.op rfl rfl rfl (Go.Proofs.Ytcombjhkbjbncaa.W.quiet_move rfl rfl) ?_
      refine WL.op rfl rfl rfl (Go.Proofs.Ytcombjhkbjbncaa.W.quiet_move rfl rfl) ?_
      obtain ⟨a9, hsl, ha9, hc9⟩ := sl_from 23 Try.underlying23 hda kn (by omega) hdc
      refine O.sl1 rfl rfl rfl rfl rfl rfl (hsl _) ?_
      refine WL.op rfl rfl rfl (Go.Proofs.Ytcombjhkbjbncaa.W.quiet_assign rfl rfl) ?_
      refine WL.end ?_
      refine Xw.nblk ?_
      refine Xw.any (fun a k => ?_)
      refine ⟨j + kn, by omega, by omega, _, _, d.drop kn, a9, c - kn, (by (repeat (refine Kn.cons k rfl ?_)); exact k.base), ff, hB, hv, hon, ha9, hc9, ?_, by rw [List.length_drop]; omega⟩
      rw [← hxs, ← hst]; simp only [List.append_assoc, List.cons_append, List.nil_append]
  · skip
    have hdn : d = [] := List.eq_nil_of_length_eq_zero (by have := of_decide_eq_false b1; omega)
    subst hdn
    rw [runs_nil, List.append_nil] at hxs
    subst hxs
    refine WL.nil ?_
    refine TW.cond rfl (fun hb => by cases hb) (fun _ => ?_)
    refine TW.exit ?_
    refine Xw.thn (by simp) ?_
    refine Xw.thn (by simp) ?_
    refine Xw.hit ?_
    refine Xw.nrm ?_
    refine TW.sreg ?_
    refine WL.op rfl rfl rfl (Go.Proofs.Ytcombjhkbjbncaa.W.quiet_move rfl rfl) ?_
    refine WL.op rfl rfl rfl (Go.Proofs.Ytcombjhkbjbncaa.W.quiet_assign rfl rfl) ?_
    refine WL.nil ?_
    refine TW.rt ?_
    refine bodyw_ret rfl rfl ?_
    exact ⟨_, rfl, hv, ff, ho⟩
end Go.Proofs.Ytcombjhkbjbncaa
