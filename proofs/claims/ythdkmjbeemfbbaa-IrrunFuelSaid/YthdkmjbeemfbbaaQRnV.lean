/-
  Runs (layer 14): outcomes compared; runs with more fuel.
-/
import Derived.Test.YthdkmjbeemfbbaaQRnU
namespace Go.Proofs.Ythdkmjbeemfbbaa
open Go.RowKit
set_option linter.unusedVariables false
set_option linter.unusedSimpArgs false
set_option linter.unnecessarySimpa false
theorem qxR_api_Outcome (w : World) (up0 : Option Addr) (uk0 ul0 : Nat) (um1 : Int) (um2 : Int) (um3 : Int) : ∃ w', (Instr.box 34 (.agg #[.slice up0 uk0 ul0, .int .i64 um1, .int .u32 um2, .int .i64 um3])).run Try.prog w = .ok (.pointer (some ⟨w.heap.size, 0, none⟩)) w' ∧ (Fr (fun _ => False) w w' ∧ Bx w' w.heap.size #[.slice up0 uk0 ul0, .int .i64 um1, .int .u32 um2, .int .i64 um3] 34) := ⟨w.alloc (.cells #[.slice up0 uk0 ul0, .int .i64 um1, .int .u32 um2, .int .i64 um3] 34), by simp [go_sem], fr_al (Fr.refl _ _) _, Bx.new _ _ _⟩
theorem qk_rushlightlaw12_Begins (w : World) (vs : Array Value) : (callFunc 8 vs).run Try.prog w = .ok (.enter 8 vs) w := by simp [go_sem]
theorem qb_eql_uint32 (w : World) (x y : Operand) (m n : Int) : ((do eqGuard .eql 31 x y (.int .u32 m) (.int .u32 n); binOp .eql 31 (.int .u32 m) (.int .u32 n) : Sem Value)).run Try.prog w = .ok (.bool (m == n)) w := by simp [go_sem]
theorem InpAt.fr {w w' : World} {a : Option Addr} {l : List Int} (h : InpAt w a l) (hf : Fr (fun _ => False) w w') : InpAt w' a l := fun k hk => by
  obtain ⟨g, o, e, c⟩ := h k hk
  exact ⟨g, o, e, hf.cell c id⟩
theorem DatB.fr {w w' : World} {a : Option Addr} {l : List (List Int)} (h : DatB w a l) (hf : Fr (fun _ => False) w w') : DatB w' a l := fun k hk => by
  obtain ⟨g, o, a', c, e, h1, h2⟩ := h k hk
  exact ⟨g, o, a', c, e, hf.cell h1 id, h2.fr hf⟩
theorem u32C_len (y : Int) : (u32C y).length = 1 := rfl
theorem Row.inp {B n c : Nat} {w : World} {a : Option Addr} {l : List Int} (h : Row B 31 1 u32C w (.slice a n c) l) : InpAt w a l := fun k hk => by
  obtain ⟨g, cap, e, _⟩ := Row.own h (by omega)
  injection e with e1 e2 e3
  subst e1
  exact ⟨g, 0, rfl, Row.cell u32C_len h (k := k) (x := l.getD k 0) (by rw [List.getD_eq_getElem?_getD, List.getElem?_eq_getElem hk]; rfl) (j := 0) rfl (by omega)⟩
theorem pre_get {xs ys : List Int} (h : xs <+: ys) {k : Nat} (hk : k < xs.length) : ys.getD k 0 = xs.getD k 0 := by
  obtain ⟨zs, rfl⟩ := h
  rw [List.getD_eq_getElem?_getD, List.getElem?_append_left hk, List.getD_eq_getElem?_getD]
theorem rFin_same {m : Mdl} {dat : List (List Int)} {inp : List Int} (f g : Nat) (h : (rFin m dat inp f).e ≠ 16) : rFin m dat inp (f + g) = rFin m dat inp f := by
  unfold rFin at *
  split at h
  · rename_i hm
    rw [if_pos hm, if_pos hm]
    exact rRun_same f g _ h
  · rename_i hm
    rw [if_neg hm, if_neg hm]
theorem rFin_more {m : Mdl} {dat : List (List Int)} {inp : List Int} (f g : Nat) : (rFin m dat inp f).out <+: (rFin m dat inp (f + g)).out ∧ (rFin m dat inp f).ins ≤ (rFin m dat inp (f + g)).ins := by
  unfold rFin
  split
  · exact rRun_more f g _
  · exact ⟨List.prefix_refl _, Int.le_refl _⟩
theorem rFin_exit {m : Mdl} {dat : List (List Int)} {inp : List Int} (f : Nat) (h : (rFin m dat inp f).e = 16) : (rFin m dat inp f).ex = 0 := by
  unfold rFin at *
  split at h
  · rename_i hm
    rw [if_pos hm]
    have hb := rBeg_ex m (rMe (slS m.gl) dat (fun _ => 0) m.gl.length)
    exact rRun_exit f _ (.inr hb.1) hb.2.1 h
  · rename_i hm
    rw [if_neg hm]
set_option maxRecDepth 100000 in
theorem t_begins (xa ya : Option Addr) (ac bc : Nat) (xs ys : List Int) (hl : ys.length ≤ 1000000) (hp : xs <+: ys) (w : World) (hx : InpAt w xa xs) (hy : InpAt w ya ys) : Calls Try.prog 8 #[.slice xa xs.length ac, .slice ya ys.length bc] w fun e w' => e = .returned (.bool true) ∧ Fr (fun _ => False) w w' := by
  have ff := Fr.refl (fun _ => False) w
  refine calls_tw Try.func8 rfl rfl (Nat.le_of_ble_eq_true rfl) ?_
  refine TW.sreg ?_
  refine WL.op rfl rfl rfl (Go.Proofs.Ythdkmjbeemfbbaa.W.quiet_assign rfl rfl) ?_
  refine WL.nil ?_
  refine TW.seq ?_
  refine TW.sreg ?_
  refine WL.op rfl rfl rfl (Go.Proofs.Ythdkmjbeemfbbaa.W.quiet_move rfl rfl) ?_
  refine O.len rfl rfl rfl rfl rfl (qn_s_uint32 _ _ _ _) ?_
  refine WL.op rfl rfl rfl (Go.Proofs.Ythdkmjbeemfbbaa.W.quiet_move rfl rfl) ?_
  refine O.len rfl rfl rfl rfl rfl (qn_s_uint32 _ _ _ _) ?_
  refine WL.op rfl rfl rfl (Go.Proofs.Ythdkmjbeemfbbaa.W.quiet_bin rfl rfl rfl (fun W => qb_gtr_int W _ _ _ _)) ?_
  refine O.split (fun hb => by exfalso; have := of_decide_eq_true hb; have := hp.length_le; omega) (fun hb => ?_)
  refine WL.nil ?_
  refine TW.cond rfl (fun hb => by cases hb) (fun _ => ?_)
  refine TW.skip ?_
  refine TW.seq ?_
  refine TW.sreg ?_
  refine WL.op rfl rfl rfl (Go.Proofs.Ythdkmjbeemfbbaa.W.quiet_assign rfl rfl) ?_
  refine WL.nil ?_
  refine TW.block ?_
  refine O.loopG (n := xs.length) (fun a _ => (intOf (a.tmps.getD 5 undef)).toNat) (fun j a W => Kn Try.f8.ntmps [(0, .slice xa xs.length ac), (1, .slice ya ys.length bc), (5, .int .i64 (j : Int))] a ∧ Fr (fun _ => False) w W) (fun j a W h => O.slotv h.1 rfl) 0 (Nat.zero_le _) (fun a k => ⟨(by (repeat (refine Kn.cons k rfl ?_)); exact k.base), ff⟩) ?_
  rintro j a wl hj ⟨k, ff⟩
  refine TW.app (s := [(0, .slice xa xs.length ac), (1, .slice ya ys.length bc), (5, .int .i64 (j : Int))]) ?_ k
  refine TW.seq ?_
  refine TW.sreg ?_
  refine WL.op rfl rfl rfl (Go.Proofs.Ythdkmjbeemfbbaa.W.quiet_move rfl rfl) ?_
  refine WL.op rfl rfl rfl (Go.Proofs.Ythdkmjbeemfbbaa.W.quiet_move rfl rfl) ?_
  refine O.len rfl rfl rfl rfl rfl (qn_s_uint32 _ _ _ _) ?_
  refine WL.op rfl rfl rfl (Go.Proofs.Ythdkmjbeemfbbaa.W.quiet_bin rfl rfl rfl (fun W => qb_lss_int W _ _ _ _)) ?_
  refine O.split (fun hb2 => ?_) (fun hb2 => ?_)
  · skip
    have hj2 : j < xs.length := by have := of_decide_eq_true hb2; omega
    have hpl := hp.length_le
    obtain ⟨g1, o1, rfl, c1⟩ := hx j hj2
    obtain ⟨g2, o2, rfl, c2⟩ := hy j (by omega)
    have hg := pre_get hp hj2
    refine WL.nil ?_
    refine TW.cond rfl (fun _ => ?_) (fun hb => by cases hb)
    refine TW.skip ?_
    refine TW.seq ?_
    refine TW.block ?_
    refine Q.sreg (C := fun W => Fr (fun _ => False) wl W) (by kernel_rfl) (by kernel_rfl) (fun W h => h.drewN 1) (Fr.refl _ _) ?_
    refine W.op rfl rfl rfl (Go.Proofs.Ythdkmjbeemfbbaa.W.quiet_move rfl rfl) ?_
    refine W.op rfl rfl rfl (Go.Proofs.Ythdkmjbeemfbbaa.W.quiet_move rfl rfl) ?_
    refine W.op rfl rfl rfl (Go.Proofs.Ythdkmjbeemfbbaa.W.quiet_index rfl rfl rfl (fun W => (qi_s_uint32 _ _ _ _ _ _ (by omega)))) ?_
    refine W.op rfl rfl rfl (Go.Proofs.Ythdkmjbeemfbbaa.W.quiet_load rfl rfl (fun W hW => (ql_uint32 _ _ _ (hW.cell (ff.cell c1 id) id)))) ?_
    refine W.op rfl rfl rfl (Go.Proofs.Ythdkmjbeemfbbaa.W.quiet_move rfl rfl) ?_
    refine W.op rfl rfl rfl (Go.Proofs.Ythdkmjbeemfbbaa.W.quiet_move rfl rfl) ?_
    refine W.op rfl rfl rfl (Go.Proofs.Ythdkmjbeemfbbaa.W.quiet_index rfl rfl rfl (fun W => (qi_s_uint32 _ _ _ _ _ _ (by omega)))) ?_
    refine W.op rfl rfl rfl (Go.Proofs.Ythdkmjbeemfbbaa.W.quiet_load rfl rfl (fun W hW => ((ql_uint32 _ _ _ (hW.cell (ff.cell c2 id) id)).trans (by rw [hg])))) ?_
    refine W.op rfl rfl rfl (Go.Proofs.Ythdkmjbeemfbbaa.W.quiet_bin rfl rfl rfl (fun W => qb_neq_uint32 W _ _ _ _)) ?_
    refine Q.split (fun hb => by exfalso; revert hb; simp) (fun hb => ?_)
    refine Q.nil (T.tw fun wq1 fq1 => ?_)
    replace ff := ff.trans fq1
    refine TW.cond rfl (fun hb => by cases hb) (fun _ => ?_)
    refine TW.skipx ?_
    refine Xw.nblk ?_
    refine Xw.nrm ?_
    refine TW.reg ?_
    refine WL.op rfl rfl rfl (Go.Proofs.Ythdkmjbeemfbbaa.W.quiet_move rfl rfl) ?_
    refine WL.op rfl rfl rfl (Go.Proofs.Ythdkmjbeemfbbaa.W.quiet_bin rfl rfl rfl (fun W => qb_add_int W _ _ _ _ (by omega) (by omega))) ?_
    refine WL.op rfl rfl rfl (Go.Proofs.Ythdkmjbeemfbbaa.W.quiet_assign rfl rfl) ?_
    refine WL.end ?_
    refine Xw.any (fun a k => ?_)
    refine ⟨j + 1, by omega, by omega, by (repeat (refine Kn.cons k rfl ?_)); exact k.base, ff⟩
  · skip
    refine WL.nil ?_
    refine TW.cond rfl (fun hb => by cases hb) (fun _ => ?_)
    refine TW.exit ?_
    refine Xw.thn (by simp) ?_
    refine Xw.thn (by simp) ?_
    refine Xw.hit ?_
    refine Xw.nrm ?_
    refine TW.sreg ?_
    refine WL.op rfl rfl rfl (Go.Proofs.Ythdkmjbeemfbbaa.W.quiet_assign rfl rfl) ?_
    refine WL.nil ?_
    refine TW.rt ?_
    refine bodyw_ret rfl rfl ?_
    exact ⟨rfl, ff⟩
set_option maxRecDepth 100000 in
theorem t_same (a b : Option Addr) (ac bc : Nat) (y : RSt) (hl : y.out.length ≤ 1000000) (w : World) (hx : InpAt w a y.out) (hy : InpAt w b y.out) : Calls Try.prog 7 #[.agg #[.slice a y.out.length ac, .int .i64 y.ins, .int .u32 y.ex, .int .i64 y.e], .agg #[.slice b y.out.length bc, .int .i64 y.ins, .int .u32 y.ex, .int .i64 y.e]] w fun e w' => e = .returned (.bool true) ∧ Fr (fun _ => False) w w' := by
  have ff := Fr.refl (fun _ => False) w
  refine calls_tw Try.func7 rfl rfl (Nat.le_of_ble_eq_true rfl) ?_
  refine TW.sreg ?_
  have lw1 := ff.size
  refine O.boxR rfl rfl rfl rfl rfl (qxR_api_Outcome w _ _ _ _ _ _) ?_
  rintro wa1 ⟨fa1, bx1⟩
  replace ff := ff.trans fa1
  have lt2_bx1 := bx1.lt
  have lw2 := ff.size
  refine O.boxR rfl rfl rfl rfl rfl (qxR_api_Outcome wa1 _ _ _ _ _ _) ?_
  rintro wa2 ⟨fa2, bx2⟩
  replace bx1 := bx1.fr fa2 id
  replace ff := ff.trans fa2
  refine WL.op rfl rfl rfl (Go.Proofs.Ythdkmjbeemfbbaa.W.quiet_assign rfl rfl) ?_
  refine WL.nil ?_
  refine TW.sreg ?_
  refine WL.op rfl rfl rfl (Go.Proofs.Ythdkmjbeemfbbaa.W.quiet_field rfl rfl (fun W => (qa_api_Outcome_0 W _ _))) ?_
  refine WL.ld rfl rfl rfl rfl rfl (ql_s_uint32 _ _ _ _ _ (bx1.cell (j := 0) rfl)) ?_
  refine O.len rfl rfl rfl rfl rfl (qn_s_uint32 _ _ _ _) ?_
  refine WL.op rfl rfl rfl (Go.Proofs.Ythdkmjbeemfbbaa.W.quiet_field rfl rfl (fun W => (qa_api_Outcome_0 W _ _))) ?_
  refine WL.ld rfl rfl rfl rfl rfl (ql_s_uint32 _ _ _ _ _ (bx2.cell (j := 0) rfl)) ?_
  refine O.len rfl rfl rfl rfl rfl (qn_s_uint32 _ _ _ _) ?_
  refine WL.op rfl rfl rfl (Go.Proofs.Ythdkmjbeemfbbaa.W.quiet_bin rfl rfl rfl (fun W => qb_eql_int W _ _ _ _)) ?_
  refine O.split (fun hb => ?_) (fun hb => by exfalso; revert hb; simp)
  refine WL.op rfl rfl rfl (Go.Proofs.Ythdkmjbeemfbbaa.W.quiet_move rfl rfl) ?_
  refine WL.op rfl rfl rfl (Go.Proofs.Ythdkmjbeemfbbaa.W.quiet_field rfl rfl (fun W => (qa_api_Outcome_0 W _ _))) ?_
  refine WL.ld rfl rfl rfl rfl rfl (ql_s_uint32 _ _ _ _ _ (bx1.cell (j := 0) rfl)) ?_
  refine WL.op rfl rfl rfl (Go.Proofs.Ythdkmjbeemfbbaa.W.quiet_field rfl rfl (fun W => (qa_api_Outcome_0 W _ _))) ?_
  refine WL.ld rfl rfl rfl rfl rfl (ql_s_uint32 _ _ _ _ _ (bx2.cell (j := 0) rfl)) ?_
  refine WL.call (hr := (t_begins a b ac bc _ _ hl (List.prefix_refl _) _ (hx.fr ff) (hy.fr ff))) rfl rfl rfl rfl rfl (fun W => qk_rushlightlaw12_Begins W _) ?_
  rintro e w1 ⟨rfl, f1⟩
  refine ⟨_, rfl, ?_⟩
  replace bx1 := bx1.fr f1 id
  replace bx2 := bx2.fr f1 id
  replace ff := ff.trans f1
  refine O.split (fun hb => ?_) (fun hb => by exfalso; revert hb; simp)
  refine WL.op rfl rfl rfl (Go.Proofs.Ythdkmjbeemfbbaa.W.quiet_pick rfl rfl rfl) ?_
  refine WL.op rfl rfl rfl (Go.Proofs.Ythdkmjbeemfbbaa.W.quiet_move rfl rfl) ?_
  refine WL.op rfl rfl rfl (Go.Proofs.Ythdkmjbeemfbbaa.W.quiet_field rfl rfl (fun W => (qa_api_Outcome_1 W _ _))) ?_
  refine WL.ld rfl rfl rfl rfl rfl (ql_int _ _ _ (bx1.cell (j := 1) rfl)) ?_
  refine WL.op rfl rfl rfl (Go.Proofs.Ythdkmjbeemfbbaa.W.quiet_field rfl rfl (fun W => (qa_api_Outcome_1 W _ _))) ?_
  refine WL.ld rfl rfl rfl rfl rfl (ql_int _ _ _ (bx2.cell (j := 1) rfl)) ?_
  refine WL.op rfl rfl rfl (Go.Proofs.Ythdkmjbeemfbbaa.W.quiet_bin rfl rfl rfl (fun W => qb_eql_int W _ _ _ _)) ?_
  refine O.split (fun hb => ?_) (fun hb => by exfalso; revert hb; simp)
  refine WL.op rfl rfl rfl (Go.Proofs.Ythdkmjbeemfbbaa.W.quiet_pick rfl rfl rfl) ?_
  refine WL.op rfl rfl rfl (Go.Proofs.Ythdkmjbeemfbbaa.W.quiet_move rfl rfl) ?_
  refine WL.op rfl rfl rfl (Go.Proofs.Ythdkmjbeemfbbaa.W.quiet_field rfl rfl (fun W => (qa_api_Outcome_2 W _ _))) ?_
  refine WL.ld rfl rfl rfl rfl rfl (ql_uint32 _ _ _ (bx1.cell (j := 2) rfl)) ?_
  refine WL.op rfl rfl rfl (Go.Proofs.Ythdkmjbeemfbbaa.W.quiet_field rfl rfl (fun W => (qa_api_Outcome_2 W _ _))) ?_
  refine WL.ld rfl rfl rfl rfl rfl (ql_uint32 _ _ _ (bx2.cell (j := 2) rfl)) ?_
  refine WL.op rfl rfl rfl (Go.Proofs.Ythdkmjbeemfbbaa.W.quiet_bin rfl rfl rfl (fun W => qb_eql_uint32 W _ _ _ _)) ?_
  refine O.split (fun hb => ?_) (fun hb => by exfalso; revert hb; simp)
  refine WL.op rfl rfl rfl (Go.Proofs.Ythdkmjbeemfbbaa.W.quiet_pick rfl rfl rfl) ?_
  refine WL.op rfl rfl rfl (Go.Proofs.Ythdkmjbeemfbbaa.W.quiet_move rfl rfl) ?_
  refine WL.op rfl rfl rfl (Go.Proofs.Ythdkmjbeemfbbaa.W.quiet_field rfl rfl (fun W => (qa_api_Outcome_3 W _ _))) ?_
  refine WL.ld rfl rfl rfl rfl rfl (ql_api_Errno _ _ _ (bx1.cell (j := 3) rfl)) ?_
  refine WL.op rfl rfl rfl (Go.Proofs.Ythdkmjbeemfbbaa.W.quiet_field rfl rfl (fun W => (qa_api_Outcome_3 W _ _))) ?_
  refine WL.ld rfl rfl rfl rfl rfl (ql_api_Errno _ _ _ (bx2.cell (j := 3) rfl)) ?_
  refine WL.op rfl rfl rfl (Go.Proofs.Ythdkmjbeemfbbaa.W.quiet_bin rfl rfl rfl (fun W => qb_eql_api_Errno W _ _ _ _)) ?_
  refine O.split (fun hb => ?_) (fun hb => by exfalso; revert hb; simp)
  refine WL.op rfl rfl rfl (Go.Proofs.Ythdkmjbeemfbbaa.W.quiet_pick rfl rfl rfl) ?_
  refine WL.op rfl rfl rfl (Go.Proofs.Ythdkmjbeemfbbaa.W.quiet_assign rfl rfl) ?_
  refine WL.nil ?_
  refine TW.rt ?_
  refine bodyw_ret rfl rfl ?_
  exact ⟨rfl, ff⟩
end Go.Proofs.Ythdkmjbeemfbbaa
