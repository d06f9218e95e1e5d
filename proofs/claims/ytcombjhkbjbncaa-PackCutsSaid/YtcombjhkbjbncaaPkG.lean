/-
  Pack (layer 32): the document's bytes of an image; a number at a place.
-/
import Derived.Test.YtcombjhkbjbncaaPkFb
namespace Go.Proofs.Ytcombjhkbjbncaa
open Go.RowKit
set_option linter.unusedVariables false
set_option linter.unusedSimpArgs false
set_option linter.unnecessarySimpa false
theorem qk_rushlightref32_num (w : World) (vs : Array Value) : (callFunc 22 vs).run Try.prog w = .ok (.enter 22 vs) w := by simp [go_sem]
theorem qk_rushlightref32_join (w : World) (vs : Array Value) : (callFunc 21 vs).run Try.prog w = .ok (.enter 21 vs) w := by simp [go_sem]
theorem qc_uint32_int (w : World) (m : Int) (h0 : -9223372036854775808 ≤ m) (h1 : m ≤ 9223372036854775807) : (convert 40 3 (.int .u32 m)).run Try.prog w = .ok (.int .i64 m) w := by
  have h : IntKind.i64.wrap m = m := IntWalk.i64_in _ (by omega)
  simp [go_sem, h]
theorem qk_rushlightref32_Runs (w : World) (vs : Array Value) : (callFunc 23 vs).run Try.prog w = .ok (.enter 23 vs) w := by simp [go_sem]
theorem qc_uint8_int (w : World) (m : Int) (h0 : -9223372036854775808 ≤ m) (h1 : m ≤ 9223372036854775807) : (convert 5 3 (.int .u8 m)).run Try.prog w = .ok (.int .i64 m) w := by
  have h : IntKind.i64.wrap m = m := IntWalk.i64_in _ (by omega)
  simp [go_sem, h]
theorem qb_mul_int (w : World) (x y : Operand) (m n : Int) (h0 : -9223372036854775808 ≤ m * n) (h1 : m * n ≤ 9223372036854775807) : ((do eqGuard .mul 3 x y (.int .i64 m) (.int .i64 n); binOp .mul 3 (.int .i64 m) (.int .i64 n) : Sem Value)).run Try.prog w = .ok (.int .i64 (m * n)) w := by
  have h : IntKind.i64.wrap (m * n) = m * n := IntWalk.i64_in _ (by omega)
  simp [go_sem, h]
theorem row_blk {B : Nat} {w : World} {a : Option Addr} {n c : Nat} {xs : List Int} (h : R8 B w (.slice a n c) xs) {g o : Nat} (e : a = some ⟨g, o, none⟩) : B ≤ g ∧ g < w.heap.size := by
  subst e
  rcases h.2 with ⟨e, _⟩ | ⟨g', cap, cur, e, hb, hg, _⟩
  · cases e
  · cases e
    exact ⟨hb, (Array.getElem?_eq_some_iff.1 hg).1⟩
set_option maxRecDepth 100000 in
theorem t_rencode (ca da : Option Addr) (cc dc : Nat) (g : Img) (hwf : g.wf) (hok : g.ok) (w : World) (hca : NumAt .u32 w.heap.size w ca g.code) (hda : NumAt .u8 w.heap.size w da g.data) : Calls Try.prog 11 #[.agg #[.slice ca g.code.length cc, .slice da g.data.length dc, .int .i64 g.lim, .int .i64 g.notes]] w fun e w' => ∃ v, e = .returned v ∧ R8 w.heap.size w' v (enc g) ∧ Fr (fun _ => False) w w' := by
  have ff := Fr.refl (fun _ => False) w
  refine calls_tw Try.func11 rfl rfl (Nat.le_of_ble_eq_true rfl) ?_
  refine TW.sreg ?_
  have lw1 := ff.size
  refine O.boxR rfl rfl rfl rfl rfl (qxR_api_Image w _ _ _ _ _ _ _ _) ?_
  rintro wa1 ⟨fa1, bx1⟩
  replace ff := ff.trans fa1
  have hz1 := bx1.lt
  have hc1 := hok.c1
  have hd1 := hok.d1
  have hl0 := hok.l0
  have hl1 := hok.l1
  have hn0 := hok.n0
  have hn1 := hok.n1
  refine WL.op rfl rfl rfl (Go.Proofs.Ytcombjhkbjbncaa.W.quiet_assign rfl rfl) ?_
  refine WL.nil ?_
  refine TW.sreg ?_
  have lt2_bx1 := bx1.lt
  have lw2 := ff.size
  refine O.bslR rfl rfl rfl rfl rfl (qv_s_uint8_4 wa1 _ _ _ _) ?_
  rintro wa2 ⟨fa2, bx2⟩
  replace bx1 := bx1.fr fa2 id
  replace ff := ff.trans fa2
  have hca := hca.fr ff
  have hda := hda.fr ff
  have hv : R8 wa1.heap.size wa2 (.slice (some ⟨wa1.heap.size, 0, none⟩) 4 4) hd4 := bx_row hd4 bx2 (Nat.le_refl _) (by decide)
  have hB : wa1.heap.size ≤ wa2.heap.size := fa2.size
  refine WL.op rfl rfl rfl (Go.Proofs.Ytcombjhkbjbncaa.W.quiet_assign rfl rfl) ?_
  refine WL.nil ?_
  refine TW.sreg ?_
  refine WL.op rfl rfl rfl (Go.Proofs.Ytcombjhkbjbncaa.W.quiet_move rfl rfl) ?_
  refine WL.op rfl rfl rfl (Go.Proofs.Ytcombjhkbjbncaa.W.quiet_field rfl rfl (fun W => (qa_api_Image_0 W _ _))) ?_
  refine WL.ld rfl rfl rfl rfl rfl (ql_s_uint32 _ _ _ _ _ (bx1.cell (j := 0) rfl)) ?_
  refine O.len rfl rfl rfl rfl rfl (qn_s_uint32 _ _ _ _) ?_
  have hvl := fun k hk => (Row.lt hv k hk).2
  refine WL.call (hr := (t_num ((g.code.length : Int)) (by omega) (by omega) _)) rfl rfl rfl rfl rfl (fun W => qk_rushlightref32_num W _) ?_
  rintro e wn1 ⟨vn, rfl, hvn, ⟨gn, cn, rfl⟩, fn1⟩
  refine ⟨_, rfl, ?_⟩
  replace bx1 := bx1.fr fn1 id
  replace hca := hca.fr fn1
  replace hda := hda.fr fn1
  replace hv := Row.fr hv fn1 (fun _ _ => id)
  replace hB := Nat.le_trans hB fn1.size
  replace ff := ff.trans fn1
  refine WL.call (hr := (t_join wa1.heap.size wn1.heap.size _ _ (some ⟨gn, 0, none⟩) cn (numB ((g.code.length : Int))) (by simp [numB, hd4]) (by simp [numB]) _ hB hv (Nat.le_refl _) (Row.num hvn) (fun k hk g o e => by cases e; have := (row_blk hvn rfl).1; have := hvl k hk; omega))) rfl rfl rfl rfl rfl (fun W => qk_rushlightref32_join W _) ?_
  rintro e wj1 ⟨vj1, rfl, hj1, fj1, oj1⟩
  refine ⟨_, rfl, ?_⟩
  have hvk := fun k hk => (Row.lt hv k hk).1
  replace ff := ff.trans' fj1 (fun q hq e => by have := hvk q e; omega)
  replace hca := hca.frZ fj1 (fun q hq e => by have := hvk q e; omega)
  replace hda := hda.frZ fj1 (fun q hq e => by have := hvk q e; omega)
  replace bx1 := bx1.fr fj1 (fun e => by have := hvk _ e; omega)
  replace hB := Nat.le_trans hB fj1.size
  clear hv hvk
  have hv := hj1
  refine WL.op rfl rfl rfl (Go.Proofs.Ytcombjhkbjbncaa.W.quiet_assign rfl rfl) ?_
  refine WL.nil ?_
  refine TW.sreg ?_
  refine WL.op rfl rfl rfl (Go.Proofs.Ytcombjhkbjbncaa.W.quiet_move rfl rfl) ?_
  refine WL.op rfl rfl rfl (Go.Proofs.Ytcombjhkbjbncaa.W.quiet_field rfl rfl (fun W => (qa_api_Image_1 W _ _))) ?_
  refine WL.ld rfl rfl rfl rfl rfl (ql_s_uint8 _ _ _ _ _ (bx1.cell (j := 1) rfl)) ?_
  refine O.len rfl rfl rfl rfl rfl (qn_s_uint8 _ _ _ _) ?_
  have hvl := fun k hk => (Row.lt hv k hk).2
  refine WL.call (hr := (t_num ((g.data.length : Int)) (by omega) (by omega) _)) rfl rfl rfl rfl rfl (fun W => qk_rushlightref32_num W _) ?_
  rintro e wn2 ⟨vn, rfl, hvn, ⟨gn, cn, rfl⟩, fn2⟩
  refine ⟨_, rfl, ?_⟩
  replace bx1 := bx1.fr fn2 id
  replace hca := hca.fr fn2
  replace hda := hda.fr fn2
  replace hv := Row.fr hv fn2 (fun _ _ => id)
  replace hB := Nat.le_trans hB fn2.size
  replace ff := ff.trans fn2
  refine WL.call (hr := (t_join wa1.heap.size wn2.heap.size _ _ (some ⟨gn, 0, none⟩) cn (numB ((g.data.length : Int))) (by simp [numB, hd4]) (by simp [numB]) _ hB hv (Nat.le_refl _) (Row.num hvn) (fun k hk g o e => by cases e; have := (row_blk hvn rfl).1; have := hvl k hk; omega))) rfl rfl rfl rfl rfl (fun W => qk_rushlightref32_join W _) ?_
  rintro e wj2 ⟨vj2, rfl, hj2, fj2, oj2⟩
  refine ⟨_, rfl, ?_⟩
  have hvk := fun k hk => (Row.lt hv k hk).1
  replace ff := ff.trans' fj2 (fun q hq e => by have := hvk q e; omega)
  replace hca := hca.frZ fj2 (fun q hq e => by have := hvk q e; omega)
  replace hda := hda.frZ fj2 (fun q hq e => by have := hvk q e; omega)
  replace bx1 := bx1.fr fj2 (fun e => by have := hvk _ e; omega)
  replace hB := Nat.le_trans hB fj2.size
  clear hv hvk
  have hv := hj2
  refine WL.op rfl rfl rfl (Go.Proofs.Ytcombjhkbjbncaa.W.quiet_assign rfl rfl) ?_
  refine WL.nil ?_
  refine TW.sreg ?_
  refine WL.op rfl rfl rfl (Go.Proofs.Ytcombjhkbjbncaa.W.quiet_move rfl rfl) ?_
  refine WL.op rfl rfl rfl (Go.Proofs.Ytcombjhkbjbncaa.W.quiet_field rfl rfl (fun W => (qa_api_Image_2 W _ _))) ?_
  refine WL.ld rfl rfl rfl rfl rfl (ql_int _ _ _ (bx1.cell (j := 2) rfl)) ?_
  refine WL.op rfl rfl rfl (Go.Proofs.Ytcombjhkbjbncaa.W.quiet_bin rfl rfl rfl (fun W => qb_sub_int W _ _ _ _ (by omega) (by omega))) ?_
  have hvl := fun k hk => (Row.lt hv k hk).2
  refine WL.call (hr := (t_num (g.lim - 268435456) (by omega) (by omega) _)) rfl rfl rfl rfl rfl (fun W => qk_rushlightref32_num W _) ?_
  rintro e wn3 ⟨vn, rfl, hvn, ⟨gn, cn, rfl⟩, fn3⟩
  refine ⟨_, rfl, ?_⟩
  replace bx1 := bx1.fr fn3 id
  replace hca := hca.fr fn3
  replace hda := hda.fr fn3
  replace hv := Row.fr hv fn3 (fun _ _ => id)
  replace hB := Nat.le_trans hB fn3.size
  replace ff := ff.trans fn3
  refine WL.call (hr := (t_join wa1.heap.size wn3.heap.size _ _ (some ⟨gn, 0, none⟩) cn (numB (g.lim - 268435456)) (by simp [numB, hd4]) (by simp [numB]) _ hB hv (Nat.le_refl _) (Row.num hvn) (fun k hk g o e => by cases e; have := (row_blk hvn rfl).1; have := hvl k hk; omega))) rfl rfl rfl rfl rfl (fun W => qk_rushlightref32_join W _) ?_
  rintro e wj3 ⟨vj3, rfl, hj3, fj3, oj3⟩
  refine ⟨_, rfl, ?_⟩
  have hvk := fun k hk => (Row.lt hv k hk).1
  replace ff := ff.trans' fj3 (fun q hq e => by have := hvk q e; omega)
  replace hca := hca.frZ fj3 (fun q hq e => by have := hvk q e; omega)
  replace hda := hda.frZ fj3 (fun q hq e => by have := hvk q e; omega)
  replace bx1 := bx1.fr fj3 (fun e => by have := hvk _ e; omega)
  replace hB := Nat.le_trans hB fj3.size
  clear hv hvk
  have hv := hj3
  refine WL.op rfl rfl rfl (Go.Proofs.Ytcombjhkbjbncaa.W.quiet_assign rfl rfl) ?_
  refine WL.nil ?_
  refine TW.sreg ?_
  refine WL.op rfl rfl rfl (Go.Proofs.Ytcombjhkbjbncaa.W.quiet_move rfl rfl) ?_
  refine WL.op rfl rfl rfl (Go.Proofs.Ytcombjhkbjbncaa.W.quiet_field rfl rfl (fun W => (qa_api_Image_3 W _ _))) ?_
  refine WL.ld rfl rfl rfl rfl rfl (ql_int _ _ _ (bx1.cell (j := 3) rfl)) ?_
  have hvl := fun k hk => (Row.lt hv k hk).2
  refine WL.call (hr := (t_num (g.notes) (by omega) (by omega) _)) rfl rfl rfl rfl rfl (fun W => qk_rushlightref32_num W _) ?_
  rintro e wn4 ⟨vn, rfl, hvn, ⟨gn, cn, rfl⟩, fn4⟩
  refine ⟨_, rfl, ?_⟩
  replace bx1 := bx1.fr fn4 id
  replace hca := hca.fr fn4
  replace hda := hda.fr fn4
  replace hv := Row.fr hv fn4 (fun _ _ => id)
  replace hB := Nat.le_trans hB fn4.size
  replace ff := ff.trans fn4
  refine WL.call (hr := (t_join wa1.heap.size wn4.heap.size _ _ (some ⟨gn, 0, none⟩) cn (numB (g.notes)) (by simp [numB, hd4]) (by simp [numB]) _ hB hv (Nat.le_refl _) (Row.num hvn) (fun k hk g o e => by cases e; have := (row_blk hvn rfl).1; have := hvl k hk; omega))) rfl rfl rfl rfl rfl (fun W => qk_rushlightref32_join W _) ?_
  rintro e wj4 ⟨vj4, rfl, hj4, fj4, oj4⟩
  refine ⟨_, rfl, ?_⟩
  have hvk := fun k hk => (Row.lt hv k hk).1
  replace ff := ff.trans' fj4 (fun q hq e => by have := hvk q e; omega)
  replace hca := hca.frZ fj4 (fun q hq e => by have := hvk q e; omega)
  replace hda := hda.frZ fj4 (fun q hq e => by have := hvk q e; omega)
  replace bx1 := bx1.fr fj4 (fun e => by have := hvk _ e; omega)
  replace hB := Nat.le_trans hB fj4.size
  clear hv hvk
  have hv := hj4
  refine WL.op rfl rfl rfl (Go.Proofs.Ytcombjhkbjbncaa.W.quiet_assign rfl rfl) ?_
  refine WL.nil ?_
  refine TW.seq ?_
  refine TW.sreg ?_
  refine WL.op rfl rfl rfl (Go.Proofs.Ytcombjhkbjbncaa.W.quiet_assign rfl rfl) ?_
  refine WL.nil ?_
  refine TW.block ?_
  refine O.loopG (n := g.code.length) (fun a _ => (intOf (a.tmps.getD 4 undef)).toNat) (fun j a W => ∃ (v : Value), Kn Try.f11.ntmps [(1, .pointer (some ⟨w.heap.size, 0, none⟩)), (3, v), (4, .int .i64 (j : Int))] a ∧ Fr (fun _ => False) w W ∧ Bx W w.heap.size #[.slice ca g.code.length cc, .slice da g.data.length dc, .int .i64 g.lim, .int .i64 g.notes] 25 ∧ NumAt .u32 w.heap.size W ca g.code ∧ NumAt .u8 w.heap.size W da g.data ∧ R8 wa1.heap.size W v (encH g ++ (g.code.take j).flatMap numB) ∧ wa1.heap.size ≤ W.heap.size) (fun j a W h => by obtain ⟨_, h⟩ := h; exact O.slotv h.1 rfl) 0 (Nat.zero_le _) (fun a k => ⟨_, (by (repeat (refine Kn.cons k rfl ?_)); exact k.base), ff, bx1, hca, hda, by rw [List.take_zero, List.flatMap_nil, List.append_nil]; exact hv, hB⟩) ?_
  rintro j a wl hj ⟨v, k, ff, bx1, hca, hda, hv, hB⟩
  refine TW.app (s := [(1, .pointer (some ⟨w.heap.size, 0, none⟩)), (3, v), (4, .int .i64 (j : Int))]) ?_ k
  refine TW.seq ?_
  refine TW.sreg ?_
  refine WL.op rfl rfl rfl (Go.Proofs.Ytcombjhkbjbncaa.W.quiet_move rfl rfl) ?_
  refine WL.op rfl rfl rfl (Go.Proofs.Ytcombjhkbjbncaa.W.quiet_field rfl rfl (fun W => (qa_api_Image_0 W _ _))) ?_
  refine WL.ld rfl rfl rfl rfl rfl (ql_s_uint32 _ _ _ _ _ (bx1.cell (j := 0) rfl)) ?_
  refine O.len rfl rfl rfl rfl rfl (qn_s_uint32 _ _ _ _) ?_
  refine WL.op rfl rfl rfl (Go.Proofs.Ytcombjhkbjbncaa.W.quiet_bin rfl rfl rfl (fun W => qb_lss_int W _ _ _ _)) ?_
  refine O.split (fun b1 => ?_) (fun b1 => ?_)
  · skip
    have hj2 : j < g.code.length := by have := of_decide_eq_true b1; omega
    obtain ⟨gc, oc, hce, _, hcc⟩ := hca j hj2
    have hwj := hwf.code _ (by rw [List.getD_eq_getElem?_getD, List.getElem?_eq_getElem hj2]; exact List.getElem_mem hj2 : g.code.getD j 0 ∈ _)
    refine WL.nil ?_
    refine TW.cond rfl (fun _ => ?_) (fun hb => by cases hb)
    refine TW.skip ?_
    refine TW.seq ?_
    refine TW.block ?_
    refine TW.reg ?_
    refine WL.op rfl rfl rfl (Go.Proofs.Ytcombjhkbjbncaa.W.quiet_move rfl rfl) ?_
    refine WL.op rfl rfl rfl (Go.Proofs.Ytcombjhkbjbncaa.W.quiet_field rfl rfl (fun W => (qa_api_Image_0 W _ _))) ?_
    refine WL.ld rfl rfl rfl rfl rfl (ql_s_uint32 _ _ _ _ _ (bx1.cell (j := 0) rfl)) ?_
    refine WL.op rfl rfl rfl (Go.Proofs.Ytcombjhkbjbncaa.W.quiet_move rfl rfl) ?_
    refine O.ixa rfl rfl rfl rfl rfl rfl (by rw [hce]; exact qi_s_uint32 _ _ _ _ _ _ (by omega)) ?_
    refine WL.ld rfl rfl rfl rfl rfl (ql_uint32 _ _ _ hcc) ?_
    refine O.cv rfl rfl rfl rfl rfl (qc_uint32_int _ _ (by omega) (by omega)) ?_
    have hvl := fun k hk => (Row.lt hv k hk).2
    refine WL.call (hr := (t_num (g.code.getD j 0) (by omega) (by omega) _)) rfl rfl rfl rfl rfl (fun W => qk_rushlightref32_num W _) ?_
    rintro e wn5 ⟨vn, rfl, hvn, ⟨gn, cn, rfl⟩, fn5⟩
    refine ⟨_, rfl, ?_⟩
    replace bx1 := bx1.fr fn5 id
    replace hca := hca.fr fn5
    replace hda := hda.fr fn5
    replace hv := Row.fr hv fn5 (fun _ _ => id)
    replace hB := Nat.le_trans hB fn5.size
    replace ff := ff.trans fn5
    refine WL.call (hr := (t_join wa1.heap.size wn5.heap.size _ _ (some ⟨gn, 0, none⟩) cn (numB (g.code.getD j 0)) (by rw [List.length_append, encH_len, flat_len4, List.length_take]; omega) (by simp [numB]) _ hB hv (Nat.le_refl _) (Row.num hvn) (fun k hk g o e => by cases e; have := (row_blk hvn rfl).1; have := hvl k hk; omega))) rfl rfl rfl rfl rfl (fun W => qk_rushlightref32_join W _) ?_
    rintro e wj5 ⟨vj5, rfl, hj5, fj5, oj5⟩
    refine ⟨_, rfl, ?_⟩
    have hvk := fun k hk => (Row.lt hv k hk).1
    replace ff := ff.trans' fj5 (fun q hq e => by have := hvk q e; omega)
    replace hca := hca.frZ fj5 (fun q hq e => by have := hvk q e; omega)
    replace hda := hda.frZ fj5 (fun q hq e => by have := hvk q e; omega)
    replace bx1 := bx1.fr fj5 (fun e => by have := hvk _ e; omega)
    replace hB := Nat.le_trans hB fj5.size
    clear hv hvk
    have hv := hj5
    refine WL.op rfl rfl rfl (Go.Proofs.Ytcombjhkbjbncaa.W.quiet_assign rfl rfl) ?_
    refine WL.end ?_
    refine Xw.nblk ?_
    refine Xw.nrm ?_
    refine TW.reg ?_
    refine WL.op rfl rfl rfl (Go.Proofs.Ytcombjhkbjbncaa.W.quiet_move rfl rfl) ?_
    refine WL.op rfl rfl rfl (Go.Proofs.Ytcombjhkbjbncaa.W.quiet_bin rfl rfl rfl (fun W => qb_add_int W _ _ _ _ (by omega) (by omega))) ?_
    refine WL.op rfl rfl rfl (Go.Proofs.Ytcombjhkbjbncaa.W.quiet_assign rfl rfl) ?_
    refine WL.end ?_
    refine Xw.any (fun a k => ?_)
    exact ⟨j + 1, by omega, by omega, _, (by (repeat (refine Kn.cons k rfl ?_)); exact k.base), ff, bx1, hca, hda, by rw [take_flat hj2, ← List.append_assoc]; exact hv, hB⟩
  · skip
    have hje : g.code.length = j := by have := of_decide_eq_false b1; omega
    rw [← hje, List.take_of_length_le (Nat.le_refl _)] at hv
    have hrl := runs_len g.data
    refine WL.nil ?_
    refine TW.cond rfl (fun hb => by cases hb) (fun _ => ?_)
    refine TW.exit ?_
    refine Xw.thn (by simp) ?_
    refine Xw.thn (by simp) ?_
    refine Xw.hit ?_
    refine Xw.nrm ?_
    refine TW.sreg ?_
    refine WL.op rfl rfl rfl (Go.Proofs.Ytcombjhkbjbncaa.W.quiet_move rfl rfl) ?_
    refine WL.op rfl rfl rfl (Go.Proofs.Ytcombjhkbjbncaa.W.quiet_field rfl rfl (fun W => (qa_api_Image_1 W _ _))) ?_
    refine WL.ld rfl rfl rfl rfl rfl (ql_s_uint8 _ _ _ _ _ (bx1.cell (j := 1) rfl)) ?_
    have hvl := fun k hk => (Row.lt hv k hk).2
    refine WL.call (hr := (t_rruns da dc g.data (by omega) _ (hda.up (by have := ff.size; omega)))) rfl rfl rfl rfl rfl (fun W => qk_rushlightref32_Runs W _) ?_
    rintro e wr ⟨vr, rfl, hvr, fr9⟩
    refine ⟨_, rfl, ?_⟩
    replace bx1 := bx1.fr fr9 id
    replace hca := hca.fr fr9
    replace hda := hda.fr fr9
    replace hv := Row.fr hv fr9 (fun _ _ => id)
    replace hB := Nat.le_trans hB fr9.size
    replace ff := ff.trans fr9
    obtain ⟨ar, cr, rfl, hnr, _⟩ := Row.numF hvr
    refine WL.call (hr := (t_join wa1.heap.size wr.heap.size _ _ ar cr (runs g.data) (by rw [List.length_append, encH_len, flat_len4]; omega) (by omega) _ hB hv (Nat.le_refl _) hnr (fun k hk g o e => by have := row_blk hvr e; have := hvl k hk; omega))) rfl rfl rfl rfl rfl (fun W => qk_rushlightref32_join W _) ?_
    rintro e wj9 ⟨v9, rfl, hj9, fj9, oj9⟩
    refine ⟨_, rfl, ?_⟩
    have hvk := fun k hk => (Row.lt hv k hk).1
    replace ff := ff.trans' fj9 (fun q hq e => by have := hvk q e; omega)
    replace hca := hca.frZ fj9 (fun q hq e => by have := hvk q e; omega)
    replace hda := hda.frZ fj9 (fun q hq e => by have := hvk q e; omega)
    replace bx1 := bx1.fr fj9 (fun e => by have := hvk _ e; omega)
    replace hB := Nat.le_trans hB fj9.size
    clear hv hvk
    have hv := hj9
    refine WL.op rfl rfl rfl (Go.Proofs.Ytcombjhkbjbncaa.W.quiet_assign rfl rfl) ?_
    refine WL.nil ?_
    refine TW.rt ?_
    refine bodyw_ret rfl rfl ?_
    exact ⟨_, rfl, Row.base hv (fun k hk => by have := (Row.lt hv k hk).1; have := fa1.size; omega), ff⟩
set_option maxRecDepth 100000 in
theorem t_at (Z : Nat) (ba : Option Addr) (bc : Nat) (l : List Int) (hbyt : Byt l) (hll : l.length ≤ 1000000) (n : Nat) (hn : n + 3 < l.length) (w : World) (hb : NumAt .u8 Z w ba l) : Calls Try.prog 24 #[.slice ba l.length bc, .int .i64 (n : Int)] w fun e w' => e = .returned (.int .i64 (atL l n)) ∧ Fr (fun _ => False) w w' := by
  have ff := Fr.refl (fun _ => False) w
  refine calls_tw Try.func24 rfl rfl (Nat.le_of_ble_eq_true rfl) ?_
  obtain ⟨gb, ob, hae, _, hc0⟩ := hb n (by omega)
  subst hae
  have hc1 := hb.at0 (j := n + 1) (by omega)
  have hc2 := hb.at0 (j := n + 2) (by omega)
  have hc3 := hb.at0 (j := n + 3) (by omega)
  have hae : (some ⟨gb, ob, none⟩ : Option Addr) = some ⟨gb, ob, none⟩ := rfl
  have hb0 := hbyt (l.getD (n + 0) 0) (by rw [List.getD_eq_getElem?_getD, List.getElem?_eq_getElem (show n + 0 < l.length by omega)]; exact List.getElem_mem _)
  have hb1 := hbyt (l.getD (n + 1) 0) (by rw [List.getD_eq_getElem?_getD, List.getElem?_eq_getElem (show n + 1 < l.length by omega)]; exact List.getElem_mem _)
  have hb2 := hbyt (l.getD (n + 2) 0) (by rw [List.getD_eq_getElem?_getD, List.getElem?_eq_getElem (show n + 2 < l.length by omega)]; exact List.getElem_mem _)
  have hb3 := hbyt (l.getD (n + 3) 0) (by rw [List.getD_eq_getElem?_getD, List.getElem?_eq_getElem (show n + 3 < l.length by omega)]; exact List.getElem_mem _)
  rw [Nat.add_zero] at hb0
  refine TW.sreg ?_
  refine WL.op rfl rfl rfl (Go.Proofs.Ytcombjhkbjbncaa.W.quiet_assign rfl rfl) ?_
  refine WL.nil ?_
  refine Q.sreg (C := fun W => Fr (fun _ => False) w W) (by kernel_rfl) (by kernel_rfl) (fun W h => h.drewN 1) (Fr.refl _ _) ?_
  refine W.op rfl rfl rfl (Go.Proofs.Ytcombjhkbjbncaa.W.quiet_move rfl rfl) ?_
  refine W.op rfl rfl rfl (Go.Proofs.Ytcombjhkbjbncaa.W.quiet_move rfl rfl) ?_
  refine W.op rfl rfl rfl (Go.Proofs.Ytcombjhkbjbncaa.W.quiet_index rfl rfl rfl (fun W => (by exact qi_s_uint8 _ _ _ _ _ _ (by omega)))) ?_
  refine W.op rfl rfl rfl (Go.Proofs.Ytcombjhkbjbncaa.W.quiet_load rfl rfl (fun W hW => (ql_uint8 _ _ _ (hW.cell hc0 id)))) ?_
  refine W.op rfl rfl rfl (Q.cv rfl rfl (fun W hW => (qc_uint8_int _ _ (by omega) (by omega)))) ?_
  refine W.op rfl rfl rfl (Go.Proofs.Ytcombjhkbjbncaa.W.quiet_move rfl rfl) ?_
  refine W.op rfl rfl rfl (Go.Proofs.Ytcombjhkbjbncaa.W.quiet_move rfl rfl) ?_
  refine W.op rfl rfl rfl (Go.Proofs.Ytcombjhkbjbncaa.W.quiet_bin rfl rfl rfl (fun W => qb_add_int W _ _ _ _ (by omega) (by omega))) ?_
  refine W.op rfl rfl rfl (Go.Proofs.Ytcombjhkbjbncaa.W.quiet_index rfl rfl rfl (fun W => (by rw [show (n : Int) + 1 = ((n + 1 : Nat) : Int) by omega]; exact qi_s_uint8 _ _ _ _ _ _ (by omega)))) ?_
  refine W.op rfl rfl rfl (Go.Proofs.Ytcombjhkbjbncaa.W.quiet_load rfl rfl (fun W hW => (ql_uint8 _ _ _ (hW.cell hc1 id)))) ?_
  refine W.op rfl rfl rfl (Q.cv rfl rfl (fun W hW => (qc_uint8_int _ _ (by omega) (by omega)))) ?_
  refine W.op rfl rfl rfl (Go.Proofs.Ytcombjhkbjbncaa.W.quiet_bin rfl rfl rfl (fun W => qb_mul_int W _ _ _ _ (by omega) (by omega))) ?_
  refine W.op rfl rfl rfl (Go.Proofs.Ytcombjhkbjbncaa.W.quiet_bin rfl rfl rfl (fun W => qb_add_int W _ _ _ _ (by omega) (by omega))) ?_
  refine W.op rfl rfl rfl (Go.Proofs.Ytcombjhkbjbncaa.W.quiet_move rfl rfl) ?_
  refine W.op rfl rfl rfl (Go.Proofs.Ytcombjhkbjbncaa.W.quiet_move rfl rfl) ?_
  refine W.op rfl rfl rfl (Go.Proofs.Ytcombjhkbjbncaa.W.quiet_bin rfl rfl rfl (fun W => qb_add_int W _ _ _ _ (by omega) (by omega))) ?_
  refine W.op rfl rfl rfl (Go.Proofs.Ytcombjhkbjbncaa.W.quiet_index rfl rfl rfl (fun W => (by rw [show (n : Int) + 2 = ((n + 2 : Nat) : Int) by omega]; exact qi_s_uint8 _ _ _ _ _ _ (by omega)))) ?_
  refine W.op rfl rfl rfl (Go.Proofs.Ytcombjhkbjbncaa.W.quiet_load rfl rfl (fun W hW => (ql_uint8 _ _ _ (hW.cell hc2 id)))) ?_
  refine W.op rfl rfl rfl (Q.cv rfl rfl (fun W hW => (qc_uint8_int _ _ (by omega) (by omega)))) ?_
  refine W.op rfl rfl rfl (Go.Proofs.Ytcombjhkbjbncaa.W.quiet_bin rfl rfl rfl (fun W => qb_mul_int W _ _ _ _ (by omega) (by omega))) ?_
  refine W.op rfl rfl rfl (Go.Proofs.Ytcombjhkbjbncaa.W.quiet_bin rfl rfl rfl (fun W => qb_add_int W _ _ _ _ (by omega) (by omega))) ?_
  refine W.op rfl rfl rfl (Go.Proofs.Ytcombjhkbjbncaa.W.quiet_move rfl rfl) ?_
  refine W.op rfl rfl rfl (Go.Proofs.Ytcombjhkbjbncaa.W.quiet_move rfl rfl) ?_
  refine W.op rfl rfl rfl (Go.Proofs.Ytcombjhkbjbncaa.W.quiet_bin rfl rfl rfl (fun W => qb_add_int W _ _ _ _ (by omega) (by omega))) ?_
  refine W.op rfl rfl rfl (Go.Proofs.Ytcombjhkbjbncaa.W.quiet_index rfl rfl rfl (fun W => (by rw [show (n : Int) + 3 = ((n + 3 : Nat) : Int) by omega]; exact qi_s_uint8 _ _ _ _ _ _ (by omega)))) ?_
  refine W.op rfl rfl rfl (Go.Proofs.Ytcombjhkbjbncaa.W.quiet_load rfl rfl (fun W hW => (ql_uint8 _ _ _ (hW.cell hc3 id)))) ?_
  refine W.op rfl rfl rfl (Q.cv rfl rfl (fun W hW => (qc_uint8_int _ _ (by omega) (by omega)))) ?_
  refine W.op rfl rfl rfl (Go.Proofs.Ytcombjhkbjbncaa.W.quiet_bin rfl rfl rfl (fun W => qb_mul_int W _ _ _ _ (by omega) (by omega))) ?_
  refine W.op rfl rfl rfl (Go.Proofs.Ytcombjhkbjbncaa.W.quiet_bin rfl rfl rfl (fun W => qb_add_int W _ _ _ _ (by omega) (by omega))) ?_
  refine W.op rfl rfl rfl (Go.Proofs.Ytcombjhkbjbncaa.W.quiet_assign rfl rfl) ?_
  refine Q.nil (T.tw fun wq1 fq1 => ?_)
  replace ff := ff.trans fq1
  refine TW.rt ?_
  refine bodyw_ret rfl rfl ?_
  exact ⟨rfl, ff⟩
end Go.Proofs.Ytcombjhkbjbncaa
