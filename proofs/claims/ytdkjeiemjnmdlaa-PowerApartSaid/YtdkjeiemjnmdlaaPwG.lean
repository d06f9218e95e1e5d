/-
  Power (layer 33): the page's example.
-/
import Derived.Test.YtdkjeiemjnmdlaaPwF
namespace Go.Proofs.Ytdkjeiemjnmdlaa
open Go.RowKit
set_option linter.unusedVariables false
set_option linter.unusedSimpArgs false
set_option linter.unnecessarySimpa false
theorem qv_s_int_2 (w : World) (u0_m0 : Int) (u1_m0 : Int) : (Instr.buildSlice 22 2 #[(0, .int .i64 u0_m0), (1, .int .i64 u1_m0)]).run Try.prog w = .ok (.slice (some ⟨w.heap.size, 0, none⟩) 2 2) (w.alloc (.cells #[.int .i64 u0_m0, .int .i64 u1_m0] 3)) := by simp [go_sem]
theorem qd_power_Supply_0_1_2 (w : World) (p0_p0 : Option Addr) (p0_k0 p0_l0 : Nat) (p1_m0 : Int) (p2_m0 : Int) : (Instr.build 24 #[(0, .slice p0_p0 p0_k0 p0_l0), (1, .int .i64 p1_m0), (2, .int .i64 p2_m0)]).run Try.prog w = .ok (.agg #[.slice p0_p0 p0_k0 p0_l0, .int .i64 p1_m0, .int .i64 p2_m0]) w := by simp [go_sem]
theorem qk_power_Fails (w : World) (vs : Array Value) : (callFunc 7 vs).run Try.prog w = .ok (.enter 7 vs) w := by simp [go_sem]
theorem qb_eql_api_Errno (w : World) (x y : Operand) (m n : Int) : ((do eqGuard .eql 27 x y (.int .i64 m) (.int .i64 n); binOp .eql 27 (.int .i64 m) (.int .i64 n) : Sem Value)).run Try.prog w = .ok (.bool (m == n)) w := by simp [go_sem]
theorem fails_ok (oa : Option Addr) (c : Nat) (s : List Int) (room lim tm : Int) (w : World) (htm : tm ≤ 1000000) (hat : IntsAt w oa s) (hR : SupOk s room lim) : Calls Try.prog 7 #[.agg #[.slice oa s.length c, .int .i64 room, .int .i64 lim], .int .i64 tm] w fun e w' => ∃ v, e = .returned (.tuple #[v, .int .i64 (stP room lim s (tmN tm)).ex, .int .i64 0]) ∧ Ints w.heap.size w' v (stP room lim s (tmN tm)).fl ∧ Fr (fun _ => False) w w' := (M.t_fails oa c s room lim tm w htm hat).mono fun e w' h => h.1 hR
theorem fails_bad (oa : Option Addr) (c : Nat) (s : List Int) (room lim tm : Int) (w : World) (htm : tm ≤ 1000000) (hat : IntsAt w oa s) (hR : ¬SupOk s room lim) : Calls Try.prog 7 #[.agg #[.slice oa s.length c, .int .i64 room, .int .i64 lim], .int .i64 tm] w fun e w' => e = .returned (.tuple #[.slice none 0 0, .int .i64 0, .int .i64 1]) ∧ Fr (fun _ => False) w w' := (M.t_fails oa c s room lim tm w htm hat).mono fun e w' h => h.2 hR
theorem any_succ {p : Int → Bool} {s : List Int} {j : Nat} (hj : j < s.length) : (s.take (j + 1)).any p = ((s.take j).any p || p (s.getD j 0)) := by
  rw [List.take_add_one, List.getElem?_eq_getElem hj, List.any_append, List.getD_eq_getElem?_getD, List.getElem?_eq_getElem hj]
  simp
theorem PInv.prvB {room lim : Int} {n : Nat} {S : Pw} (h : PInv room lim n S) (hn : n ≤ 4000000) {j : Nat} (hj : j < S.fl.length) : 0 ≤ prv S.fl j ∧ prv S.fl j ≤ 4000000 := by
  unfold prv
  split
  · omega
  · have := h.el _ (by rw [List.getD_eq_getElem?_getD, List.getElem?_eq_getElem (show j - 1 < S.fl.length by omega)]; exact List.getElem_mem _ : S.fl.getD (j - 1) 0 ∈ _)
    omega
theorem Ints.cells {B : Nat} {w : World} {a : Option Addr} {n c : Nat} {xs : List Int} (h : Ints B w (.slice a n c) xs) : IntsAt w a xs := by
  obtain ⟨a2, c2, e, hi⟩ := h.at
  injection e with e1 e2 e3
  rw [e1]
  exact hi
theorem IntsAt.at0 {w : World} {g o j : Nat} {l : List Int} (h : IntsAt w (some ⟨g, o, none⟩) l) (hj : j < l.length) : w.cell? ⟨g, o + j, none⟩ = some (.int .i64 (l.getD j 0)) := by
  obtain ⟨g2, o2, e, hc⟩ := h j hj
  cases e
  exact hc
theorem ex_ok : SupOk [1, 0] 5 2 := ⟨by decide, by decide, fun k hk => by match k, hk with | 0, _ => decide | 1, _ => decide, by decide, by decide, by decide⟩
theorem ex_run : stP 5 2 [1, 0] (tmN 8) = ⟨0, false, 4, [2]⟩ := by rfl
set_option maxRecDepth 100000 in
theorem t_few (oa : Option Addr) (c : Nat) (s : List Int) (room lim : Int) (w : World) : Calls Try.prog 5 #[.agg #[.slice oa s.length c, .int .i64 room, .int .i64 lim]] w fun e w' => ∃ b : Bool, e = .returned (.bool b) ∧ (b = true → s.length ≤ 5000) ∧ Fr (fun _ => False) w w' := by
  have ff := Fr.refl (fun _ => False) w
  refine calls_tw Try.func5 rfl rfl (Nat.le_of_ble_eq_true rfl) ?_
  refine TW.sreg ?_
  have lw1 := ff.size
  refine O.boxR rfl rfl rfl rfl rfl (qxR_power_Supply w _ _ _ _ _) ?_
  rintro wa1 ⟨fa1, bx1⟩
  replace ff := ff.trans fa1
  refine WL.op rfl rfl rfl (Go.Proofs.Ytdkjeiemjnmdlaa.W.quiet_assign rfl rfl) ?_
  refine WL.nil ?_
  refine TW.sreg ?_
  refine WL.op rfl rfl rfl (Go.Proofs.Ytdkjeiemjnmdlaa.W.quiet_field rfl rfl (fun W => (qa_power_Supply_0 W _ _))) ?_
  refine WL.ld rfl rfl rfl rfl rfl (ql_s_int _ _ _ _ _ (bx1.cell (j := 0) rfl)) ?_
  refine O.len rfl rfl rfl rfl rfl (qn_s_int _ _ _ _) ?_
  refine WL.op rfl rfl rfl (Go.Proofs.Ytdkjeiemjnmdlaa.W.quiet_bin rfl rfl rfl (fun W => qb_leq_int W _ _ _ _)) ?_
  refine O.split (fun h1 => ?_) (fun h1 => ?_)
  · skip
    refine WL.op rfl rfl rfl (Go.Proofs.Ytdkjeiemjnmdlaa.W.quiet_move rfl rfl) ?_
    refine WL.skip rfl rfl rfl ?_
    refine WL.skip rfl rfl rfl ?_
    refine WL.skip rfl rfl rfl ?_
    refine WL.skip rfl rfl rfl ?_
    refine WL.skip rfl rfl rfl ?_
    refine WL.skip rfl rfl rfl ?_
    refine WL.skip rfl rfl rfl ?_
    refine WL.skip rfl rfl rfl ?_
    refine WL.skip rfl rfl rfl ?_
    refine WL.skip rfl rfl rfl ?_
    refine WL.op rfl rfl rfl (Go.Proofs.Ytdkjeiemjnmdlaa.W.quiet_pick rfl rfl rfl) ?_
    refine WL.op rfl rfl rfl (Go.Proofs.Ytdkjeiemjnmdlaa.W.quiet_assign rfl rfl) ?_
    refine WL.nil ?_
    refine TW.rt ?_
    refine bodyw_ret rfl rfl ?_
    exact ⟨_, rfl, fun _ => by have := of_decide_eq_true h1; omega, ff⟩
  · skip
    refine WL.op rfl rfl rfl (Go.Proofs.Ytdkjeiemjnmdlaa.W.quiet_move rfl rfl) ?_
    refine WL.op rfl rfl rfl (Go.Proofs.Ytdkjeiemjnmdlaa.W.quiet_field rfl rfl (fun W => (qa_power_Supply_0 W _ _))) ?_
    refine WL.ld rfl rfl rfl rfl rfl (ql_s_int _ _ _ _ _ (bx1.cell (j := 0) rfl)) ?_
    refine O.len rfl rfl rfl rfl rfl (qn_s_int _ _ _ _) ?_
    refine WL.op rfl rfl rfl (Go.Proofs.Ytdkjeiemjnmdlaa.W.quiet_bin rfl rfl rfl (fun W => qb_gtr_int W _ _ _ _)) ?_
    refine O.split (fun h2 => ?_) (fun h2 => ?_)
    · skip
      refine WL.op rfl rfl rfl (Go.Proofs.Ytdkjeiemjnmdlaa.W.quiet_move rfl rfl) ?_
      refine WL.op rfl rfl rfl (Go.Proofs.Ytdkjeiemjnmdlaa.W.quiet_field rfl rfl (fun W => (qa_power_Supply_0 W _ _))) ?_
      refine WL.ld rfl rfl rfl rfl rfl (ql_s_int _ _ _ _ _ (bx1.cell (j := 0) rfl)) ?_
      refine O.len rfl rfl rfl rfl rfl (qn_s_int _ _ _ _) ?_
      refine WL.op rfl rfl rfl (Go.Proofs.Ytdkjeiemjnmdlaa.W.quiet_bin rfl rfl rfl (fun W => qb_leq_int W _ _ _ _)) ?_
      refine WL.op rfl rfl rfl (Go.Proofs.Ytdkjeiemjnmdlaa.W.quiet_pick rfl rfl rfl) ?_
      refine WL.op rfl rfl rfl (Go.Proofs.Ytdkjeiemjnmdlaa.W.quiet_pick rfl rfl rfl) ?_
      refine WL.op rfl rfl rfl (Go.Proofs.Ytdkjeiemjnmdlaa.W.quiet_assign rfl rfl) ?_
      refine WL.nil ?_
      refine TW.rt ?_
      refine bodyw_ret rfl rfl ?_
      exact ⟨_, rfl, fun h => by have := of_decide_eq_true h; omega, ff⟩
    · skip
      refine WL.op rfl rfl rfl (Go.Proofs.Ytdkjeiemjnmdlaa.W.quiet_move rfl rfl) ?_
      refine WL.skip rfl rfl rfl ?_
      refine WL.skip rfl rfl rfl ?_
      refine WL.skip rfl rfl rfl ?_
      refine WL.skip rfl rfl rfl ?_
      refine WL.op rfl rfl rfl (Go.Proofs.Ytdkjeiemjnmdlaa.W.quiet_pick rfl rfl rfl) ?_
      refine WL.op rfl rfl rfl (Go.Proofs.Ytdkjeiemjnmdlaa.W.quiet_pick rfl rfl rfl) ?_
      refine WL.op rfl rfl rfl (Go.Proofs.Ytdkjeiemjnmdlaa.W.quiet_assign rfl rfl) ?_
      refine WL.nil ?_
      refine TW.rt ?_
      refine bodyw_ret rfl rfl ?_
      exact ⟨_, rfl, (fun h => by cases h), ff⟩
set_option maxRecDepth 100000 in
theorem t_awake (w : World) : Calls Try.prog 6 #[] w fun e w' => e = .returned (.bool true) ∧ Fr (fun _ => False) w w' := by
  have ff := Fr.refl (fun _ => False) w
  refine calls_tw Try.func6 rfl rfl (Nat.le_of_ble_eq_true rfl) ?_
  refine TW.sreg ?_
  refine WL.op rfl rfl rfl (Go.Proofs.Ytdkjeiemjnmdlaa.W.quiet_assign rfl rfl) ?_
  refine WL.nil ?_
  refine TW.sreg ?_
  have lw1 := ff.size
  refine O.bslR rfl rfl rfl rfl rfl (qv_s_int_2 w _ _) ?_
  rintro wa1 ⟨fa1, bx1⟩
  replace ff := ff.trans fa1
  obtain ⟨ax, cx, hax, hix⟩ := (ints2 bx1 (Nat.zero_le _)).at
  obtain ⟨rfl, rfl⟩ : ax = some ⟨w.heap.size, 0, none⟩ ∧ cx = 2 := by injection hax with e1 e2 e3; exact ⟨e1.symm, e3.symm⟩
  refine O.bld rfl rfl rfl rfl rfl (qd_power_Supply_0_1_2 _ _ _ _ _ _) ?_
  refine WL.call (hr := (fails_ok _ 2 [1, 0] 5 2 8 _ (by omega) hix ex_ok)) rfl rfl rfl rfl rfl (fun W => qk_power_Fails W _) ?_
  rintro e w2 ⟨v, rfl, hv, f2⟩
  refine ⟨_, rfl, ?_⟩
  replace ff := ff.trans f2
  rw [ex_run] at hv
  rw [ex_run]
  obtain ⟨a3, c3, rfl, hi3⟩ := Ints.at hv
  obtain ⟨g3, o3, hg3, hc3⟩ := hi3 0 (by decide)
  refine WL.op rfl rfl rfl (Go.Proofs.Ytdkjeiemjnmdlaa.W.quiet_move rfl rfl) ?_
  refine O.ext rfl rfl rfl rfl rfl rfl ?_
  refine O.ext rfl rfl rfl rfl rfl rfl ?_
  refine O.ext rfl rfl rfl rfl rfl rfl ?_
  refine WL.op rfl rfl rfl (Go.Proofs.Ytdkjeiemjnmdlaa.W.quiet_assign rfl rfl) ?_
  refine WL.op rfl rfl rfl (Go.Proofs.Ytdkjeiemjnmdlaa.W.quiet_assign rfl rfl) ?_
  refine WL.op rfl rfl rfl (Go.Proofs.Ytdkjeiemjnmdlaa.W.quiet_assign rfl rfl) ?_
  refine WL.nil ?_
  refine TW.sreg ?_
  refine WL.op rfl rfl rfl (Go.Proofs.Ytdkjeiemjnmdlaa.W.quiet_move rfl rfl) ?_
  refine WL.op rfl rfl rfl (Go.Proofs.Ytdkjeiemjnmdlaa.W.quiet_bin rfl rfl rfl (fun W => qb_eql_api_Errno W _ _ _ _)) ?_
  refine O.split (fun hb => ?_) (fun hb => by exfalso; revert hb; first | (simp; done) | (simp; omega))
  refine WL.op rfl rfl rfl (Go.Proofs.Ytdkjeiemjnmdlaa.W.quiet_move rfl rfl) ?_
  refine WL.op rfl rfl rfl (Go.Proofs.Ytdkjeiemjnmdlaa.W.quiet_move rfl rfl) ?_
  refine WL.op rfl rfl rfl (Go.Proofs.Ytdkjeiemjnmdlaa.W.quiet_bin rfl rfl rfl (fun W => qb_eql_int W _ _ _ _)) ?_
  refine O.split (fun hb => ?_) (fun hb => by exfalso; revert hb; first | (simp; done) | (simp; omega))
  refine WL.op rfl rfl rfl (Go.Proofs.Ytdkjeiemjnmdlaa.W.quiet_pick rfl rfl rfl) ?_
  refine WL.op rfl rfl rfl (Go.Proofs.Ytdkjeiemjnmdlaa.W.quiet_move rfl rfl) ?_
  refine WL.op rfl rfl rfl (Go.Proofs.Ytdkjeiemjnmdlaa.W.quiet_move rfl rfl) ?_
  refine O.len rfl rfl rfl rfl rfl (qn_s_int _ _ _ _) ?_
  refine WL.op rfl rfl rfl (Go.Proofs.Ytdkjeiemjnmdlaa.W.quiet_bin rfl rfl rfl (fun W => qb_eql_int W _ _ _ _)) ?_
  refine O.split (fun hb => ?_) (fun hb => by exfalso; revert hb; first | (simp; done) | (simp; omega))
  refine WL.op rfl rfl rfl (Go.Proofs.Ytdkjeiemjnmdlaa.W.quiet_pick rfl rfl rfl) ?_
  refine WL.op rfl rfl rfl (Go.Proofs.Ytdkjeiemjnmdlaa.W.quiet_move rfl rfl) ?_
  refine WL.op rfl rfl rfl (Go.Proofs.Ytdkjeiemjnmdlaa.W.quiet_move rfl rfl) ?_
  refine O.ixa rfl rfl rfl rfl rfl rfl (by rw [hg3]; exact qi_s_int _ _ _ _ _ 0 (by decide)) ?_
  refine WL.ld rfl rfl rfl rfl rfl (ql_int _ _ _ hc3) ?_
  refine WL.op rfl rfl rfl (Go.Proofs.Ytdkjeiemjnmdlaa.W.quiet_bin rfl rfl rfl (fun W => qb_eql_int W _ _ _ _)) ?_
  refine WL.op rfl rfl rfl (Go.Proofs.Ytdkjeiemjnmdlaa.W.quiet_pick rfl rfl rfl) ?_
  refine WL.op rfl rfl rfl (Go.Proofs.Ytdkjeiemjnmdlaa.W.quiet_assign rfl rfl) ?_
  refine WL.nil ?_
  refine TW.rt ?_
  refine bodyw_ret rfl rfl ?_
  exact ⟨rfl, ff⟩
end Go.Proofs.Ytdkjeiemjnmdlaa
