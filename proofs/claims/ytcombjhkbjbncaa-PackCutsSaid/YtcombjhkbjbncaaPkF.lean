/-
  Pack (layer 32): the document's runs.
-/
import Derived.Test.YtcombjhkbjbncaaPkE
namespace Go.Proofs.Ytcombjhkbjbncaa
open Go.RowKit
set_option linter.unusedVariables false
set_option linter.unusedSimpArgs false
set_option linter.unnecessarySimpa false
theorem qk_rushlightref32_noughts (w : World) (vs : Array Value) : (callFunc 32 vs).run Try.prog w = .ok (.enter 32 vs) w := by simp [go_sem]
theorem qb_rem_int (w : World) (x y : Operand) (m n : Int) (hn : n ≠ 0) (h0 : -9223372036854775808 ≤ m.tmod n) (h1 : m.tmod n ≤ 9223372036854775807) : ((do eqGuard .rem 3 x y (.int .i64 m) (.int .i64 n); binOp .rem 3 (.int .i64 m) (.int .i64 n) : Sem Value)).run Try.prog w = .ok (.int .i64 (m.tmod n)) w := by
  have h : IntKind.i64.wrap (m.tmod n) = m.tmod n := IntWalk.i64_in _ (by omega)
  simp [go_sem, h, hn]
theorem qb_quo_int (w : World) (x y : Operand) (m n : Int) (hn : n ≠ 0) (h0 : -9223372036854775808 ≤ m.tdiv n) (h1 : m.tdiv n ≤ 9223372036854775807) : ((do eqGuard .quo 3 x y (.int .i64 m) (.int .i64 n); binOp .quo 3 (.int .i64 m) (.int .i64 n) : Sem Value)).run Try.prog w = .ok (.int .i64 (m.tdiv n)) w := by
  have h : IntKind.i64.wrap (m.tdiv n) = m.tdiv n := IntWalk.i64_in _ (by omega)
  simp [go_sem, h, hn]
theorem takes {l : List Int} {j : Nat} (hj : j < l.length) : l.take (j + 1) = l.take j ++ [l.getD j 0] := by
  rw [List.take_add_one, List.getElem?_eq_getElem hj, List.getD_eq_getElem?_getD, List.getElem?_eq_getElem hj]
  rfl
theorem drop_get (l : List Int) (i j : Nat) : (l.drop i).getD j 0 = l.getD (i + j) 0 := by rw [List.getD_eq_getElem?_getD, List.getD_eq_getElem?_getD, List.getElem?_drop]
theorem drops (l : List Int) (i j : Nat) : (l.drop i).drop j = l.drop (i + j) := List.drop_drop
theorem beg_eq {d : List Int} {p : Nat} (hp : p ≤ d.length) (h3 : ¬(3 : Int) ≤ (nz (d.drop p) : Int)) (h1 : (1 : Int) ≤ (nz (d.drop p) : Int)) : ((p : Int) + (nz (d.drop p) : Int) == (d.length : Int)) = decide (bgn (d.drop p)) := by
  by_cases he : (p : Int) + (nz (d.drop p) : Int) = (d.length : Int)
  · rw [decide_eq_true (show bgn (d.drop p) from .inr ⟨by omega, by rw [List.length_drop]; omega⟩), he]; simp
  · rw [decide_eq_false (show ¬bgn (d.drop p) from fun h => h.elim (fun h => by omega) (fun h => he (by rw [List.length_drop] at h; omega)))]; simpa using he
theorem one_num {x : Int} {T : TypeId} {w : World} {g : Nat} (h : Bx w g #[.int .u8 x] T) : NumAt .u8 w.heap.size w (some ⟨g, 0, none⟩) [x] := bx_num [x] h
set_option maxRecDepth 100000 in
theorem t_noughts (Z : Nat) (da : Option Addr) (dc : Nat) (d : List Int) (hdl : d.length ≤ 1000000) (p : Nat) (hp : p ≤ d.length) (w : World) (hda : NumAt .u8 Z w da d) : Calls Try.prog 32 #[.slice da d.length dc, .int .i64 (p : Int)] w fun e w' => e = .returned (.int .i64 (nz (d.drop p) : Int)) ∧ Fr (fun _ => False) w w' := by
  refine calls_tw Try.func32 rfl rfl (Nat.le_of_ble_eq_true rfl) ?_
  refine TW.sreg ?_
  refine WL.op rfl rfl rfl (Go.Proofs.Ytcombjhkbjbncaa.W.quiet_assign rfl rfl) ?_
  refine WL.nil ?_
  refine TW.sreg ?_
  refine WL.op rfl rfl rfl (Go.Proofs.Ytcombjhkbjbncaa.W.quiet_assign rfl rfl) ?_
  refine WL.nil ?_
  refine TW.seq ?_
  refine TW.block ?_
  refine O.loopG (n := (d.length - p)) (fun a _ => (intOf (a.tmps.getD 5 undef)).toNat) (fun j a W => Kn Try.f32.ntmps [(0, .slice da d.length dc), (1, .int .i64 (p : Int)), (5, .int .i64 (j : Int))] a ∧ Fr (fun _ => False) w W ∧ ∀ i, i < j → (d.drop p).getD i 0 = 0) (fun j a W h => O.slotv h.1 rfl) 0 (Nat.zero_le _) (fun a k => ⟨(by (repeat (refine Kn.cons k rfl ?_)); exact k.base), Fr.refl _ _, fun i hi => absurd hi (by omega)⟩) ?_
  rintro j a wl hj ⟨k, ff, hz⟩
  refine TW.app (s := [(0, .slice da d.length dc), (1, .int .i64 (p : Int)), (5, .int .i64 (j : Int))]) ?_ k
  have hb30 := hdl
  refine TW.seq ?_
  refine TW.sreg ?_
  refine WL.op rfl rfl rfl (Go.Proofs.Ytcombjhkbjbncaa.W.quiet_move rfl rfl) ?_
  refine WL.op rfl rfl rfl (Go.Proofs.Ytcombjhkbjbncaa.W.quiet_move rfl rfl) ?_
  refine WL.op rfl rfl rfl (Go.Proofs.Ytcombjhkbjbncaa.W.quiet_bin rfl rfl rfl (fun W => qb_add_int W _ _ _ _ (by omega) (by omega))) ?_
  refine WL.op rfl rfl rfl (Go.Proofs.Ytcombjhkbjbncaa.W.quiet_move rfl rfl) ?_
  refine O.len rfl rfl rfl rfl rfl (qn_s_uint8 _ _ _ _) ?_
  refine WL.op rfl rfl rfl (Go.Proofs.Ytcombjhkbjbncaa.W.quiet_bin rfl rfl rfl (fun W => qb_lss_int W _ _ _ _)) ?_
  refine O.split (fun b1 => ?_) (fun b1 => ?_)
  · skip
    have hj2 : p + j < d.length := by have := of_decide_eq_true b1; omega
    obtain ⟨g, o, rfl, _, hc⟩ := hda (p + j) hj2
    refine WL.op rfl rfl rfl (Go.Proofs.Ytcombjhkbjbncaa.W.quiet_move rfl rfl) ?_
    refine WL.op rfl rfl rfl (Go.Proofs.Ytcombjhkbjbncaa.W.quiet_move rfl rfl) ?_
    refine WL.op rfl rfl rfl (Go.Proofs.Ytcombjhkbjbncaa.W.quiet_move rfl rfl) ?_
    refine WL.op rfl rfl rfl (Go.Proofs.Ytcombjhkbjbncaa.W.quiet_move rfl rfl) ?_
    refine WL.op rfl rfl rfl (Go.Proofs.Ytcombjhkbjbncaa.W.quiet_bin rfl rfl rfl (fun W => qb_add_int W _ _ _ _ (by omega) (by omega))) ?_
    refine O.ixa rfl rfl rfl rfl rfl rfl (by rw [show (p : Int) + (j : Int) = ((p + j : Nat) : Int) by omega]; exact qi_s_uint8 _ _ _ _ _ _ (by omega)) ?_
    refine WL.ld rfl rfl rfl rfl rfl (ql_uint8 _ _ _ (ff.cell hc id)) ?_
    refine WL.op rfl rfl rfl (Go.Proofs.Ytcombjhkbjbncaa.W.quiet_bin rfl rfl rfl (fun W => qb_eql_uint8 W _ _ _ _)) ?_
    refine O.split (fun b2 => ?_) (fun b2 => ?_)
    · skip
      refine WL.op rfl rfl rfl (Go.Proofs.Ytcombjhkbjbncaa.W.quiet_pick rfl rfl rfl) ?_
      refine WL.nil ?_
      refine TW.cond rfl (fun _ => ?_) (fun hb => by cases hb)
      refine TW.skip ?_
      refine TW.block ?_
      refine TW.reg ?_
      refine WL.op rfl rfl rfl (Go.Proofs.Ytcombjhkbjbncaa.W.quiet_move rfl rfl) ?_
      refine WL.op rfl rfl rfl (Go.Proofs.Ytcombjhkbjbncaa.W.quiet_bin rfl rfl rfl (fun W => qb_add_int W _ _ _ _ (by omega) (by omega))) ?_
      refine WL.op rfl rfl rfl (Go.Proofs.Ytcombjhkbjbncaa.W.quiet_assign rfl rfl) ?_
      refine WL.end ?_
      refine Xw.nblk ?_
      refine Xw.any (fun a k => ?_)
      refine ⟨j + 1, by omega, by omega, by (repeat (refine Kn.cons k rfl ?_)); exact k.base, ff, fun q hq => ?_⟩
      by_cases e : q = j
      · subst e; rw [drop_get]; simpa using b2
      · exact hz q (by omega)
    · skip
      refine WL.op rfl rfl rfl (Go.Proofs.Ytcombjhkbjbncaa.W.quiet_pick rfl rfl rfl) ?_
      refine WL.nil ?_
      refine TW.cond rfl (fun hb => by cases hb) (fun _ => ?_)
      refine TW.exit ?_
      refine Xw.thn (by simp) ?_
      refine Xw.thn (by simp) ?_
      refine Xw.hit ?_
      refine Xw.nrm ?_
      refine TW.sreg ?_
      refine WL.op rfl rfl rfl (Go.Proofs.Ytcombjhkbjbncaa.W.quiet_move rfl rfl) ?_
      refine WL.op rfl rfl rfl (Go.Proofs.Ytcombjhkbjbncaa.W.quiet_assign rfl rfl) ?_
      refine WL.nil ?_
      refine TW.rt ?_
      refine bodyw_ret rfl rfl ?_
      refine ⟨?_, ff⟩
      rw [nz_end (d.drop p) j hz (by simp; omega) (.inr (by rw [drop_get]; simpa using b2))]
  · skip
    refine WL.op rfl rfl rfl (Go.Proofs.Ytcombjhkbjbncaa.W.quiet_move rfl rfl) ?_
    refine WL.skip rfl rfl rfl ?_
    refine WL.skip rfl rfl rfl ?_
    refine WL.skip rfl rfl rfl ?_
    refine WL.skip rfl rfl rfl ?_
    refine WL.skip rfl rfl rfl ?_
    refine WL.skip rfl rfl rfl ?_
    refine WL.skip rfl rfl rfl ?_
    refine WL.op rfl rfl rfl (Go.Proofs.Ytcombjhkbjbncaa.W.quiet_pick rfl rfl rfl) ?_
    refine WL.nil ?_
    refine TW.cond rfl (fun hb => by cases hb) (fun _ => ?_)
    refine TW.exit ?_
    refine Xw.thn (by simp) ?_
    refine Xw.thn (by simp) ?_
    refine Xw.hit ?_
    refine Xw.nrm ?_
    refine TW.sreg ?_
    refine WL.op rfl rfl rfl (Go.Proofs.Ytcombjhkbjbncaa.W.quiet_move rfl rfl) ?_
    refine WL.op rfl rfl rfl (Go.Proofs.Ytcombjhkbjbncaa.W.quiet_assign rfl rfl) ?_
    refine WL.nil ?_
    refine TW.rt ?_
    refine bodyw_ret rfl rfl ?_
    refine ⟨?_, ff⟩
    rw [nz_end (d.drop p) j hz (by simp; omega) (.inl (by have := of_decide_eq_false b1; simp; omega))]
set_option maxRecDepth 100000 in
theorem t_begins (Z : Nat) (da : Option Addr) (dc : Nat) (d : List Int) (hdl : d.length ≤ 1000000) (p : Nat) (hp : p ≤ d.length) (w : World) (hda : NumAt .u8 Z w da d) : Calls Try.prog 31 #[.slice da d.length dc, .int .i64 (p : Int)] w fun e w' => e = .returned (.bool (decide (bgn (d.drop p)))) ∧ Fr (fun _ => False) w w' := by
  refine calls_tw Try.func31 rfl rfl (Nat.le_of_ble_eq_true rfl) ?_
  refine TW.sreg ?_
  refine WL.op rfl rfl rfl (Go.Proofs.Ytcombjhkbjbncaa.W.quiet_assign rfl rfl) ?_
  refine WL.nil ?_
  refine TW.sreg ?_
  refine WL.op rfl rfl rfl (Go.Proofs.Ytcombjhkbjbncaa.W.quiet_move rfl rfl) ?_
  refine WL.op rfl rfl rfl (Go.Proofs.Ytcombjhkbjbncaa.W.quiet_move rfl rfl) ?_
  refine WL.call (hr := (t_noughts Z da dc d hdl p hp _ hda)) rfl rfl rfl rfl rfl (fun W => qk_rushlightref32_noughts W _) ?_
  rintro e w1 ⟨rfl, f1⟩
  refine ⟨_, rfl, ?_⟩
  have ff := f1
  have hn := nz_le (d.drop p)
  rw [List.length_drop] at hn
  refine WL.op rfl rfl rfl (Go.Proofs.Ytcombjhkbjbncaa.W.quiet_assign rfl rfl) ?_
  refine WL.nil ?_
  refine TW.sreg ?_
  refine WL.op rfl rfl rfl (Go.Proofs.Ytcombjhkbjbncaa.W.quiet_move rfl rfl) ?_
  refine WL.op rfl rfl rfl (Go.Proofs.Ytcombjhkbjbncaa.W.quiet_bin rfl rfl rfl (fun W => qb_geq_int W _ _ _ _)) ?_
  refine O.split (fun b1 => ?_) (fun b1 => ?_)
  · skip
    refine WL.op rfl rfl rfl (Go.Proofs.Ytcombjhkbjbncaa.W.quiet_move rfl rfl) ?_
    refine WL.skip rfl rfl rfl ?_
    refine WL.skip rfl rfl rfl ?_
    refine WL.skip rfl rfl rfl ?_
    refine WL.skip rfl rfl rfl ?_
    refine WL.skip rfl rfl rfl ?_
    refine WL.skip rfl rfl rfl ?_
    refine WL.skip rfl rfl rfl ?_
    refine WL.skip rfl rfl rfl ?_
    refine WL.skip rfl rfl rfl ?_
    refine WL.skip rfl rfl rfl ?_
    refine WL.op rfl rfl rfl (Go.Proofs.Ytcombjhkbjbncaa.W.quiet_pick rfl rfl rfl) ?_
    refine WL.op rfl rfl rfl (Go.Proofs.Ytcombjhkbjbncaa.W.quiet_assign rfl rfl) ?_
    refine WL.nil ?_
    refine TW.rt ?_
    refine bodyw_ret rfl rfl ?_
    refine ⟨?_, ff⟩
    rw [decide_eq_true (show bgn (d.drop p) from .inl (by have := of_decide_eq_true b1; omega))]
  · skip
    refine WL.op rfl rfl rfl (Go.Proofs.Ytcombjhkbjbncaa.W.quiet_move rfl rfl) ?_
    refine WL.op rfl rfl rfl (Go.Proofs.Ytcombjhkbjbncaa.W.quiet_move rfl rfl) ?_
    refine WL.op rfl rfl rfl (Go.Proofs.Ytcombjhkbjbncaa.W.quiet_bin rfl rfl rfl (fun W => qb_geq_int W _ _ _ _)) ?_
    refine O.split (fun b2 => ?_) (fun b2 => ?_)
    · skip
      refine WL.op rfl rfl rfl (Go.Proofs.Ytcombjhkbjbncaa.W.quiet_move rfl rfl) ?_
      refine WL.op rfl rfl rfl (Go.Proofs.Ytcombjhkbjbncaa.W.quiet_move rfl rfl) ?_
      refine WL.op rfl rfl rfl (Go.Proofs.Ytcombjhkbjbncaa.W.quiet_move rfl rfl) ?_
      refine WL.op rfl rfl rfl (Go.Proofs.Ytcombjhkbjbncaa.W.quiet_bin rfl rfl rfl (fun W => qb_add_int W _ _ _ _ (by omega) (by omega))) ?_
      refine WL.op rfl rfl rfl (Go.Proofs.Ytcombjhkbjbncaa.W.quiet_move rfl rfl) ?_
      refine O.len rfl rfl rfl rfl rfl (qn_s_uint8 _ _ _ _) ?_
      refine WL.op rfl rfl rfl (Go.Proofs.Ytcombjhkbjbncaa.W.quiet_bin rfl rfl rfl (fun W => qb_eql_int W _ _ _ _)) ?_
      refine WL.op rfl rfl rfl (Go.Proofs.Ytcombjhkbjbncaa.W.quiet_pick rfl rfl rfl) ?_
      refine WL.op rfl rfl rfl (Go.Proofs.Ytcombjhkbjbncaa.W.quiet_pick rfl rfl rfl) ?_
      refine WL.op rfl rfl rfl (Go.Proofs.Ytcombjhkbjbncaa.W.quiet_assign rfl rfl) ?_
      refine WL.nil ?_
      refine TW.rt ?_
      refine bodyw_ret rfl rfl ?_
      refine ⟨?_, ff⟩
      rw [← beg_eq hp (of_decide_eq_false b1) (of_decide_eq_true b2)]
    · skip
      refine WL.op rfl rfl rfl (Go.Proofs.Ytcombjhkbjbncaa.W.quiet_move rfl rfl) ?_
      refine WL.skip rfl rfl rfl ?_
      refine WL.skip rfl rfl rfl ?_
      refine WL.skip rfl rfl rfl ?_
      refine WL.skip rfl rfl rfl ?_
      refine WL.skip rfl rfl rfl ?_
      refine WL.skip rfl rfl rfl ?_
      refine WL.op rfl rfl rfl (Go.Proofs.Ytcombjhkbjbncaa.W.quiet_pick rfl rfl rfl) ?_
      refine WL.op rfl rfl rfl (Go.Proofs.Ytcombjhkbjbncaa.W.quiet_pick rfl rfl rfl) ?_
      refine WL.op rfl rfl rfl (Go.Proofs.Ytcombjhkbjbncaa.W.quiet_assign rfl rfl) ?_
      refine WL.nil ?_
      refine TW.rt ?_
      refine bodyw_ret rfl rfl ?_
      refine ⟨?_, ff⟩
      rw [decide_eq_false (show ¬bgn (d.drop p) from fun h => h.elim (fun h => by have := of_decide_eq_false b1; omega) (fun h => by have := of_decide_eq_false b2; omega))]
set_option maxRecDepth 100000 in
theorem t_num (n : Int) (h0 : 0 ≤ n) (h1 : n ≤ 4294967295) (w : World) : Calls Try.prog 22 #[.int .i64 n] w fun e w' => ∃ v, e = .returned v ∧ R8 w.heap.size w' v (numB n) ∧ (∃ g c, v = .slice (some ⟨g, 0, none⟩) 4 c) ∧ Fr (fun _ => False) w w' := by
  have ff := Fr.refl (fun _ => False) w
  refine calls_tw Try.func22 rfl rfl (Nat.le_of_ble_eq_true rfl) ?_
  have q1 : n.tdiv 256 = n / 256 := Int.tdiv_eq_ediv_of_nonneg h0
  have q2 : n.tdiv 65536 = n / 65536 := Int.tdiv_eq_ediv_of_nonneg h0
  have q3 : n.tdiv 16777216 = n / 16777216 := Int.tdiv_eq_ediv_of_nonneg h0
  have r0 : n.tmod 256 = n % 256 := Int.tmod_eq_emod_of_nonneg h0
  have r1 : (n / 256).tmod 256 = n / 256 % 256 := Int.tmod_eq_emod_of_nonneg (by omega)
  have r2 : (n / 65536).tmod 256 = n / 65536 % 256 := Int.tmod_eq_emod_of_nonneg (by omega)
  refine TW.sreg ?_
  refine WL.op rfl rfl rfl (Go.Proofs.Ytcombjhkbjbncaa.W.quiet_assign rfl rfl) ?_
  refine WL.nil ?_
  refine TW.sreg ?_
  refine WL.op rfl rfl rfl (Go.Proofs.Ytcombjhkbjbncaa.W.quiet_move rfl rfl) ?_
  refine WL.op rfl rfl rfl (Go.Proofs.Ytcombjhkbjbncaa.W.quiet_bin rfl rfl rfl (fun W => (qb_rem_int W _ _ _ _ (by decide) (by rw [r0]; omega) (by rw [r0]; omega)).trans (by rw [r0]))) ?_
  refine O.cv rfl rfl rfl rfl rfl (cv_i8 _ _) ?_
  refine WL.op rfl rfl rfl (Go.Proofs.Ytcombjhkbjbncaa.W.quiet_move rfl rfl) ?_
  refine WL.op rfl rfl rfl (Go.Proofs.Ytcombjhkbjbncaa.W.quiet_bin rfl rfl rfl (fun W => (qb_quo_int W _ _ _ _ (by decide) (by rw [q1]; omega) (by rw [q1]; omega)).trans (by rw [q1]))) ?_
  refine WL.op rfl rfl rfl (Go.Proofs.Ytcombjhkbjbncaa.W.quiet_bin rfl rfl rfl (fun W => (qb_rem_int W _ _ _ _ (by decide) (by rw [r1]; omega) (by rw [r1]; omega)).trans (by rw [r1]))) ?_
  refine O.cv rfl rfl rfl rfl rfl (cv_i8 _ _) ?_
  refine WL.op rfl rfl rfl (Go.Proofs.Ytcombjhkbjbncaa.W.quiet_move rfl rfl) ?_
  refine WL.op rfl rfl rfl (Go.Proofs.Ytcombjhkbjbncaa.W.quiet_bin rfl rfl rfl (fun W => (qb_quo_int W _ _ _ _ (by decide) (by rw [q2]; omega) (by rw [q2]; omega)).trans (by rw [q2]))) ?_
  refine WL.op rfl rfl rfl (Go.Proofs.Ytcombjhkbjbncaa.W.quiet_bin rfl rfl rfl (fun W => (qb_rem_int W _ _ _ _ (by decide) (by rw [r2]; omega) (by rw [r2]; omega)).trans (by rw [r2]))) ?_
  refine O.cv rfl rfl rfl rfl rfl (cv_i8 _ _) ?_
  refine WL.op rfl rfl rfl (Go.Proofs.Ytcombjhkbjbncaa.W.quiet_move rfl rfl) ?_
  refine WL.op rfl rfl rfl (Go.Proofs.Ytcombjhkbjbncaa.W.quiet_bin rfl rfl rfl (fun W => (qb_quo_int W _ _ _ _ (by decide) (by rw [q3]; omega) (by rw [q3]; omega)).trans (by rw [q3]))) ?_
  refine O.cv rfl rfl rfl rfl rfl (cv_i8 _ _) ?_
  have lw1 := ff.size
  refine O.bslR rfl rfl rfl rfl rfl (qv_s_uint8_4 w _ _ _ _) ?_
  rintro wa1 ⟨fa1, bx1⟩
  replace ff := ff.trans fa1
  refine WL.op rfl rfl rfl (Go.Proofs.Ytcombjhkbjbncaa.W.quiet_assign rfl rfl) ?_
  refine WL.nil ?_
  refine TW.rt ?_
  refine bodyw_ret rfl rfl ?_
  have hv : Bx wa1 w.heap.size ((numB n).map (fun x => Value.int .u8 x)).toArray 5 := by
    have e : numB n = [n % 256 % 256, n / 256 % 256 % 256, n / 65536 % 256 % 256, n / 16777216 % 256] := by unfold numB; rw [show n % 256 % 256 = n % 256 by omega, show n / 256 % 256 % 256 = n / 256 % 256 by omega, show n / 65536 % 256 % 256 = n / 65536 % 256 by omega]
    rw [e]
    exact bx1
  exact ⟨_, rfl, bx_row (numB n) hv (Nat.le_refl _) (by simp [numB]), ⟨_, _, rfl⟩, ff⟩
set_option maxRecDepth 100000 in
theorem t_join (B Z : Nat) (v0 : Value) (xs : List Int) (ab : Option Addr) (bc : Nat) (ys : List Int) (hxl : xs.length ≤ 700000) (hyl : ys.length ≤ 200000) (w : World) (hB : B ≤ w.heap.size) (hv : R8 B w v0 xs) (hZ : Z ≤ w.heap.size) (hb : NumAt .u8 Z w ab ys) (hap : ∀ k, v0.ownBlock = some k → ∀ g o, ab = some ⟨g, o, none⟩ → g ≠ k) : Calls Try.prog 21 #[v0, .slice ab ys.length bc] w fun e w' => ∃ v', e = .returned v' ∧ R8 B w' v' (xs ++ ys) ∧ Fr (fun q => v0.ownBlock = some q) w w' ∧ ∀ k, v'.ownBlock = some k → v0.ownBlock = some k ∨ w.heap.size ≤ k := by
  refine calls_tw Try.func21 rfl rfl (Nat.le_of_ble_eq_true rfl) ?_
  refine TW.sreg ?_
  refine WL.op rfl rfl rfl (Go.Proofs.Ytcombjhkbjbncaa.W.quiet_assign rfl rfl) ?_
  refine WL.nil ?_
  refine TW.seq ?_
  refine TW.sreg ?_
  refine WL.op rfl rfl rfl (Go.Proofs.Ytcombjhkbjbncaa.W.quiet_assign rfl rfl) ?_
  refine WL.nil ?_
  refine TW.block ?_
  refine O.loopG (n := ys.length) (fun a _ => (intOf (a.tmps.getD 5 undef)).toNat) (fun j a W => ∃ (v : Value), Kn Try.f21.ntmps [(0, v), (1, .slice ab ys.length bc), (5, .int .i64 (j : Int))] a ∧ Fr (fun q => v0.ownBlock = some q) w W ∧ B ≤ W.heap.size ∧ R8 B W v (xs ++ ys.take j) ∧ (∀ k, v.ownBlock = some k → v0.ownBlock = some k ∨ w.heap.size ≤ k) ∧ NumAt .u8 Z W ab ys) (fun j a W h => by obtain ⟨_, h⟩ := h; exact O.slotv h.1 rfl) 0 (Nat.zero_le _) (fun a k => ⟨v0, (by (repeat (refine Kn.cons k rfl ?_)); exact k.base), Fr.refl _ _, hB, by rw [List.take_zero, List.append_nil]; exact hv, (fun k h => .inl h), hb⟩) ?_
  rintro j a wl hj ⟨v, k, ff, hB, hv, ho, hb⟩
  refine TW.app (s := [(0, v), (1, .slice ab ys.length bc), (5, .int .i64 (j : Int))]) ?_ k
  have hb30 := hyl
  refine TW.seq ?_
  refine TW.sreg ?_
  refine WL.op rfl rfl rfl (Go.Proofs.Ytcombjhkbjbncaa.W.quiet_move rfl rfl) ?_
  refine WL.op rfl rfl rfl (Go.Proofs.Ytcombjhkbjbncaa.W.quiet_move rfl rfl) ?_
  refine O.len rfl rfl rfl rfl rfl (qn_s_uint8 _ _ _ _) ?_
  refine WL.op rfl rfl rfl (Go.Proofs.Ytcombjhkbjbncaa.W.quiet_bin rfl rfl rfl (fun W => qb_lss_int W _ _ _ _)) ?_
  refine O.split (fun b1 => ?_) (fun b1 => ?_)
  · skip
    have hj2 : j < ys.length := by have := of_decide_eq_true b1; omega
    have hwz := ff.size
    obtain ⟨g, o, hab, hgz, hc⟩ := hb j hj2
    refine WL.nil ?_
    refine TW.cond rfl (fun _ => ?_) (fun hb => by cases hb)
    refine TW.skip ?_
    refine TW.seq ?_
    refine TW.block ?_
    refine TW.reg ?_
    refine WL.op rfl rfl rfl (Go.Proofs.Ytcombjhkbjbncaa.W.quiet_move rfl rfl) ?_
    refine WL.op rfl rfl rfl (Go.Proofs.Ytcombjhkbjbncaa.W.quiet_move rfl rfl) ?_
    refine WL.op rfl rfl rfl (Go.Proofs.Ytcombjhkbjbncaa.W.quiet_move rfl rfl) ?_
    refine O.ixa rfl rfl rfl rfl rfl rfl (by rw [hab]; exact qi_s_uint8 _ _ _ _ _ _ (by omega)) ?_
    refine WL.ld rfl rfl rfl rfl rfl (ql_uint8 _ _ _ hc) ?_
    refine O.bslR rfl rfl rfl rfl rfl (qv_s_uint8_1 wl _) ?_
    rintro wa1 ⟨fa1, bx1⟩
    replace ff := ff.trans' fa1 (fun q hq e => e.elim)
    replace hv := Row.fr hv fa1 (fun _ _ => id)
    replace hB := Nat.le_trans hB fa1.size
    replace hb := hb.fr fa1
    refine WL.append rfl rfl rfl rfl rfl rfl (R8.appN [ys.getD j 0] _ hv hB (by rw [List.length_append, List.length_take]; omega) (by simp) (one_num bx1)) ?_
    rintro v3 w3 ⟨hv3, hF3, ho3⟩
    have s2 := fa1.size
    have hsep : ∀ q, v.ownBlock = some q → ∀ i, i < ys.length → q ≠ g := fun q hq i hi => (ho q hq).elim (fun h e => hap q h g o hab e.symm) (fun h => by omega)
    replace hb : NumAt .u8 Z w3 ab ys := fun i hi => by
        obtain ⟨g2, o2, e2, hz2, hc2⟩ := hb i hi
        rw [hab] at e2
        cases e2
        exact ⟨g, o, hab, hz2, hF3.cell hc2 (fun e => hsep g e i hi rfl)⟩
    replace ff := ff.trans' hF3 (fun q hq e => (ho q e).elim id (fun h => absurd hq (by omega)))
    replace hB := Nat.le_trans hB hF3.size
    have hon : ∀ k, v3.ownBlock = some k → v0.ownBlock = some k ∨ w.heap.size ≤ k := fun k hk => (ho3 k hk).elim (ho k) (fun h => .inr (by omega))
    clear hv
    have hv := hv3
    refine WL.op rfl rfl rfl (Go.Proofs.Ytcombjhkbjbncaa.W.quiet_assign rfl rfl) ?_
    refine WL.end ?_
    refine Xw.nblk ?_
    refine Xw.nrm ?_
    refine TW.reg ?_
    refine WL.op rfl rfl rfl (Go.Proofs.Ytcombjhkbjbncaa.W.quiet_move rfl rfl) ?_
    refine WL.op rfl rfl rfl (Go.Proofs.Ytcombjhkbjbncaa.W.quiet_bin rfl rfl rfl (fun W => qb_add_int W _ _ _ _ (by omega) (by omega))) ?_
    refine WL.op rfl rfl rfl (Go.Proofs.Ytcombjhkbjbncaa.W.quiet_assign rfl rfl) ?_
    refine WL.end ?_
    refine Xw.any (fun a k => ?_)
    refine ⟨j + 1, by omega, by omega, v3, (by (repeat (refine Kn.cons k rfl ?_)); exact k.base), ff, hB, ?_, hon, hb⟩
    rw [takes hj2, ← List.append_assoc]; exact hv
  · skip
    have hje : ys.length = j := by have := of_decide_eq_false b1; omega
    rw [List.take_of_length_le (by omega)] at hv
    refine WL.nil ?_
    refine TW.cond rfl (fun hb => by cases hb) (fun _ => ?_)
    refine TW.exit ?_
    refine Xw.thn (by simp) ?_
    refine Xw.thn (by simp) ?_
    refine Xw.hit ?_
    refine Xw.nrm ?_
    refine TW.sreg ?_
    refine WL.op rfl rfl rfl (Go.Proofs.Ytcombjhkbjbncaa.W.quiet_move rfl rfl) ?_
    refine WL.op rfl rfl rfl (Go.Proofs.Ytcombjhkbjbncaa.W.quiet_assign rfl rfl) ?_
    refine WL.nil ?_
    refine TW.rt ?_
    refine bodyw_ret rfl rfl ?_
    exact ⟨_, rfl, hv, ff, ho⟩
end Go.Proofs.Ytcombjhkbjbncaa
