/-
  What instructions use (layer 13): numbers that are none left out.
-/
import Derived.Test.YtobibplilbchfaaDuA
import Derived.Test.YtobibplilbchfaaWt
namespace Go.Proofs.Ytobibplilbchfaa
open Go.RowKit
set_option linter.unusedVariables false
set_option linter.unusedSimpArgs false
theorem qk_ir_Uses_1 (w : World) (vs : Array Value) : (callFunc 54 vs).run Try.prog w = .ok (.enter 54 vs) w := by simp [go_sem]
/-- What an instruction sets, and reads. -/
def defF (i : Inn) : Int := if hD i.x0 = true then i.x1 else -1
def isNo (x : Int) : Bool := x == -1
def usesF (i : Inn) : List Int := (((if hA i.x0 = true then [i.x2] else []) ++ (if hB i.x0 = true then [i.x3] else [])) ++ (if hR i.x0 = true then i.args else [])).filter fun x => !isNo x
theorem Ints.appN {B : Nat} {W : World} {v : Value} {xs : List Int} (ys : List Int) (ty : TypeId) (h : Ints B W v xs) (hB : B ≤ W.heap.size) (hl : xs.length ≤ 1000000) (hy : ys.length ≤ 1000000) {sa : Option Addr} {sc : Nat} (hI : IntsAt W sa ys) : ∃ v' w', (Builtin.append_ #[34, 34] ty #[v, .slice sa ys.length sc]).run Try.prog W = .ok v' w' ∧ (Ints B w' v' (xs ++ ys) ∧ Fr (fun q => v.ownBlock = some q) W w' ∧ ∀ k, v'.ownBlock = some k → v.ownBlock = some k ∨ W.heap.size ≤ k) :=
  Row.appN 34 ty Try.underlying34 infoI rfl (by decide) (by decide) iC_len iC_one ys h hB hl hy fun k x hk => by
    have hlt := (List.getElem?_eq_some_iff.1 hk).1
    obtain ⟨g, o, e, hc⟩ := hI k hlt
    refine ⟨g, o, e, fun j u hu => ?_⟩
    match j, hu with
    | 0, hu =>
      have hx : ys.getD k 0 = x := by rw [List.getD_eq_getElem?_getD, hk]; rfl
      rw [hx] at hc
      simp [iC] at hu
      subst hu
      rw [show k * 1 + 0 = k by omega]
      exact hc
    | n + 1, hu => cases hu
set_option maxRecDepth 100000 in
theorem t_isno (x : Int) (w : World) : Calls Try.prog 54 #[.int .i64 x] w fun e w' => e = .returned (.bool (isNo x)) ∧ Fr (fun _ => False) w w' := by
  have ff := Fr.refl (fun _ => False) w
  refine calls_tw Try.func54 rfl rfl (Nat.le_of_ble_eq_true rfl) ?_
  refine TW.sreg ?_
  refine WL.op rfl rfl rfl (Go.Proofs.Ytobibplilbchfaa.W.quiet_assign rfl rfl) ?_
  refine WL.nil ?_
  refine TW.sreg ?_
  refine WL.op rfl rfl rfl (Go.Proofs.Ytobibplilbchfaa.W.quiet_move rfl rfl) ?_
  refine WL.op rfl rfl rfl (Go.Proofs.Ytobibplilbchfaa.W.quiet_bin rfl rfl rfl (fun W => qb_eql_int W _ _ _ _)) ?_
  refine WL.op rfl rfl rfl (Go.Proofs.Ytobibplilbchfaa.W.quiet_assign rfl rfl) ?_
  refine WL.nil ?_
  refine TW.rt ?_
  refine bodyw_ret rfl rfl ?_
  exact ⟨rfl, ff⟩
set_option maxRecDepth 100000 in
theorem t_idxn (ga : Option Addr) (cap : Nat) (xs : List Int) (hl : xs.length ≤ 1000000) (w : World) (hI : IntsAt w ga xs) : Calls Try.prog 52 #[.slice ga xs.length cap, .func (.func 54) #[] #[]] w fun e w' => ∃ r, e = .returned (.int .i64 r) ∧ IdxP isNo xs r ∧ Fr (fun _ => False) w w' := by
  have ff := Fr.refl (fun _ => False) w
  refine calls_tw Try.func52 rfl rfl (Nat.le_of_ble_eq_true rfl) ?_
  refine TW.sreg ?_
  refine WL.op rfl rfl rfl (Go.Proofs.Ytobibplilbchfaa.W.quiet_assign rfl rfl) ?_
  refine WL.nil ?_
  refine TW.seq ?_
  refine TW.sreg ?_
  refine WL.op rfl rfl rfl (Go.Proofs.Ytobibplilbchfaa.W.quiet_move rfl rfl) ?_
  refine O.len rfl rfl rfl rfl rfl (qn_s_int _ _ _ _) ?_
  refine WL.op rfl rfl rfl (Go.Proofs.Ytobibplilbchfaa.W.quiet_move rfl rfl) ?_
  refine WL.nil ?_
  refine TW.block ?_
  refine O.loopG (n := xs.length) (fun a _ => (intOf (a.tmps.getD 8 undef)).toNat) (fun j a W => Kn Try.f52.ntmps [(0, .slice ga xs.length cap), (1, (.func (.func 54) #[] #[])), (7, .int .i64 (xs.length : Int)), (8, .int .i64 (j : Int))] a ∧ Fr (fun _ => False) w W ∧ IntsAt W ga xs ∧ ∀ k, k < j → isNo (xs.getD k 0) = false) (fun j a W h => O.slotv h.1 rfl) 0 (Nat.zero_le _) (fun a k => ⟨(by (repeat (refine Kn.cons k rfl ?_)); exact k.base), ff, hI, fun k hk => absurd hk (by omega)⟩) ?_
  rintro j a wl hj ⟨k, ff, hI, hle⟩
  refine TW.app (s := [(0, .slice ga xs.length cap), (1, (.func (.func 54) #[] #[])), (7, .int .i64 (xs.length : Int)), (8, .int .i64 (j : Int))]) ?_ k
  refine TW.sreg ?_
  refine WL.op rfl rfl rfl (Go.Proofs.Ytobibplilbchfaa.W.quiet_bin rfl rfl rfl (fun W => qb_lss_int W _ _ _ _)) ?_
  refine O.split (fun hbj => ?_) (fun hbj => ?_)
  · skip
    have hj2 : j < xs.length := by have := of_decide_eq_true hbj; omega
    obtain ⟨gi, oi, rfl, hci⟩ := hI j hj2
    refine WL.nil ?_
    refine TW.seq ?_
    refine TW.cond rfl (fun _ => ?_) (fun hb => by cases hb)
    refine TW.skip ?_
    refine TW.seq ?_
    refine TW.block ?_
    refine TW.sreg ?_
    refine WL.op rfl rfl rfl (Go.Proofs.Ytobibplilbchfaa.W.quiet_move rfl rfl) ?_
    refine WL.op rfl rfl rfl (Go.Proofs.Ytobibplilbchfaa.W.quiet_assign rfl rfl) ?_
    refine WL.nil ?_
    refine TW.sreg ?_
    refine WL.op rfl rfl rfl (Go.Proofs.Ytobibplilbchfaa.W.quiet_move rfl rfl) ?_
    refine WL.op rfl rfl rfl (Go.Proofs.Ytobibplilbchfaa.W.quiet_move rfl rfl) ?_
    refine WL.op rfl rfl rfl (Go.Proofs.Ytobibplilbchfaa.W.quiet_move rfl rfl) ?_
    refine O.ixa rfl rfl rfl rfl rfl rfl (qi_s_int _ _ _ _ _ _ (by omega)) ?_
    refine WL.ld rfl rfl rfl rfl rfl (ql_int _ _ _ hci) ?_
    refine O.callv (hr := t_isno (xs.getD j 0) _) rfl rfl rfl rfl rfl rfl (fun W => qk_ir_Uses_1 W _) ?_
    rintro e w1 ⟨rfl, f1⟩
    refine ⟨_, rfl, ?_⟩
    replace hI := hI.fr f1
    replace ff := ff.trans f1
    refine O.split (fun hb2 => ?_) (fun hb2 => ?_)
    · skip
      refine WL.nil ?_
      refine TW.cond rfl (fun _ => ?_) (fun hb => by cases hb)
      refine TW.sreg ?_
      refine WL.op rfl rfl rfl (Go.Proofs.Ytobibplilbchfaa.W.quiet_move rfl rfl) ?_
      refine WL.op rfl rfl rfl (Go.Proofs.Ytobibplilbchfaa.W.quiet_assign rfl rfl) ?_
      refine WL.nil ?_
      refine TW.rt ?_
      refine Xw.rblk ?_
      refine Xw.thn (by simp) ?_
      refine Xw.thn (by simp) ?_
      refine Xw.rblk ?_
      refine Xw.thn (by simp) ?_
      refine bodyw_ret rfl rfl ?_
      exact ⟨_, rfl, .inr ⟨j, hj2, rfl, hb2, hle⟩, ff⟩
    · skip
      refine WL.nil ?_
      refine TW.cond rfl (fun hb => by cases hb) (fun _ => ?_)
      refine TW.skipx ?_
      refine Xw.nblk ?_
      refine Xw.nrm ?_
      refine TW.reg ?_
      refine WL.op rfl rfl rfl (Go.Proofs.Ytobibplilbchfaa.W.quiet_bin rfl rfl rfl (fun W => qb_add_int W _ _ _ _ (by omega) (by omega))) ?_
      refine WL.op rfl rfl rfl (Go.Proofs.Ytobibplilbchfaa.W.quiet_move rfl rfl) ?_
      refine WL.end ?_
      refine Xw.any (fun a k => ?_)
      refine ⟨j + 1, by omega, by omega, (by (repeat (refine Kn.cons k rfl ?_)); exact k.base), ff, hI, fun q hq => ?_⟩
      by_cases e : q = j
      · subst e; exact hb2
      · exact hle q (by omega)
  · skip
    refine WL.nil ?_
    refine TW.seq ?_
    refine TW.cond rfl (fun hb => by cases hb) (fun _ => ?_)
    refine TW.exit ?_
    refine Xw.thn (by simp) ?_
    refine Xw.thn (by simp) ?_
    refine Xw.hit ?_
    refine Xw.nrm ?_
    refine TW.sreg ?_
    refine WL.op rfl rfl rfl (Go.Proofs.Ytobibplilbchfaa.W.quiet_assign rfl rfl) ?_
    refine WL.nil ?_
    refine TW.rt ?_
    refine bodyw_ret rfl rfl ?_
    have hje : j = xs.length := by have := of_decide_eq_false hbj; omega
    subst hje
    exact ⟨-1, rfl, .inl ⟨rfl, hle⟩, ff⟩
set_option maxRecDepth 100000 in
theorem t_deln (B : Nat) (v0 : Value) (xs : List Int) (hl : xs.length ≤ 1000000) (w : World) (hI : Ints B w v0 xs) : Calls Try.prog 37 #[v0, .func (.func 54) #[] #[]] w fun e w' => ∃ v, e = .returned v ∧ Ints B w' v (xs.filter fun x => !isNo x) ∧ Fr (fun q => v0.ownBlock = some q) w w' := by
  obtain ⟨ga, cap, rfl, hIa⟩ := hI.at
  refine calls_tw Try.func37 rfl rfl (Nat.le_of_ble_eq_true rfl) ?_
  refine TW.sreg ?_
  refine WL.op rfl rfl rfl (Go.Proofs.Ytobibplilbchfaa.W.quiet_assign rfl rfl) ?_
  refine WL.nil ?_
  refine TW.sreg ?_
  refine WL.op rfl rfl rfl (Go.Proofs.Ytobibplilbchfaa.W.quiet_move rfl rfl) ?_
  refine WL.op rfl rfl rfl (Go.Proofs.Ytobibplilbchfaa.W.quiet_move rfl rfl) ?_
  refine WL.call (hr := t_idxn ga cap xs hl w hIa) rfl rfl rfl rfl rfl (fun W => qk_slices_IndexFunc_int_int W _) ?_
  rintro e w0 ⟨r, rfl, hr, f0⟩
  refine ⟨_, rfl, ?_⟩
  replace hI := hI.fr f0 (fun _ _ => id)
  rcases hr with ⟨rfl, hr2⟩ | ⟨k0, hk0, rfl, hk2, hk3⟩
  · skip
    refine WL.op rfl rfl rfl (Go.Proofs.Ytobibplilbchfaa.W.quiet_assign rfl rfl) ?_
    refine WL.nil ?_
    refine TW.seq ?_
    refine TW.sreg ?_
    refine WL.op rfl rfl rfl (Go.Proofs.Ytobibplilbchfaa.W.quiet_move rfl rfl) ?_
    refine WL.op rfl rfl rfl (Go.Proofs.Ytobibplilbchfaa.W.quiet_bin rfl rfl rfl (fun W => qb_eql_int W _ _ _ _)) ?_
    refine O.split (fun hb => ?_) (fun hb => by exfalso; revert hb; first | (simp; done) | (simp; omega))
    refine WL.nil ?_
    refine TW.cond rfl (fun _ => ?_) (fun hb => by cases hb)
    refine TW.sreg ?_
    refine WL.op rfl rfl rfl (Go.Proofs.Ytobibplilbchfaa.W.quiet_move rfl rfl) ?_
    refine WL.op rfl rfl rfl (Go.Proofs.Ytobibplilbchfaa.W.quiet_assign rfl rfl) ?_
    refine WL.nil ?_
    refine TW.rt ?_
    refine Xw.thn (by simp) ?_
    refine bodyw_ret rfl rfl ?_
    refine ⟨_, rfl, ?_, f0.mono (fun _ _ e => e.elim)⟩
    rw [← keepK_len, keepK_all _ (Nat.le_refl _) hr2, List.take_length]
    exact hI
  · obtain ⟨gr, cap2, he, ho⟩ := Row.own hI (by omega)
    injection he with he1 he2 he3
    subst he1 he3
    have fd : Fr (fun q => q = gr) w w0 := f0.mono (fun _ _ e => e.elim)
    refine WL.op rfl rfl rfl (Go.Proofs.Ytobibplilbchfaa.W.quiet_assign rfl rfl) ?_
    refine WL.nil ?_
    refine TW.seq ?_
    refine TW.sreg ?_
    refine WL.op rfl rfl rfl (Go.Proofs.Ytobibplilbchfaa.W.quiet_move rfl rfl) ?_
    refine WL.op rfl rfl rfl (Go.Proofs.Ytobibplilbchfaa.W.quiet_bin rfl rfl rfl (fun W => qb_eql_int W _ _ _ _)) ?_
    refine O.split (fun hb => by have := eq_of_beq hb; omega) (fun hb => ?_)
    refine WL.nil ?_
    refine TW.cond rfl (fun hb => by cases hb) (fun _ => ?_)
    refine TW.skip ?_
    refine TW.seq ?_
    refine TW.sreg ?_
    refine WL.op rfl rfl rfl (Go.Proofs.Ytobibplilbchfaa.W.quiet_move rfl rfl) ?_
    refine WL.op rfl rfl rfl (Go.Proofs.Ytobibplilbchfaa.W.quiet_bin rfl rfl rfl (fun W => qb_add_int W _ _ _ _ (by omega) (by omega))) ?_
    refine WL.op rfl rfl rfl (Go.Proofs.Ytobibplilbchfaa.W.quiet_assign rfl rfl) ?_
    refine WL.nil ?_
    refine TW.block ?_
    refine O.loopG (n := xs.length) (fun a _ => (intOf (a.tmps.getD 6 undef)).toNat) (fun j a W => ∃ (i : Nat) (ys : List Int), Kn Try.f37.ntmps [(0, .slice (some ⟨gr, 0, none⟩) xs.length cap), (1, (.func (.func 54) #[] #[])), (5, .int .i64 (i : Int)), (6, .int .i64 (j : Int))] a ∧ Fr (fun q => q = gr) w W ∧ Ints B W (.slice (some ⟨gr, 0, none⟩) xs.length cap) ys ∧ ys.length = xs.length ∧ i < j ∧ j ≤ xs.length ∧ i = (keepK isNo xs j).length ∧ ys.take i = keepK isNo xs j ∧ ∀ m, j ≤ m → m < xs.length → ys.getD m 0 = xs.getD m 0) (fun j a W h => by obtain ⟨_, _, h⟩ := h; exact O.slotv h.1 rfl) (k0 + 1) (by omega) (fun a k => ⟨k0, xs, (by (repeat (refine Kn.cons k rfl ?_)); exact k.base), fd, hI, rfl, by omega, by omega, by rw [keepK_no hk0 hk2, keepK_all k0 (by omega) hk3, List.length_take]; omega, by rw [keepK_no hk0 hk2, keepK_all k0 (by omega) hk3], fun _ _ _ => rfl⟩) ?_
    rintro j a wl hj ⟨i, ys, k, fd, hI, hyl, hij, hjl, hil, hyt, hyr⟩
    refine TW.app (s := [(0, .slice (some ⟨gr, 0, none⟩) xs.length cap), (1, (.func (.func 54) #[] #[])), (5, .int .i64 (i : Int)), (6, .int .i64 (j : Int))]) ?_ k
    refine TW.seq ?_
    refine TW.sreg ?_
    refine WL.op rfl rfl rfl (Go.Proofs.Ytobibplilbchfaa.W.quiet_move rfl rfl) ?_
    refine WL.op rfl rfl rfl (Go.Proofs.Ytobibplilbchfaa.W.quiet_move rfl rfl) ?_
    refine O.len rfl rfl rfl rfl rfl (qn_s_int _ _ _ _) ?_
    refine WL.op rfl rfl rfl (Go.Proofs.Ytobibplilbchfaa.W.quiet_bin rfl rfl rfl (fun W => qb_lss_int W _ _ _ _)) ?_
    refine O.split (fun hbj => ?_) (fun hbj => ?_)
    · skip
      have hj2 : j < xs.length := by have := of_decide_eq_true hbj; omega
      have hyj := hyr j (Nat.le_refl _) hj2
      refine WL.nil ?_
      refine TW.cond rfl (fun _ => ?_) (fun hb => by cases hb)
      refine TW.skip ?_
      refine TW.seq ?_
      refine TW.block ?_
      refine TW.sreg ?_
      refine WL.op rfl rfl rfl (Go.Proofs.Ytobibplilbchfaa.W.quiet_move rfl rfl) ?_
      refine WL.op rfl rfl rfl (Go.Proofs.Ytobibplilbchfaa.W.quiet_move rfl rfl) ?_
      refine O.ixa rfl rfl rfl rfl rfl rfl (qi_s_int _ _ _ _ _ _ (by omega)) ?_
      refine WL.ld rfl rfl rfl rfl rfl (ql_int _ _ _ (hI.cell (k := j) (by omega))) ?_
      rw [hyj]
      refine WL.op rfl rfl rfl (Go.Proofs.Ytobibplilbchfaa.W.quiet_assign rfl rfl) ?_
      refine WL.nil ?_
      refine TW.sreg ?_
      refine WL.op rfl rfl rfl (Go.Proofs.Ytobibplilbchfaa.W.quiet_move rfl rfl) ?_
      refine WL.op rfl rfl rfl (Go.Proofs.Ytobibplilbchfaa.W.quiet_move rfl rfl) ?_
      refine O.callv (hr := t_isno (xs.getD j 0) _) rfl rfl rfl rfl rfl rfl (fun W => qk_ir_Uses_1 W _) ?_
      rintro e w1 ⟨rfl, f1⟩
      refine ⟨_, rfl, ?_⟩
      replace hI := hI.fr f1 (fun _ _ => id)
      replace fd := fd.trans' f1 (fun _ _ e => e.elim)
      cases hb2 : isNo (xs.getD j 0)
      · skip
        refine WL.op rfl rfl rfl (Go.Proofs.Ytobibplilbchfaa.W.quiet_not rfl rfl) ?_
        refine O.split (fun hb => ?_) (fun hb => by exfalso; revert hb; first | (simp; done) | (simp; omega))
        refine WL.nil ?_
        refine TW.cond rfl (fun _ => ?_) (fun hb => by cases hb)
        refine TW.sreg ?_
        refine WL.op rfl rfl rfl (Go.Proofs.Ytobibplilbchfaa.W.quiet_move rfl rfl) ?_
        refine WL.op rfl rfl rfl (Go.Proofs.Ytobibplilbchfaa.W.quiet_move rfl rfl) ?_
        refine WL.op rfl rfl rfl (Go.Proofs.Ytobibplilbchfaa.W.quiet_move rfl rfl) ?_
        refine O.ixa rfl rfl rfl rfl rfl rfl (qi_s_int _ _ _ _ _ _ (by omega)) ?_
        refine O.storeR rfl rfl rfl rfl rfl (hI.store (k := i) (by omega) (xs.getD j 0)) ?_
        rintro w2 ⟨hI2, hFs⟩
        replace fd := fd.trans' hFs (fun _ _ e => e)
        have hI := hI2
        refine WL.nil ?_
        refine TW.reg ?_
        refine WL.op rfl rfl rfl (Go.Proofs.Ytobibplilbchfaa.W.quiet_move rfl rfl) ?_
        refine WL.op rfl rfl rfl (Go.Proofs.Ytobibplilbchfaa.W.quiet_bin rfl rfl rfl (fun W => qb_add_int W _ _ _ _ (by omega) (by omega))) ?_
        refine WL.op rfl rfl rfl (Go.Proofs.Ytobibplilbchfaa.W.quiet_assign rfl rfl) ?_
        refine WL.end ?_
        refine Xw.nblk ?_
        refine Xw.nrm ?_
        refine TW.reg ?_
        refine WL.op rfl rfl rfl (Go.Proofs.Ytobibplilbchfaa.W.quiet_move rfl rfl) ?_
        refine WL.op rfl rfl rfl (Go.Proofs.Ytobibplilbchfaa.W.quiet_bin rfl rfl rfl (fun W => qb_add_int W _ _ _ _ (by omega) (by omega))) ?_
        refine WL.op rfl rfl rfl (Go.Proofs.Ytobibplilbchfaa.W.quiet_assign rfl rfl) ?_
        refine WL.end ?_
        refine Xw.any (fun a k => ?_)
        refine ⟨j + 1, by omega, by omega, i + 1, ys.set i (xs.getD j 0), (by (repeat (refine Kn.cons k rfl ?_)); exact k.base), fd, hI, by rw [List.length_set]; exact hyl, by omega, by omega, ?_, ?_, fun m h1 h2 => ?_⟩
        · rw [keepK_yes hj2 hb2, List.length_append, ← hil]; rfl
        · rw [keepK_yes hj2 hb2]; exact take_set_snoc (by omega) hyt
        · rw [List.getD_eq_getElem?_getD, List.getElem?_set_ne (by omega), ← List.getD_eq_getElem?_getD]; exact hyr m (by omega) h2
      · skip
        refine WL.op rfl rfl rfl (Go.Proofs.Ytobibplilbchfaa.W.quiet_not rfl rfl) ?_
        refine O.split (fun hb => by exfalso; revert hb; first | (simp; done) | (simp; omega)) (fun hb => ?_)
        refine WL.nil ?_
        refine TW.cond rfl (fun hb => by cases hb) (fun _ => ?_)
        refine TW.skipx ?_
        refine Xw.nblk ?_
        refine Xw.nrm ?_
        refine TW.reg ?_
        refine WL.op rfl rfl rfl (Go.Proofs.Ytobibplilbchfaa.W.quiet_move rfl rfl) ?_
        refine WL.op rfl rfl rfl (Go.Proofs.Ytobibplilbchfaa.W.quiet_bin rfl rfl rfl (fun W => qb_add_int W _ _ _ _ (by omega) (by omega))) ?_
        refine WL.op rfl rfl rfl (Go.Proofs.Ytobibplilbchfaa.W.quiet_assign rfl rfl) ?_
        refine WL.end ?_
        refine Xw.any (fun a k => ?_)
        refine ⟨j + 1, by omega, by omega, i, ys, (by (repeat (refine Kn.cons k rfl ?_)); exact k.base), fd, hI, hyl, by omega, by omega, ?_, ?_, fun m h1 h2 => hyr m (by omega) h2⟩
        · rw [keepK_no hj2 hb2]; exact hil
        · rw [keepK_no hj2 hb2]; exact hyt
    · skip
      have hje : j = xs.length := by have := of_decide_eq_false hbj; omega
      subst hje
      obtain ⟨_, hcap, _⟩ := Row.capLe hI
      rw [keepK_len] at hil hyt
      refine WL.nil ?_
      refine TW.cond rfl (fun hb => by cases hb) (fun _ => ?_)
      refine TW.exit ?_
      refine Xw.thn (by simp) ?_
      refine Xw.thn (by simp) ?_
      refine Xw.hit ?_
      refine Xw.nrm ?_
      refine TW.sreg ?_
      refine WL.op rfl rfl rfl (Go.Proofs.Ytobibplilbchfaa.W.quiet_move rfl rfl) ?_
      refine WL.op rfl rfl rfl (Go.Proofs.Ytobibplilbchfaa.W.quiet_move rfl rfl) ?_
      refine O.sl1 rfl rfl rfl rfl rfl rfl (sl_from _ _ _ _ _ i (by omega)) ?_
      refine O.clr rfl rfl rfl rfl (hI.clear _ i (by omega)) ?_
      rintro w5 ⟨hI5, hF5⟩
      -- world w5
      replace fd := fd.trans' hF5 (fun _ _ e => e)
      rw [hyt] at hI5
      refine WL.nil ?_
      refine TW.sreg ?_
      refine WL.op rfl rfl rfl (Go.Proofs.Ytobibplilbchfaa.W.quiet_move rfl rfl) ?_
      refine WL.op rfl rfl rfl (Go.Proofs.Ytobibplilbchfaa.W.quiet_move rfl rfl) ?_
      refine O.sl2 rfl rfl rfl rfl rfl rfl (sl_to _ _ _ _ i (by omega) (fun e => by cases e)) ?_
      refine WL.op rfl rfl rfl (Go.Proofs.Ytobibplilbchfaa.W.quiet_assign rfl rfl) ?_
      refine WL.nil ?_
      refine TW.rt ?_
      refine bodyw_ret rfl rfl ?_
      rw [hil]
      exact ⟨_, rfl, by rw [← hil]; exact hI5, fd.mono (fun q _ e => by rw [e]; rfl)⟩
end Go.Proofs.Ytobibplilbchfaa
