/-
  Flow (layer 16): numbers left out.
-/
import Derived.Test.YtobibplilbchfaaFlA
namespace Go.Proofs.Ytobibplilbchfaa
open Go.RowKit
set_option linter.unusedVariables false
set_option linter.unusedSimpArgs false
theorem qb_lss_int (w : World) (x y : Operand) (m n : Int) : ((do eqGuard .lss 3 x y (.int .i64 m) (.int .i64 n); binOp .lss 3 (.int .i64 m) (.int .i64 n) : Sem Value)).run Try.prog w = .ok (.bool (decide (m < n))) w := by simp [go_sem]
theorem qa_api_Proc_5 (w : World) (b o : Nat) : (Instr.fieldAt 25 (.pointer (some ⟨b, o, none⟩)) 5).run Try.prog w = .ok (.pointer (some ⟨b, o + 5, none⟩)) w := by simp [go_sem]
theorem ql_s_api_Block (w : World) (p : Option Addr) (k l : Nat) (d : Addr) (h : w.cell? d = some (.slice p k l)) : (Instr.loadAt 23 (.pointer (some d))).run Try.prog w = .ok (.slice p k l) w := by simp [go_sem, h]
theorem qn_s_api_Block (w : World) (a : Option Addr) (k l : Nat) : (Builtin.len_ #[23] 3 #[.slice a k l]).run Try.prog w = .ok (.int .i64 k) w := by simp [go_sem]
theorem qb_geq_int (w : World) (x y : Operand) (m n : Int) : ((do eqGuard .geq 3 x y (.int .i64 m) (.int .i64 n); binOp .geq 3 (.int .i64 m) (.int .i64 n) : Sem Value)).run Try.prog w = .ok (.bool (decide (n ≤ m))) w := by simp [go_sem]
theorem qn_s_int (w : World) (a : Option Addr) (k l : Nat) : (Builtin.len_ #[34] 3 #[.slice a k l]).run Try.prog w = .ok (.int .i64 k) w := by simp [go_sem]
theorem qi_s_int (w : World) (b o n c j : Nat) (hj : j < n) : (Instr.indexAt 34 (.slice (some ⟨b, o, none⟩) n c) (.int .i64 (j : Int))).run Try.prog w = .ok (.pointer (some ⟨b, o + j, none⟩)) w := by
  have h : (j : Int) < (n : Int) := by omega
  simp [go_sem, h, hj]
theorem qk_flow_outs_1 (w : World) (vs : Array Value) : (callFunc 39 vs).run Try.prog w = .ok (.enter 39 vs) w := by simp [go_sem]
theorem qb_add_int (w : World) (x y : Operand) (m n : Int) (h0 : -9223372036854775808 ≤ m + n) (h1 : m + n ≤ 9223372036854775807) : ((do eqGuard .add 3 x y (.int .i64 m) (.int .i64 n); binOp .add 3 (.int .i64 m) (.int .i64 n) : Sem Value)).run Try.prog w = .ok (.int .i64 (m + n)) w := by
  have h : IntKind.i64.wrap (m + n) = m + n := IntWalk.i64_in _ (by omega)
  simp [go_sem, h]
theorem qk_slices_IndexFunc_int_int (w : World) (vs : Array Value) : (callFunc 52 vs).run Try.prog w = .ok (.enter 52 vs) w := by simp [go_sem]
theorem sl_from (w : World) (g o n c i : Nat) (hi : i ≤ n) : (Instr.sliceAt 34 (.slice (some ⟨g, o, none⟩) n c) (some (.int .i64 (i : Int))) none none).run Try.prog w = .ok (.slice (some ⟨g, if c = i then o else o + i, none⟩) (n - i) (c - i)) w := by
  simp [go_sem, hi]
  split <;> rfl
theorem sl_to (w : World) (a : Option Addr) (n c i : Nat) (hi : i ≤ c) (ha : a = none → c = 0) : (Instr.sliceAt 34 (.slice a n c) none (some (.int .i64 (i : Int))) none).run Try.prog w = .ok (.slice a i c) w := by
  cases a with
  | none =>
    have := ha rfl
    subst this
    obtain rfl : i = 0 := by omega
    simp [go_sem]
  | some a => simp [go_sem]; omega
theorem Ints.cell {B : Nat} {w : World} {g n cap : Nat} {ys : List Int} (h : Ints B w (.slice (some ⟨g, 0, none⟩) n cap) ys) {k : Nat} (hk : k < ys.length) : w.cell? ⟨g, 0 + k, none⟩ = some (.int .i64 (ys.getD k 0)) :=
  Row.cell iC_len h (k := k) (x := ys[k]) (List.getElem?_eq_getElem hk) (j := 0) (u := .int .i64 (ys.getD k 0)) (by simp [iC, List.getD_eq_getElem?_getD, hk]) (by omega)
theorem Ints.store {B : Nat} {w : World} {g n cap : Nat} {ys : List Int} (h : Ints B w (.slice (some ⟨g, 0, none⟩) n cap) ys) {k : Nat} (hk : k < ys.length) (x : Int) : ∃ w', (Instr.storeAt 3 (.pointer (some ⟨g, 0 + k, none⟩)) (.int .i64 x)).run Try.prog w = .ok () w' ∧ (Ints B w' (.slice (some ⟨g, 0, none⟩) n cap) (ys.set k x) ∧ Fr (fun q => q = g) w w') := by
  have c0 := h.cell hk
  have e0 := Row.free (q := 0 + k) h
  exact ⟨w.setCell ⟨g, 0 + k, none⟩ (.int .i64 x), by simp only [Nat.zero_add] at c0 e0 ⊢; simp [go_sem, c0, e0], Row.upd iC_len h hk (j := 0) (by decide) (by omega) _ x (fun _ _ => rfl), Fr.setCell _ _ _ rfl⟩
theorem Ints.clear {B : Nat} {w : World} {g n cap : Nat} {ys : List Int} (h : Ints B w (.slice (some ⟨g, 0, none⟩) n cap) ys) (ty : TypeId) (i : Nat) (hi : i ≤ ys.length) : ∃ w', (Builtin.clear_ #[34] ty #[.slice (some ⟨g, if cap = i then 0 else 0 + i, none⟩) (n - i) (cap - i)]).run Try.prog w = .ok (.tuple #[]) w' ∧ (Ints B w' (.slice (some ⟨g, 0, none⟩) i cap) (ys.take i) ∧ Fr (fun q => q = g) w w') := by
  obtain ⟨rfl, _, _⟩ := Row.capLe h
  exact Row.clear 34 ty Try.underlying34 infoI rfl rfl iC_len h i hi
/-- A number out of range. -/
def isOut (n : Nat) (x : Int) : Bool := decide (x < 0) || decide ((n : Int) ≤ x)
/-- The first of a list of which something holds, or -1. -/
def IdxP (p : Int → Bool) (xs : List Int) (r : Int) : Prop := (r = -1 ∧ ∀ k, k < xs.length → p (xs.getD k 0) = false) ∨ ∃ k : Nat, k < xs.length ∧ r = k ∧ p (xs.getD k 0) = true ∧ ∀ j, j < k → p (xs.getD j 0) = false
def keepK (p : Int → Bool) (l : List Int) (k : Nat) : List Int := (l.take k).filter fun x => !p x
theorem keepK_no {p : Int → Bool} {l : List Int} {k : Nat} (hk : k < l.length) (h : p (l.getD k 0) = true) : keepK p l (k + 1) = keepK p l k := by
  unfold keepK
  rw [List.take_add_one, List.filter_append, List.getElem?_eq_getElem hk]
  rw [List.getD_eq_getElem?_getD, List.getElem?_eq_getElem hk] at h
  have h' : p l[k] = true := h
  simp [h']
theorem keepK_yes {p : Int → Bool} {l : List Int} {k : Nat} (hk : k < l.length) (h : p (l.getD k 0) = false) : keepK p l (k + 1) = keepK p l k ++ [l.getD k 0] := by
  unfold keepK
  rw [List.take_add_one, List.filter_append, List.getElem?_eq_getElem hk]
  rw [List.getD_eq_getElem?_getD, List.getElem?_eq_getElem hk] at h ⊢
  have h' : p l[k] = false := h
  simp [h']
theorem keepK_all {p : Int → Bool} {l : List Int} (k : Nat) (hk : k ≤ l.length) (h : ∀ j, j < k → p (l.getD j 0) = false) : keepK p l k = l.take k := by
  induction k with
  | zero => simp [keepK]
  | succ k ih =>
    rw [keepK_yes (by omega) (h k (by omega)), ih (by omega) (fun j hj => h j (by omega)), List.take_add_one, List.getElem?_eq_getElem (by omega), List.getD_eq_getElem?_getD, List.getElem?_eq_getElem (by omega)]
    rfl
theorem keepK_len (p : Int → Bool) (l : List Int) : keepK p l l.length = l.filter fun x => !p x := by unfold keepK; rw [List.take_length]
theorem keepK_le (p : Int → Bool) (l : List Int) (k : Nat) (hk : k ≤ l.length) : (keepK p l k).length ≤ k := by
  unfold keepK
  refine Nat.le_trans (List.length_filter_le _ _) ?_
  rw [List.length_take]
  omega
theorem take_set_snoc {ys : List Int} {i : Nat} {x : Int} {l : List Int} (hi : i < ys.length) (h : ys.take i = l) : (ys.set i x).take (i + 1) = l ++ [x] := by
  rw [List.take_add_one, List.take_set_of_le (Nat.le_refl i), h]
  simp [hi]
set_option maxRecDepth 100000 in
theorem t_isout (nm : ByteArray) (vd : Bool) (pr R : Int) (oa : Option Addr) (on oc : Nat) (ba : Option Addr) (bs : List Bk) (bc : Nat) (g : Nat) (x : Int) (w : World) (hbx : Bx w g #[.string nm, .bool vd, .int .i64 pr, .int .i64 R, .slice oa on oc, .slice ba bs.length bc] 25) : Calls Try.prog 39 #[.int .i64 x, .pointer (some ⟨g, 0, none⟩)] w fun e w' => e = .returned (.bool (isOut bs.length x)) ∧ Fr (fun _ => False) w w' := by
  have ff := Fr.refl (fun _ => False) w
  refine calls_tw Try.func39 rfl rfl (Nat.le_of_ble_eq_true rfl) ?_
  refine TW.sreg ?_
  refine WL.op rfl rfl rfl (Go.Proofs.Ytobibplilbchfaa.W.quiet_assign rfl rfl) ?_
  refine WL.nil ?_
  refine TW.sreg ?_
  refine WL.op rfl rfl rfl (Go.Proofs.Ytobibplilbchfaa.W.quiet_move rfl rfl) ?_
  refine WL.op rfl rfl rfl (Go.Proofs.Ytobibplilbchfaa.W.quiet_bin rfl rfl rfl (fun W => qb_lss_int W _ _ _ _)) ?_
  refine O.split (fun h1 => ?_) (fun h1 => ?_)
  · skip
    refine WL.op rfl rfl rfl (Go.Proofs.Ytobibplilbchfaa.W.quiet_move rfl rfl) ?_
    refine WL.skip rfl rfl rfl ?_
    refine WL.skip rfl rfl rfl ?_
    refine WL.skip rfl rfl rfl ?_
    refine WL.skip rfl rfl rfl ?_
    refine WL.skip rfl rfl rfl ?_
    refine WL.op rfl rfl rfl (Go.Proofs.Ytobibplilbchfaa.W.quiet_pick rfl rfl rfl) ?_
    refine WL.op rfl rfl rfl (Go.Proofs.Ytobibplilbchfaa.W.quiet_assign rfl rfl) ?_
    refine WL.nil ?_
    refine TW.rt ?_
    refine bodyw_ret rfl rfl ?_
    refine ⟨?_, ff⟩
    unfold isOut
    rw [h1, Bool.true_or]
  · skip
    refine WL.op rfl rfl rfl (Go.Proofs.Ytobibplilbchfaa.W.quiet_move rfl rfl) ?_
    refine WL.op rfl rfl rfl (Go.Proofs.Ytobibplilbchfaa.W.quiet_move rfl rfl) ?_
    refine WL.op rfl rfl rfl (Go.Proofs.Ytobibplilbchfaa.W.quiet_field rfl rfl (fun W => (qa_api_Proc_5 W _ _))) ?_
    refine WL.ld rfl rfl rfl rfl rfl (ql_s_api_Block _ _ _ _ _ (hbx.cell (j := 5) rfl)) ?_
    refine O.len rfl rfl rfl rfl rfl (qn_s_api_Block _ _ _ _) ?_
    refine WL.op rfl rfl rfl (Go.Proofs.Ytobibplilbchfaa.W.quiet_bin rfl rfl rfl (fun W => qb_geq_int W _ _ _ _)) ?_
    refine WL.op rfl rfl rfl (Go.Proofs.Ytobibplilbchfaa.W.quiet_pick rfl rfl rfl) ?_
    refine WL.op rfl rfl rfl (Go.Proofs.Ytobibplilbchfaa.W.quiet_assign rfl rfl) ?_
    refine WL.nil ?_
    refine TW.rt ?_
    refine bodyw_ret rfl rfl ?_
    refine ⟨?_, ff⟩
    unfold isOut
    rw [h1, Bool.false_or]
set_option maxRecDepth 100000 in
theorem t_idxo (nm : ByteArray) (vd : Bool) (pr R : Int) (oa : Option Addr) (on oc : Nat) (ba : Option Addr) (bs : List Bk) (bc : Nat) (g : Nat) (ga : Option Addr) (cap : Nat) (xs : List Int) (hl : xs.length ≤ 1000000) (w : World) (hbx : Bx w g #[.string nm, .bool vd, .int .i64 pr, .int .i64 R, .slice oa on oc, .slice ba bs.length bc] 25) (hI : IntsAt w ga xs) : Calls Try.prog 52 #[.slice ga xs.length cap, .func (.func 39) #[] #[.pointer (some ⟨g, 0, none⟩)]] w fun e w' => ∃ r, e = .returned (.int .i64 r) ∧ IdxP (isOut bs.length) xs r ∧ Fr (fun _ => False) w w' := by
  have ff := Fr.refl (fun _ => False) w
  refine calls_tw Try.func52 rfl rfl (Nat.le_of_ble_eq_true rfl) ?_
  refine TW.sreg ?_
  refine WL.op rfl rfl rfl (Go.Proofs.Ytobibplilbchfaa.W.quiet_assign rfl rfl) ?_
  refine WL.nil ?_
  refine TW.seq ?_
  refine TW.sreg ?_
  refine WL.op rfl rfl rfl (Go.Proofs.Ytobibplilbchfaa.W.quiet_move rfl rfl) ?_
  refine O.len rfl rfl rfl rfl rfl (qn_s_int _ _ _ _) ?_
  refine WL.op rfl rfl rfl (Go.Proofs.Ytobibplilbchfaa.W.quiet_move rfl rfl) ?_
  refine WL.nil ?_
  refine TW.block ?_
  refine O.loopG (n := xs.length) (fun a _ => (intOf (a.tmps.getD 8 undef)).toNat) (fun j a W => Kn Try.f52.ntmps [(0, .slice ga xs.length cap), (1, (.func (.func 39) #[] #[.pointer (some ⟨g, 0, none⟩)])), (7, .int .i64 (xs.length : Int)), (8, .int .i64 (j : Int))] a ∧ Fr (fun _ => False) w W ∧ Bx W g #[.string nm, .bool vd, .int .i64 pr, .int .i64 R, .slice oa on oc, .slice ba bs.length bc] 25 ∧ IntsAt W ga xs ∧ ∀ k, k < j → (isOut bs.length) (xs.getD k 0) = false) (fun j a W h => O.slotv h.1 rfl) 0 (Nat.zero_le _) (fun a k => ⟨(by (repeat (refine Kn.cons k rfl ?_)); exact k.base), ff, hbx, hI, fun k hk => absurd hk (by omega)⟩) ?_
  rintro j a wl hj ⟨k, ff, hbx, hI, hle⟩
  refine TW.app (s := [(0, .slice ga xs.length cap), (1, (.func (.func 39) #[] #[.pointer (some ⟨g, 0, none⟩)])), (7, .int .i64 (xs.length : Int)), (8, .int .i64 (j : Int))]) ?_ k
  refine TW.sreg ?_
  refine WL.op rfl rfl rfl (Go.Proofs.Ytobibplilbchfaa.W.quiet_bin rfl rfl rfl (fun W => qb_lss_int W _ _ _ _)) ?_
  refine O.split (fun hbj => ?_) (fun hbj => ?_)
  · skip
    have hj2 : j < xs.length := by have := of_decide_eq_true hbj; omega
    obtain ⟨gi, oi, rfl, hci⟩ := hI j hj2
    refine WL.nil ?_
    refine TW.seq ?_
    refine TW.cond rfl (fun _ => ?_) (fun hb => by cases hb)
    refine TW.skip ?_
    refine TW.seq ?_
    refine TW.block ?_
    refine TW.sreg ?_
    refine WL.op rfl rfl rfl (Go.Proofs.Ytobibplilbchfaa.W.quiet_move rfl rfl) ?_
    refine WL.op rfl rfl rfl (Go.Proofs.Ytobibplilbchfaa.W.quiet_assign rfl rfl) ?_
    refine WL.nil ?_
    refine TW.sreg ?_
    refine WL.op rfl rfl rfl (Go.Proofs.Ytobibplilbchfaa.W.quiet_move rfl rfl) ?_
    refine WL.op rfl rfl rfl (Go.Proofs.Ytobibplilbchfaa.W.quiet_move rfl rfl) ?_
    refine WL.op rfl rfl rfl (Go.Proofs.Ytobibplilbchfaa.W.quiet_move rfl rfl) ?_
    refine O.ixa rfl rfl rfl rfl rfl rfl (qi_s_int _ _ _ _ _ _ (by omega)) ?_
    refine WL.ld rfl rfl rfl rfl rfl (ql_int _ _ _ hci) ?_
    refine O.callv (hr := t_isout nm vd pr R oa on oc ba bs bc g (xs.getD j 0) _ hbx) rfl rfl rfl rfl rfl rfl (fun W => qk_flow_outs_1 W _) ?_
    rintro e w1 ⟨rfl, f1⟩
    refine ⟨_, rfl, ?_⟩
    replace hbx := hbx.fr f1 id
    replace hI := hI.fr f1
    replace ff := ff.trans f1
    refine O.split (fun hb2 => ?_) (fun hb2 => ?_)
    · skip
      refine WL.nil ?_
      refine TW.cond rfl (fun _ => ?_) (fun hb => by cases hb)
      refine TW.sreg ?_
      refine WL.op rfl rfl rfl (Go.Proofs.Ytobibplilbchfaa.W.quiet_move rfl rfl) ?_
      refine WL.op rfl rfl rfl (Go.Proofs.Ytobibplilbchfaa.W.quiet_assign rfl rfl) ?_
      refine WL.nil ?_
      refine TW.rt ?_
      refine Xw.rblk ?_
      refine Xw.thn (by simp) ?_
      refine Xw.thn (by simp) ?_
      refine Xw.rblk ?_
      refine Xw.thn (by simp) ?_
      refine bodyw_ret rfl rfl ?_
      exact ⟨_, rfl, .inr ⟨j, hj2, rfl, hb2, hle⟩, ff⟩
    · skip
      refine WL.nil ?_
      refine TW.cond rfl (fun hb => by cases hb) (fun _ => ?_)
      refine TW.skipx ?_
      refine Xw.nblk ?_
      refine Xw.nrm ?_
      refine TW.reg ?_
      refine WL.op rfl rfl rfl (Go.Proofs.Ytobibplilbchfaa.W.quiet_bin rfl rfl rfl (fun W => qb_add_int W _ _ _ _ (by omega) (by omega))) ?_
      refine WL.op rfl rfl rfl (Go.Proofs.Ytobibplilbchfaa.W.quiet_move rfl rfl) ?_
      refine WL.end ?_
      refine Xw.any (fun a k => ?_)
      refine ⟨j + 1, by omega, by omega, (by (repeat (refine Kn.cons k rfl ?_)); exact k.base), ff, hbx, hI, fun q hq => ?_⟩
      by_cases e : q = j
      · subst e; exact hb2
      · exact hle q (by omega)
  · skip
    refine WL.nil ?_
    refine TW.seq ?_
    refine TW.cond rfl (fun hb => by cases hb) (fun _ => ?_)
    refine TW.exit ?_
    refine Xw.thn (by simp) ?_
    refine Xw.thn (by simp) ?_
    refine Xw.hit ?_
    refine Xw.nrm ?_
    refine TW.sreg ?_
    refine WL.op rfl rfl rfl (Go.Proofs.Ytobibplilbchfaa.W.quiet_assign rfl rfl) ?_
    refine WL.nil ?_
    refine TW.rt ?_
    refine bodyw_ret rfl rfl ?_
    have hje : j = xs.length := by have := of_decide_eq_false hbj; omega
    subst hje
    exact ⟨-1, rfl, .inl ⟨rfl, hle⟩, ff⟩
set_option maxRecDepth 100000 in
theorem t_delo (nm : ByteArray) (vd : Bool) (pr R : Int) (oa : Option Addr) (on oc : Nat) (ba : Option Addr) (bs : List Bk) (bc : Nat) (g B : Nat) (v0 : Value) (xs : List Int) (hl : xs.length ≤ 1000000) (w : World) (hbx : Bx w g #[.string nm, .bool vd, .int .i64 pr, .int .i64 R, .slice oa on oc, .slice ba bs.length bc] 25) (hI : Ints B w v0 xs) : Calls Try.prog 37 #[v0, .func (.func 39) #[] #[.pointer (some ⟨g, 0, none⟩)]] w fun e w' => ∃ v, e = .returned v ∧ Ints B w' v (xs.filter fun x => !(isOut bs.length) x) ∧ Fr (fun q => v0.ownBlock = some q) w w' := by
  obtain ⟨ga, cap, rfl, hIa⟩ := hI.at
  refine calls_tw Try.func37 rfl rfl (Nat.le_of_ble_eq_true rfl) ?_
  refine TW.sreg ?_
  refine WL.op rfl rfl rfl (Go.Proofs.Ytobibplilbchfaa.W.quiet_assign rfl rfl) ?_
  refine WL.nil ?_
  refine TW.sreg ?_
  refine WL.op rfl rfl rfl (Go.Proofs.Ytobibplilbchfaa.W.quiet_move rfl rfl) ?_
  refine WL.op rfl rfl rfl (Go.Proofs.Ytobibplilbchfaa.W.quiet_move rfl rfl) ?_
  refine WL.call (hr := t_idxo nm vd pr R oa on oc ba bs bc g ga cap xs hl w hbx hIa) rfl rfl rfl rfl rfl (fun W => qk_slices_IndexFunc_int_int W _) ?_
  rintro e w0 ⟨r, rfl, hr, f0⟩
  refine ⟨_, rfl, ?_⟩
  replace hbx := hbx.fr f0 id
  replace hI := hI.fr f0 (fun _ _ => id)
  rcases hr with ⟨rfl, hr2⟩ | ⟨k0, hk0, rfl, hk2, hk3⟩
  · skip
    refine WL.op rfl rfl rfl (Go.Proofs.Ytobibplilbchfaa.W.quiet_assign rfl rfl) ?_
    refine WL.nil ?_
    refine TW.seq ?_
    refine TW.sreg ?_
    refine WL.op rfl rfl rfl (Go.Proofs.Ytobibplilbchfaa.W.quiet_move rfl rfl) ?_
    refine WL.op rfl rfl rfl (Go.Proofs.Ytobibplilbchfaa.W.quiet_bin rfl rfl rfl (fun W => qb_eql_int W _ _ _ _)) ?_
    refine O.split (fun hb => ?_) (fun hb => by exfalso; revert hb; first | (simp; done) | (simp; omega))
    refine WL.nil ?_
    refine TW.cond rfl (fun _ => ?_) (fun hb => by cases hb)
    refine TW.sreg ?_
    refine WL.op rfl rfl rfl (Go.Proofs.Ytobibplilbchfaa.W.quiet_move rfl rfl) ?_
    refine WL.op rfl rfl rfl (Go.Proofs.Ytobibplilbchfaa.W.quiet_assign rfl rfl) ?_
    refine WL.nil ?_
    refine TW.rt ?_
    refine Xw.thn (by simp) ?_
    refine bodyw_ret rfl rfl ?_
    refine ⟨_, rfl, ?_, f0.mono (fun _ _ e => e.elim)⟩
    rw [← keepK_len, keepK_all _ (Nat.le_refl _) hr2, List.take_length]
    exact hI
  · obtain ⟨gr, cap2, he, ho⟩ := Row.own hI (by omega)
    injection he with he1 he2 he3
    subst he1 he3
    have fd : Fr (fun q => q = gr) w w0 := f0.mono (fun _ _ e => e.elim)
    have hgg : g ≠ gr := fun e => Row.apart_typ hI hbx (by decide) (by rw [e]; rfl)
    refine WL.op rfl rfl rfl (Go.Proofs.Ytobibplilbchfaa.W.quiet_assign rfl rfl) ?_
    refine WL.nil ?_
    refine TW.seq ?_
    refine TW.sreg ?_
    refine WL.op rfl rfl rfl (Go.Proofs.Ytobibplilbchfaa.W.quiet_move rfl rfl) ?_
    refine WL.op rfl rfl rfl (Go.Proofs.Ytobibplilbchfaa.W.quiet_bin rfl rfl rfl (fun W => qb_eql_int W _ _ _ _)) ?_
    refine O.split (fun hb => by have := eq_of_beq hb; omega) (fun hb => ?_)
    refine WL.nil ?_
    refine TW.cond rfl (fun hb => by cases hb) (fun _ => ?_)
    refine TW.skip ?_
    refine TW.seq ?_
    refine TW.sreg ?_
    refine WL.op rfl rfl rfl (Go.Proofs.Ytobibplilbchfaa.W.quiet_move rfl rfl) ?_
    refine WL.op rfl rfl rfl (Go.Proofs.Ytobibplilbchfaa.W.quiet_bin rfl rfl rfl (fun W => qb_add_int W _ _ _ _ (by omega) (by omega))) ?_
    refine WL.op rfl rfl rfl (Go.Proofs.Ytobibplilbchfaa.W.quiet_assign rfl rfl) ?_
    refine WL.nil ?_
    refine TW.block ?_
    refine O.loopG (n := xs.length) (fun a _ => (intOf (a.tmps.getD 6 undef)).toNat) (fun j a W => ∃ (i : Nat) (ys : List Int), Kn Try.f37.ntmps [(0, .slice (some ⟨gr, 0, none⟩) xs.length cap), (1, (.func (.func 39) #[] #[.pointer (some ⟨g, 0, none⟩)])), (5, .int .i64 (i : Int)), (6, .int .i64 (j : Int))] a ∧ Fr (fun q => q = gr) w W ∧ Bx W g #[.string nm, .bool vd, .int .i64 pr, .int .i64 R, .slice oa on oc, .slice ba bs.length bc] 25 ∧ Ints B W (.slice (some ⟨gr, 0, none⟩) xs.length cap) ys ∧ ys.length = xs.length ∧ i < j ∧ j ≤ xs.length ∧ i = (keepK (isOut bs.length) xs j).length ∧ ys.take i = keepK (isOut bs.length) xs j ∧ ∀ m, j ≤ m → m < xs.length → ys.getD m 0 = xs.getD m 0) (fun j a W h => by obtain ⟨_, _, h⟩ := h; exact O.slotv h.1 rfl) (k0 + 1) (by omega) (fun a k => ⟨k0, xs, (by (repeat (refine Kn.cons k rfl ?_)); exact k.base), fd, hbx, hI, rfl, by omega, by omega, by rw [keepK_no hk0 hk2, keepK_all k0 (by omega) hk3, List.length_take]; omega, by rw [keepK_no hk0 hk2, keepK_all k0 (by omega) hk3], fun _ _ _ => rfl⟩) ?_
    rintro j a wl hj ⟨i, ys, k, fd, hbx, hI, hyl, hij, hjl, hil, hyt, hyr⟩
    refine TW.app (s := [(0, .slice (some ⟨gr, 0, none⟩) xs.length cap), (1, (.func (.func 39) #[] #[.pointer (some ⟨g, 0, none⟩)])), (5, .int .i64 (i : Int)), (6, .int .i64 (j : Int))]) ?_ k
    refine TW.seq ?_
    refine TW.sreg ?_
    refine WL.op rfl rfl rfl (Go.Proofs.Ytobibplilbchfaa.W.quiet_move rfl rfl) ?_
    refine WL.op rfl rfl rfl (Go.Proofs.Ytobibplilbchfaa.W.quiet_move rfl rfl) ?_
    refine O.len rfl rfl rfl rfl rfl (qn_s_int _ _ _ _) ?_
    refine WL.op rfl rfl rfl (Go.Proofs.Ytobibplilbchfaa.W.quiet_bin rfl rfl rfl (fun W => qb_lss_int W _ _ _ _)) ?_
    refine O.split (fun hbj => ?_) (fun hbj => ?_)
    · skip
      have hj2 : j < xs.length := by have := of_decide_eq_true hbj; omega
      have hyj := hyr j (Nat.le_refl _) hj2
      refine WL.nil ?_
      refine TW.cond rfl (fun _ => ?_) (fun hb => by cases hb)
      refine TW.skip ?_
      refine TW.seq ?_
      refine TW.block ?_
      refine TW.sreg ?_
      refine WL.op rfl rfl rfl (Go.Proofs.Ytobibplilbchfaa.W.quiet_move rfl rfl) ?_
      refine WL.op rfl rfl rfl (Go.Proofs.Ytobibplilbchfaa.W.quiet_move rfl rfl) ?_
      refine O.ixa rfl rfl rfl rfl rfl rfl (qi_s_int _ _ _ _ _ _ (by omega)) ?_
      refine WL.ld rfl rfl rfl rfl rfl (ql_int _ _ _ (hI.cell (k := j) (by omega))) ?_
      rw [hyj]
      refine WL.op rfl rfl rfl (Go.Proofs.Ytobibplilbchfaa.W.quiet_assign rfl rfl) ?_
      refine WL.nil ?_
      refine TW.sreg ?_
      refine WL.op rfl rfl rfl (Go.Proofs.Ytobibplilbchfaa.W.quiet_move rfl rfl) ?_
      refine WL.op rfl rfl rfl (Go.Proofs.Ytobibplilbchfaa.W.quiet_move rfl rfl) ?_
      refine O.callv (hr := t_isout nm vd pr R oa on oc ba bs bc g (xs.getD j 0) _ hbx) rfl rfl rfl rfl rfl rfl (fun W => qk_flow_outs_1 W _) ?_
      rintro e w1 ⟨rfl, f1⟩
      refine ⟨_, rfl, ?_⟩
      replace hbx := hbx.fr f1 id
      replace hI := hI.fr f1 (fun _ _ => id)
      replace fd := fd.trans' f1 (fun _ _ e => e.elim)
      cases hb2 : (isOut bs.length) (xs.getD j 0)
      · skip
        refine WL.op rfl rfl rfl (Go.Proofs.Ytobibplilbchfaa.W.quiet_not rfl rfl) ?_
        refine O.split (fun hb => ?_) (fun hb => by exfalso; revert hb; first | (simp; done) | (simp; omega))
        refine WL.nil ?_
        refine TW.cond rfl (fun _ => ?_) (fun hb => by cases hb)
        refine TW.sreg ?_
        refine WL.op rfl rfl rfl (Go.Proofs.Ytobibplilbchfaa.W.quiet_move rfl rfl) ?_
        refine WL.op rfl rfl rfl (Go.Proofs.Ytobibplilbchfaa.W.quiet_move rfl rfl) ?_
        refine WL.op rfl rfl rfl (Go.Proofs.Ytobibplilbchfaa.W.quiet_move rfl rfl) ?_
        refine O.ixa rfl rfl rfl rfl rfl rfl (qi_s_int _ _ _ _ _ _ (by omega)) ?_
        refine O.storeR rfl rfl rfl rfl rfl (hI.store (k := i) (by omega) (xs.getD j 0)) ?_
        rintro w2 ⟨hI2, hFs⟩
        replace hbx := hbx.fr hFs (fun e => hgg e)
        replace fd := fd.trans' hFs (fun _ _ e => e)
        have hI := hI2
        refine WL.nil ?_
        refine TW.reg ?_
        refine WL.op rfl rfl rfl (Go.Proofs.Ytobibplilbchfaa.W.quiet_move rfl rfl) ?_
        refine WL.op rfl rfl rfl (Go.Proofs.Ytobibplilbchfaa.W.quiet_bin rfl rfl rfl (fun W => qb_add_int W _ _ _ _ (by omega) (by omega))) ?_
        refine WL.op rfl rfl rfl (Go.Proofs.Ytobibplilbchfaa.W.quiet_assign rfl rfl) ?_
        refine WL.end ?_
        refine Xw.nblk ?_
        refine Xw.nrm ?_
        refine TW.reg ?_
        refine WL.op rfl rfl rfl (Go.Proofs.Ytobibplilbchfaa.W.quiet_move rfl rfl) ?_
        refine WL.op rfl rfl rfl (Go.Proofs.Ytobibplilbchfaa.W.quiet_bin rfl rfl rfl (fun W => qb_add_int W _ _ _ _ (by omega) (by omega))) ?_
        refine WL.op rfl rfl rfl (Go.Proofs.Ytobibplilbchfaa.W.quiet_assign rfl rfl) ?_
        refine WL.end ?_
        refine Xw.any (fun a k => ?_)
        refine ⟨j + 1, by omega, by omega, i + 1, ys.set i (xs.getD j 0), (by (repeat (refine Kn.cons k rfl ?_)); exact k.base), fd, hbx, hI, by rw [List.length_set]; exact hyl, by omega, by omega, ?_, ?_, fun m h1 h2 => ?_⟩
        · rw [keepK_yes hj2 hb2, List.length_append, ← hil]; rfl
        · rw [keepK_yes hj2 hb2]; exact take_set_snoc (by omega) hyt
        · rw [List.getD_eq_getElem?_getD, List.getElem?_set_ne (by omega), ← List.getD_eq_getElem?_getD]; exact hyr m (by omega) h2
      · skip
        refine WL.op rfl rfl rfl (Go.Proofs.Ytobibplilbchfaa.W.quiet_not rfl rfl) ?_
        refine O.split (fun hb => by exfalso; revert hb; first | (simp; done) | (simp; omega)) (fun hb => ?_)
        refine WL.nil ?_
        refine TW.cond rfl (fun hb => by cases hb) (fun _ => ?_)
        refine TW.skipx ?_
        refine Xw.nblk ?_
        refine Xw.nrm ?_
        refine TW.reg ?_
        refine WL.op rfl rfl rfl (Go.Proofs.Ytobibplilbchfaa.W.quiet_move rfl rfl) ?_
        refine WL.op rfl rfl rfl (Go.Proofs.Ytobibplilbchfaa.W.quiet_bin rfl rfl rfl (fun W => qb_add_int W _ _ _ _ (by omega) (by omega))) ?_
        refine WL.op rfl rfl rfl (Go.Proofs.Ytobibplilbchfaa.W.quiet_assign rfl rfl) ?_
        refine WL.end ?_
        refine Xw.any (fun a k => ?_)
        refine ⟨j + 1, by omega, by omega, i, ys, (by (repeat (refine Kn.cons k rfl ?_)); exact k.base), fd, hbx, hI, hyl, by omega, by omega, ?_, ?_, fun m h1 h2 => hyr m (by omega) h2⟩
        · rw [keepK_no hj2 hb2]; exact hil
        · rw [keepK_no hj2 hb2]; exact hyt
    · skip
      have hje : j = xs.length := by have := of_decide_eq_false hbj; omega
      subst hje
      obtain ⟨_, hcap, _⟩ := Row.capLe hI
      rw [keepK_len] at hil hyt
      refine WL.nil ?_
      refine TW.cond rfl (fun hb => by cases hb) (fun _ => ?_)
      refine TW.exit ?_
      refine Xw.thn (by simp) ?_
      refine Xw.thn (by simp) ?_
      refine Xw.hit ?_
      refine Xw.nrm ?_
      refine TW.sreg ?_
      refine WL.op rfl rfl rfl (Go.Proofs.Ytobibplilbchfaa.W.quiet_move rfl rfl) ?_
      refine WL.op rfl rfl rfl (Go.Proofs.Ytobibplilbchfaa.W.quiet_move rfl rfl) ?_
      refine O.sl1 rfl rfl rfl rfl rfl rfl (sl_from _ _ _ _ _ i (by omega)) ?_
      refine O.clr rfl rfl rfl rfl (hI.clear _ i (by omega)) ?_
      rintro w5 ⟨hI5, hF5⟩
      -- world w5
      replace fd := fd.trans' hF5 (fun _ _ e => e)
      rw [hyt] at hI5
      refine WL.nil ?_
      refine TW.sreg ?_
      refine WL.op rfl rfl rfl (Go.Proofs.Ytobibplilbchfaa.W.quiet_move rfl rfl) ?_
      refine WL.op rfl rfl rfl (Go.Proofs.Ytobibplilbchfaa.W.quiet_move rfl rfl) ?_
      refine O.sl2 rfl rfl rfl rfl rfl rfl (sl_to _ _ _ _ i (by omega) (fun e => by cases e)) ?_
      refine WL.op rfl rfl rfl (Go.Proofs.Ytobibplilbchfaa.W.quiet_assign rfl rfl) ?_
      refine WL.nil ?_
      refine TW.rt ?_
      refine bodyw_ret rfl rfl ?_
      rw [hil]
      exact ⟨_, rfl, by rw [← hil]; exact hI5, fd.mono (fun q _ e => by rw [e]; rfl)⟩
end Go.Proofs.Ytobibplilbchfaa
