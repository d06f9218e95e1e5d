/-
  Lex (layer 7): what a scanner's function reads.
-/
import Derived.Test.YtoffbjfgledjfaaDoorLyH
import Derived.Test.YtoffbjfgledjfaaDoorLexL
namespace Go.Proofs.YtoffbjfgledjfaaDoor
open Go.RowKit
set_option linter.unusedVariables false
set_option linter.unusedSimpArgs false
set_option linter.unnecessarySimpa false
theorem qk_lex_blank (w : World) (vs : Array Value) : (callFunc 16 vs).run Tryd.prog w = .ok (.enter 16 vs) w := by simp [go_sem]
theorem qb_neq_api_Errno (w : World) (x y : Operand) (m n : Int) : ((do eqGuard .neq 26 x y (.int .i64 m) (.int .i64 n); binOp .neq 26 (.int .i64 m) (.int .i64 n) : Sem Value)).run Tryd.prog w = .ok (.bool (m != n)) w := by simp [go_sem]
theorem qd_api_Token_3 (w : World) (p3_m0 : Int) (p3_m1 : Int) : (Instr.build 32 #[(3, .agg #[.int .i64 p3_m0, .int .i64 p3_m1])]).run Tryd.prog w = .ok (.agg #[.int .i64 0, .string ⟨#[]⟩, .int .u32 0, .int .i64 p3_m0, .int .i64 p3_m1]) w := by simp [go_sem]
theorem ql_func_int (w : World) (v : Value) (d : Addr) (h : w.cell? d = some v) : (Instr.loadAt 51 (.pointer (some d))).run Tryd.prog w = .ok v w := by simp [go_sem, h]
theorem qk_lex_scanner_1 (w : World) (vs : Array Value) : (callFunc 13 vs).run Tryd.prog w = .ok (.enter 13 vs) w := by simp [go_sem]
theorem qd_api_Token_0_3 (w : World) (p0_m0 : Int) (p3_m0 : Int) (p3_m1 : Int) : (Instr.build 32 #[(0, .int .i64 p0_m0), (3, .agg #[.int .i64 p3_m0, .int .i64 p3_m1])]).run Tryd.prog w = .ok (.agg #[.int .i64 p0_m0, .string ⟨#[]⟩, .int .u32 0, .int .i64 p3_m0, .int .i64 p3_m1]) w := by simp [go_sem]
theorem qk_lex_token (w : World) (vs : Array Value) : (callFunc 17 vs).run Tryd.prog w = .ok (.enter 17 vs) w := by simp [go_sem]
theorem qa_api_Token_3 (w : World) (b o : Nat) : (Instr.fieldAt 32 (.pointer (some ⟨b, o, none⟩)) 3).run Tryd.prog w = .ok (.pointer (some ⟨b, o + 3, none⟩)) w := by simp [go_sem]
theorem qa_api_Token_1 (w : World) (b o : Nat) : (Instr.fieldAt 32 (.pointer (some ⟨b, o, none⟩)) 1).run Tryd.prog w = .ok (.pointer (some ⟨b, o + 1, none⟩)) w := by simp [go_sem]
theorem qlB_api_Token (w : World) (g : Nat) (um0 : Int) (up1 : ByteArray) (um2 : Int) (um3 : Int) (um4 : Int) (tt : TypeId) (h : Bx w g #[.int .i64 um0, .string up1, .int .u32 um2, .int .i64 um3, .int .i64 um4] tt) : (Instr.loadAt 32 (.pointer (some ⟨g, 0, none⟩))).run Tryd.prog w = .ok (.agg #[.int .i64 um0, .string up1, .int .u32 um2, .int .i64 um3, .int .i64 um4]) w := by
  have c0 := h.cell (j := 0) rfl
  have c1 := h.cell (j := 1) rfl
  have c2 := h.cell (j := 2) rfl
  have c3 := h.cell (j := 3) rfl
  have c4 := h.cell (j := 4) rfl
  simp [go_sem, c0, c1, c2, c3, c4]
theorem tok_err {s : List UInt8} {e : Int} (h : tokF s = .error e) : e = 2 ∨ e = 3 ∨ e = 7 := by
  unfold tokF at h
  split at h
  · unfold nameF at h
    split at h
    · injection h with h; exact .inl h.symm
    · cases h
  · split at h
    · unfold numF at h
      split at h
      · injection h with h; exact .inr (.inl h.symm)
      · split at h
        · injection h with h; exact .inr (.inr h.symm)
        · cases h
    · split at h
      · unfold chrF at h
        split at h
        · injection h with h; exact .inr (.inl h.symm)
        · split at h
          · injection h with h; exact .inr (.inl h.symm)
          · cases h
      · unfold markF at h
        split at h
        · injection h with h; exact .inr (.inl h.symm)
        · cases h
/-- What a call of a scanner's function reads: nothing more, or a token; and what is left. -/
def nxF : Nat → List UInt8 → Int × Int → Except (Int × Int × Int) (Option (Tk × Int × Int) × List UInt8 × Int × Int)
  | 0, _, p => .error (16, p)
  | f + 1, s, p =>
    match blankF s with
    | none => .error (3, p)
    | some (n + 1) => nxF f (s.drop (n + 1)) (afterF p (s.take (n + 1)))
    | some 0 =>
      if s = [] then .ok (none, s, p)
      else match tokF s with
        | .error e => .error (e, p)
        | .ok t => .ok (some (t, p), s.drop t.t.length, afterF p t.t)
theorem nx_none {f : Nat} {s : List UInt8} {p : Int × Int} (h : blankF s = none) : nxF (f + 1) s p = .error (3, p) := by
  conv => lhs; unfold nxF
  rw [h]
theorem nx_more {f n : Nat} {s : List UInt8} {p : Int × Int} (h : blankF s = some (n + 1)) : nxF (f + 1) s p = nxF f (s.drop (n + 1)) (afterF p (s.take (n + 1))) := by
  conv => lhs; unfold nxF
  rw [h]
theorem nx_end {f : Nat} {p : Int × Int} : nxF (f + 1) [] p = .ok (none, [], p) := by
  conv => lhs; unfold nxF
  rw [show blankF [] = some 0 from rfl]
  simp
theorem nx_err {f : Nat} {s : List UInt8} {p : Int × Int} {e : Int} (h : blankF s = some 0) (hs : s ≠ []) (ht : tokF s = .error e) : nxF (f + 1) s p = .error (e, p) := by
  conv => lhs; unfold nxF
  rw [h]
  simp only []
  rw [if_neg hs, ht]
theorem nx_tok {f : Nat} {s : List UInt8} {p : Int × Int} {t : Tk} (h : blankF s = some 0) (hs : s ≠ []) (ht : tokF s = .ok t) : nxF (f + 1) s p = .ok (some (t, p), s.drop t.t.length, afterF p t.t) := by
  conv => lhs; unfold nxF
  rw [h]
  simp only []
  rw [if_neg hs, ht]
def TkV (k : Int) (t : List UInt8) (n : Int) (p : Int × Int) : Value := .agg #[.int .i64 k, bts t, .int .u32 n, .int .i64 p.1, .int .i64 p.2]
def NxP (x : Except (Int × Int × Int) (Option (Tk × Int × Int) × List UInt8 × Int × Int)) (r p : Nat) (w : World) (e : Ending) (w' : World) : Prop :=
  Fr (fun q => q = r ∨ q = p) w w' ∧ match x with
  | .error (er, a) => e = .returned (.tuple #[TkV 0 [] 0 a, .int .i64 er])
  | .ok (none, u, a) => e = .returned (.tuple #[TkV 0 [] 0 a, .int .i64 0])
  | .ok (some (t, b), u, a) => e = .returned (.tuple #[TkV t.k t.t t.n b, .int .i64 0]) ∧ Bx w' r #[bts u] 9 ∧ Bx w' p #[.int .i64 a.1, .int .i64 a.2] 25
theorem Bx.pos3 {w : World} {g : Nat} {z0 z1 z2 z3 z4 : Value} {T : TypeId} (h : Bx w g #[z0, z1, z2, z3, z4] T) (l c : Int) : ∃ w', (Instr.storeAt 25 (.pointer (some ⟨g, 3, none⟩)) (.agg #[.int .i64 l, .int .i64 c])).run Tryd.prog w = .ok () w' ∧ (Fr (fun q => q = g) w w' ∧ Bx w' g #[z0, z1, z2, .int .i64 l, .int .i64 c] T) := by
  have c3 := h.cell (j := 3) rfl
  have c4 := h.cell (j := 4) rfl
  have e3 := h.free 3
  have e4 := h.free 4
  have h2 := h.set 3 (.int .i64 l)
  have c4' := h2.cell (j := 4) rfl
  have e4' := h2.free 4
  refine ⟨(w.setCell ⟨g, 3, none⟩ (.int .i64 l)).setCell ⟨g, 4, none⟩ (.int .i64 c), ?_, ?_, h2.set 4 _⟩
  · simp [go_sem, c3, c4, e3, e4, c4', e4']
  · have k1 : Fr (fun q => q = g) w (w.setCell ⟨g, 3, none⟩ (.int .i64 l)) := Fr.setCell _ _ _ rfl
    have k2 : Fr (fun q => q = g) (w.setCell ⟨g, 3, none⟩ (.int .i64 l)) ((w.setCell ⟨g, 3, none⟩ (.int .i64 l)).setCell ⟨g, 4, none⟩ (.int .i64 c)) := Fr.setCell _ _ _ rfl
    exact k1.trans k2
set_option maxRecDepth 100000 in
set_option maxHeartbeats 1000000 in
theorem t_next (r p d : Nat) (s : List UInt8) (l c : Int) (hs : s.length ≤ 1000000) (hl0 : 0 ≤ l) (hl1 : l ≤ 10000000) (hc0 : 0 ≤ c) (hc1 : c ≤ 10000000) (hrp : r ≠ p) (hrd : r ≠ d) (hpd : p ≠ d) (w : World) (hr : Bx w r #[bts s] 9) (hp : Bx w p #[.int .i64 l, .int .i64 c] 25) (hd : Bx w d #[advV r p] 51) (hml : MlW w) (her : ErW w) (hMn : ¬(0 = r ∨ 0 = p)) (hSn : ¬(1 = r ∨ 1 = p)) (hRn : ¬(2 = r ∨ 2 = p)) : Calls Tryd.prog 15 #[.pointer (some ⟨r, 0, none⟩), .pointer (some ⟨p, 0, none⟩), .pointer (some ⟨d, 0, none⟩)] w (NxP (nxF (s.length + 1) s (l, c)) r p w) := by
  have ff := Fr.refl (fun q => q = r ∨ q = p) w
  have lr := hr.lt
  have lp := hp.lt
  have ld := hd.lt
  refine calls_tw Tryd.func15 rfl rfl (Nat.le_of_ble_eq_true rfl) ?_
  refine TW.sreg ?_
  have lt1_hr := hr.lt
  have lt1_hp := hp.lt
  have lt1_hd := hd.lt
  refine O.allocR rfl rfl rfl rfl (qzR_api_Token w) ?_
  rintro wa1 ⟨fa1, bx1⟩
  replace hr := hr.fr fa1 id
  replace hp := hp.fr fa1 id
  replace hd := hd.fr fa1 id
  replace ff := ff.trans' fa1 (fun q hq e => e.elim)
  refine WL.op rfl rfl rfl (Go.Proofs.YtoffbjfgledjfaaDoor.W.quiet_assign rfl rfl) ?_
  refine WL.nil ?_
  refine TW.seq ?_
  refine TW.block ?_
  refine O.loopX (n := s.length) (fun j a W => ∃ (u : List UInt8) (l2 c2 : Int) (f : Nat), Kn Tryd.f15.ntmps [(0, .pointer (some ⟨r, 0, none⟩)), (1, .pointer (some ⟨p, 0, none⟩)), (2, .pointer (some ⟨d, 0, none⟩)), (3, .pointer (some ⟨w.heap.size, 0, none⟩))] a ∧ Fr (fun q => q = r ∨ q = p) w W ∧ Bx W r #[bts u] 9 ∧ Bx W p #[.int .i64 l2, .int .i64 c2] 25 ∧ Bx W d #[advV r p] 51 ∧ Bx W w.heap.size #[.int .i64 0, bts [], .int .u32 0, .int .i64 0, .int .i64 0] 32 ∧ j + u.length = s.length ∧ u.length < f ∧ nxF (s.length + 1) s (l, c) = nxF f u (l2, c2) ∧ 0 ≤ l2 ∧ l2 ≤ l + j ∧ 0 ≤ c2 ∧ c2 ≤ c + 2 * j) 0 (Nat.zero_le _) (fun a k => ⟨s, l, c, s.length + 1, (by (repeat (refine Kn.cons k rfl ?_)); exact k.base), ff, hr, hp, hd, bx1, by omega, by omega, rfl, hl0, by omega, hc0, by omega⟩) ?_
  rintro j a wl hj ⟨u, l2, c2, f, k, ff, hr, hp, hd, bx1, hju, huf, hrel, q1, q2, q3, q4⟩
  refine TW.app (s := [(0, .pointer (some ⟨r, 0, none⟩)), (1, .pointer (some ⟨p, 0, none⟩)), (2, .pointer (some ⟨d, 0, none⟩)), (3, .pointer (some ⟨w.heap.size, 0, none⟩))]) ?_ k
  obtain ⟨f, rfl⟩ : ∃ g, f = g + 1 := ⟨f - 1, by omega⟩
  rcases hbk : blankF u with _ | n
  · skip
    refine TW.block ?_
    refine TW.sreg ?_
    refine WL.ld rfl rfl rfl rfl rfl (ql_string _ _ _ (hr.cell (j := 0) rfl)) ?_
    refine WL.call (hr := (by have z := t_blank u (by omega) wl (hml.fr ff hMn); rw [hbk] at z; exact z)) rfl rfl rfl rfl rfl (fun W => qk_lex_blank W _) ?_
    rintro e w1 ⟨rfl, f1⟩
    refine ⟨.tuple #[.int .i64 0, .int .i64 3], rfl, ?_⟩
    replace hr := hr.fr f1 id
    replace hp := hp.fr f1 id
    replace hd := hd.fr f1 id
    replace bx1 := bx1.fr f1 id
    replace ff := ff.trans' f1 (fun q hq e => e.elim)
    refine WL.op rfl rfl rfl (Go.Proofs.YtoffbjfgledjfaaDoor.W.quiet_move rfl rfl) ?_
    refine O.ext rfl rfl rfl rfl rfl rfl ?_
    refine O.ext rfl rfl rfl rfl rfl rfl ?_
    refine WL.op rfl rfl rfl (Go.Proofs.YtoffbjfgledjfaaDoor.W.quiet_assign rfl rfl) ?_
    refine WL.op rfl rfl rfl (Go.Proofs.YtoffbjfgledjfaaDoor.W.quiet_assign rfl rfl) ?_
    refine WL.nil ?_
    refine TW.seq ?_
    refine TW.sreg ?_
    refine WL.op rfl rfl rfl (Go.Proofs.YtoffbjfgledjfaaDoor.W.quiet_move rfl rfl) ?_
    refine WL.op rfl rfl rfl (Go.Proofs.YtoffbjfgledjfaaDoor.W.quiet_bin rfl rfl rfl (fun W => qb_neq_api_Errno W _ _ _ _)) ?_
    refine O.split (fun hb => ?_) (fun hb => by exfalso; revert hb; first | (simp; done) | (simp; omega))
    refine WL.nil ?_
    refine TW.cond rfl (fun _ => ?_) (fun hb => by cases hb)
    refine TW.sreg ?_
    refine WL.ld rfl rfl rfl rfl rfl (qlB_api_Pos _ _ _ _ _ hp) ?_
    refine O.bld rfl rfl rfl rfl rfl (qd_api_Token_3 _ _ _) ?_
    refine WL.op rfl rfl rfl (Go.Proofs.YtoffbjfgledjfaaDoor.W.quiet_move rfl rfl) ?_
    refine O.storeR rfl rfl rfl rfl rfl (qsA_api_Token w1 _ _ _ _ _ _ _ _ _ _ _ bx1) ?_
    rintro wa2 ⟨fa2, bx1x⟩
    replace hr := hr.fr fa2 (fun e => by omega)
    replace hp := hp.fr fa2 (fun e => by omega)
    replace hd := hd.fr fa2 (fun e => by omega)
    replace ff := ff.trans' fa2 (fun q hq e => by first | exact .inl e | exact .inr e | omega)
    clear bx1
    have bx1 := bx1x
    clear bx1x
    refine WL.op rfl rfl rfl (Go.Proofs.YtoffbjfgledjfaaDoor.W.quiet_assign rfl rfl) ?_
    refine WL.nil ?_
    refine TW.rt ?_
    refine Xw.thn (by simp) ?_
    refine Xw.rblk ?_
    refine Xw.thn (by simp) ?_
    refine Xw.rblk ?_
    refine Xw.thn (by simp) ?_
    refine O.retc2 rfl rfl rfl (run_loadVar_row _ _ _ 32 _ _ _ bx1 Tryd.underlying32 rfl (by kernel_rfl)) ?_
    refine ⟨ff, ?_⟩
    rw [hrel]
    rw [nx_none hbk]
    rfl
  · have hbl := blank_le hbk
    rcases hbn : (decide (n = 0)) with _ | _
    · have hn0 : n ≠ 0 := of_decide_eq_false hbn
      obtain ⟨n, rfl⟩ : ∃ m, n = m + 1 := ⟨n - 1, by omega⟩
      refine TW.block ?_
      refine TW.sreg ?_
      refine WL.ld rfl rfl rfl rfl rfl (ql_string _ _ _ (hr.cell (j := 0) rfl)) ?_
      refine WL.call (hr := (by have z := t_blank u (by omega) wl (hml.fr ff hMn); rw [hbk] at z; exact z)) rfl rfl rfl rfl rfl (fun W => qk_lex_blank W _) ?_
      rintro e w1 ⟨rfl, f1⟩
      refine ⟨.tuple #[.int .i64 ((n + 1 : Nat) : Int), .int .i64 0], rfl, ?_⟩
      replace hr := hr.fr f1 id
      replace hp := hp.fr f1 id
      replace hd := hd.fr f1 id
      replace bx1 := bx1.fr f1 id
      replace ff := ff.trans' f1 (fun q hq e => e.elim)
      refine WL.op rfl rfl rfl (Go.Proofs.YtoffbjfgledjfaaDoor.W.quiet_move rfl rfl) ?_
      refine O.ext rfl rfl rfl rfl rfl rfl ?_
      refine O.ext rfl rfl rfl rfl rfl rfl ?_
      refine WL.op rfl rfl rfl (Go.Proofs.YtoffbjfgledjfaaDoor.W.quiet_assign rfl rfl) ?_
      refine WL.op rfl rfl rfl (Go.Proofs.YtoffbjfgledjfaaDoor.W.quiet_assign rfl rfl) ?_
      refine WL.nil ?_
      refine TW.seq ?_
      refine TW.sreg ?_
      refine WL.op rfl rfl rfl (Go.Proofs.YtoffbjfgledjfaaDoor.W.quiet_move rfl rfl) ?_
      refine WL.op rfl rfl rfl (Go.Proofs.YtoffbjfgledjfaaDoor.W.quiet_bin rfl rfl rfl (fun W => qb_neq_api_Errno W _ _ _ _)) ?_
      refine O.split (fun hb => by exfalso; revert hb; first | (simp; done) | (simp; omega)) (fun hb => ?_)
      refine WL.nil ?_
      refine TW.cond rfl (fun hb => by cases hb) (fun _ => ?_)
      refine TW.skip ?_
      refine TW.seq ?_
      refine TW.sreg ?_
      refine WL.op rfl rfl rfl (Go.Proofs.YtoffbjfgledjfaaDoor.W.quiet_move rfl rfl) ?_
      refine WL.op rfl rfl rfl (Go.Proofs.YtoffbjfgledjfaaDoor.W.quiet_bin rfl rfl rfl (fun W => qb_eql_int W _ _ _ _)) ?_
      refine O.split (fun hb => absurd (eq_of_beq hb) (by omega)) (fun hb => ?_)
      refine WL.nil ?_
      refine TW.cond rfl (fun hb => by cases hb) (fun _ => ?_)
      refine TW.skip ?_
      refine TW.reg ?_
      refine WL.ld rfl rfl rfl rfl rfl (ql_func_int _ _ _ (hd.cell (j := 0) rfl)) ?_
      refine WL.op rfl rfl rfl (Go.Proofs.YtoffbjfgledjfaaDoor.W.quiet_move rfl rfl) ?_
      refine O.callv (hr := (t_adv r p (n + 1) u l2 c2 (by omega) (by omega) q1 (by omega) q3 (by omega) hrp _ hr hp)) rfl rfl rfl rfl rfl rfl (fun W => qk_lex_scanner_1 W _) ?_
      rintro e w9 ⟨rfl, hr9, hp9, f9⟩
      refine ⟨_, rfl, ?_⟩
      replace ff := ff.trans' f9 (fun q hq e => e)
      replace hd := hd.fr f9 (fun e => e.elim (fun z => hrd z.symm) (fun z => hpd z.symm))
      replace bx1 := bx1.fr f9 (fun e => by omega)
      clear hr hp
      have hr := hr9
      have hp := hp9
      refine WL.end ?_
      refine Xw.nblk ?_
      refine Xw.any (fun a k => ?_)
      have hal := after_in (l2, c2) q1 q3 (u.take (n + 1))
      rw [List.length_take] at hal
      simp only at hal
      obtain ⟨i1, i2, i3, i4⟩ := hal
      exact ⟨j + (n + 1), by omega, by omega, u.drop (n + 1), _, _, f, (by (repeat (refine Kn.cons k rfl ?_)); exact k.base), ff, hr, hp, hd, bx1, by rw [List.length_drop]; omega, by rw [List.length_drop]; omega, by rw [hrel, nx_more hbk], by omega, by omega, by omega, by omega⟩
    · have hn0 : n = 0 := of_decide_eq_true hbn
      subst hn0
      refine TW.block ?_
      refine TW.sreg ?_
      refine WL.ld rfl rfl rfl rfl rfl (ql_string _ _ _ (hr.cell (j := 0) rfl)) ?_
      refine WL.call (hr := (by have z := t_blank u (by omega) wl (hml.fr ff hMn); rw [hbk] at z; exact z)) rfl rfl rfl rfl rfl (fun W => qk_lex_blank W _) ?_
      rintro e w1 ⟨rfl, f1⟩
      refine ⟨.tuple #[.int .i64 ((0 : Nat) : Int), .int .i64 0], rfl, ?_⟩
      replace hr := hr.fr f1 id
      replace hp := hp.fr f1 id
      replace hd := hd.fr f1 id
      replace bx1 := bx1.fr f1 id
      replace ff := ff.trans' f1 (fun q hq e => e.elim)
      refine WL.op rfl rfl rfl (Go.Proofs.YtoffbjfgledjfaaDoor.W.quiet_move rfl rfl) ?_
      refine O.ext rfl rfl rfl rfl rfl rfl ?_
      refine O.ext rfl rfl rfl rfl rfl rfl ?_
      refine WL.op rfl rfl rfl (Go.Proofs.YtoffbjfgledjfaaDoor.W.quiet_assign rfl rfl) ?_
      refine WL.op rfl rfl rfl (Go.Proofs.YtoffbjfgledjfaaDoor.W.quiet_assign rfl rfl) ?_
      refine WL.nil ?_
      refine TW.seq ?_
      refine TW.sreg ?_
      refine WL.op rfl rfl rfl (Go.Proofs.YtoffbjfgledjfaaDoor.W.quiet_move rfl rfl) ?_
      refine WL.op rfl rfl rfl (Go.Proofs.YtoffbjfgledjfaaDoor.W.quiet_bin rfl rfl rfl (fun W => qb_neq_api_Errno W _ _ _ _)) ?_
      refine O.split (fun hb => by exfalso; revert hb; first | (simp; done) | (simp; omega)) (fun hb => ?_)
      refine WL.nil ?_
      refine TW.cond rfl (fun hb => by cases hb) (fun _ => ?_)
      refine TW.skip ?_
      refine TW.seq ?_
      refine TW.sreg ?_
      refine WL.op rfl rfl rfl (Go.Proofs.YtoffbjfgledjfaaDoor.W.quiet_move rfl rfl) ?_
      refine WL.op rfl rfl rfl (Go.Proofs.YtoffbjfgledjfaaDoor.W.quiet_bin rfl rfl rfl (fun W => qb_eql_int W _ _ _ _)) ?_
      refine O.split (fun hb => ?_) (fun hb => by exfalso; revert hb; first | (simp; done) | (simp; omega))
      refine WL.nil ?_
      refine TW.cond rfl (fun _ => ?_) (fun hb => by cases hb)
      refine TW.exit ?_
      refine Xw.thn (by simp) ?_
      refine O.miss rfl ?_
      refine Xw.thn (by simp) ?_
      refine Xw.hit ?_
      refine Xw.nrm ?_
      refine TW.seq ?_
      refine TW.sreg ?_
      refine WL.ld rfl rfl rfl rfl rfl (ql_string _ _ _ (hr.cell (j := 0) rfl)) ?_
      refine WL.op rfl rfl rfl (Go.Proofs.YtoffbjfgledjfaaDoor.W.quiet_bin rfl rfl rfl (fun W => bn_eqs W _ _ u [])) ?_
      refine O.split (fun e1 => ?_) (fun e1 => ?_)
      · skip
        refine WL.nil ?_
        refine TW.cond rfl (fun _ => ?_) (fun hb => by cases hb)
        refine TW.sreg ?_
        refine WL.ld rfl rfl rfl rfl rfl (qlB_api_Pos _ _ _ _ _ hp) ?_
        refine O.bld rfl rfl rfl rfl rfl (qd_api_Token_0_3 _ _ _ _) ?_
        refine O.storeR rfl rfl rfl rfl rfl (qsA_api_Token w1 _ _ _ _ _ _ _ _ _ _ _ bx1) ?_
        rintro wa3 ⟨fa3, bx1x⟩
        replace hr := hr.fr fa3 (fun e => by omega)
        replace hp := hp.fr fa3 (fun e => by omega)
        replace hd := hd.fr fa3 (fun e => by omega)
        replace ff := ff.trans' fa3 (fun q hq e => by first | exact .inl e | exact .inr e | omega)
        clear bx1
        have bx1 := bx1x
        clear bx1x
        refine WL.op rfl rfl rfl (Go.Proofs.YtoffbjfgledjfaaDoor.W.quiet_assign rfl rfl) ?_
        refine WL.nil ?_
        refine TW.rt ?_
        refine Xw.thn (by simp) ?_
        refine O.retc2 rfl rfl rfl (run_loadVar_row _ _ _ 32 _ _ _ bx1 Tryd.underlying32 rfl (by kernel_rfl)) ?_
        have hu := of_decide_eq_true e1
        subst hu
        refine ⟨ff, ?_⟩
        rw [hrel, nx_end]
        rfl
      · skip
        have hne : u ≠ [] := of_decide_eq_false e1
        have hu0 : 0 < u.length := by cases u with | nil => exact absurd rfl hne | cons a b => simp
        refine WL.nil ?_
        cases ht : tokF u
        · rename_i er
          refine TW.cond rfl (fun hb => by cases hb) (fun _ => ?_)
          refine TW.skip ?_
          refine TW.sreg ?_
          refine WL.ld rfl rfl rfl rfl rfl (ql_string _ _ _ (hr.cell (j := 0) rfl)) ?_
          refine WL.call (hr := (by have z := t_token u hu0 (by omega) w1 (her.fr ff hSn hRn); rw [ht] at z; exact z)) rfl rfl rfl rfl rfl (fun W => qk_lex_token W _) ?_
          rintro e w2 ⟨rfl, f2⟩
          refine ⟨.tuple #[.agg #[.int .i64 0, bts [], .int .u32 0, .int .i64 0, .int .i64 0], .int .i64 er], rfl, ?_⟩
          replace hr := hr.fr f2 id
          replace hp := hp.fr f2 id
          replace hd := hd.fr f2 id
          replace bx1 := bx1.fr f2 id
          replace ff := ff.trans' f2 (fun q hq e => e.elim)
          refine WL.op rfl rfl rfl (Go.Proofs.YtoffbjfgledjfaaDoor.W.quiet_move rfl rfl) ?_
          refine O.ext rfl rfl rfl rfl rfl rfl ?_
          refine O.ext rfl rfl rfl rfl rfl rfl ?_
          have lt2_hr := hr.lt
          have lt2_hp := hp.lt
          have lt2_hd := hd.lt
          have lt2_bx1 := bx1.lt
          refine O.allocR rfl rfl rfl rfl (qzR_api_Token w2) ?_
          rintro wa4 ⟨fa4, bx2⟩
          replace hr := hr.fr fa4 id
          replace hp := hp.fr fa4 id
          replace hd := hd.fr fa4 id
          replace bx1 := bx1.fr fa4 id
          replace ff := ff.trans' fa4 (fun q hq e => e.elim)
          refine O.storeR rfl rfl rfl rfl rfl (qsA_api_Token wa4 _ _ _ _ _ _ _ _ _ _ _ bx2) ?_
          rintro wa5 ⟨fa5, bx2x⟩
          replace hr := hr.fr fa5 (fun e => by omega)
          replace hp := hp.fr fa5 (fun e => by omega)
          replace hd := hd.fr fa5 (fun e => by omega)
          replace bx1 := bx1.fr fa5 (fun e => by omega)
          replace ff := ff.trans' fa5 (fun q hq e => by first | exact .inl e | exact .inr e | omega)
          clear bx2
          have bx2 := bx2x
          clear bx2x
          refine WL.op rfl rfl rfl (Go.Proofs.YtoffbjfgledjfaaDoor.W.quiet_assign rfl rfl) ?_
          refine WL.nil ?_
          refine TW.seq ?_
          refine TW.sreg ?_
          refine WL.op rfl rfl rfl (Go.Proofs.YtoffbjfgledjfaaDoor.W.quiet_move rfl rfl) ?_
          refine WL.op rfl rfl rfl (Go.Proofs.YtoffbjfgledjfaaDoor.W.quiet_bin rfl rfl rfl (fun W => qb_neq_api_Errno W _ _ _ _)) ?_
          refine O.split (fun hb => ?_) (fun hb => absurd (show (er != 0) = true by rcases tok_err ht with rfl | rfl | rfl <;> rfl) (by rw [hb]; decide))
          refine WL.nil ?_
          refine TW.cond rfl (fun _ => ?_) (fun hb => by cases hb)
          refine TW.sreg ?_
          refine WL.ld rfl rfl rfl rfl rfl (qlB_api_Pos _ _ _ _ _ hp) ?_
          refine O.bld rfl rfl rfl rfl rfl (qd_api_Token_3 _ _ _) ?_
          refine WL.op rfl rfl rfl (Go.Proofs.YtoffbjfgledjfaaDoor.W.quiet_move rfl rfl) ?_
          refine O.storeR rfl rfl rfl rfl rfl (qsA_api_Token wa5 _ _ _ _ _ _ _ _ _ _ _ bx1) ?_
          rintro wa6 ⟨fa6, bx1x⟩
          replace hr := hr.fr fa6 (fun e => by omega)
          replace hp := hp.fr fa6 (fun e => by omega)
          replace hd := hd.fr fa6 (fun e => by omega)
          replace bx2 := bx2.fr fa6 (fun e => by omega)
          replace ff := ff.trans' fa6 (fun q hq e => by first | exact .inl e | exact .inr e | omega)
          clear bx1
          have bx1 := bx1x
          clear bx1x
          refine WL.op rfl rfl rfl (Go.Proofs.YtoffbjfgledjfaaDoor.W.quiet_assign rfl rfl) ?_
          refine WL.nil ?_
          refine TW.rt ?_
          refine Xw.thn (by simp) ?_
          refine O.retc2 rfl rfl rfl (run_loadVar_row _ _ _ 32 _ _ _ bx1 Tryd.underlying32 rfl (by kernel_rfl)) ?_
          refine ⟨ff, ?_⟩
          rw [hrel]
          rw [nx_err hbk hne ht]
          rfl
        · rename_i t
          refine TW.cond rfl (fun hb => by cases hb) (fun _ => ?_)
          refine TW.skip ?_
          refine TW.sreg ?_
          refine WL.ld rfl rfl rfl rfl rfl (ql_string _ _ _ (hr.cell (j := 0) rfl)) ?_
          refine WL.call (hr := (by have z := t_token u hu0 (by omega) w1 (her.fr ff hSn hRn); rw [ht] at z; exact z)) rfl rfl rfl rfl rfl (fun W => qk_lex_token W _) ?_
          rintro e w2 ⟨rfl, f2⟩
          refine ⟨.tuple #[.agg #[.int .i64 t.k, bts t.t, .int .u32 t.n, .int .i64 0, .int .i64 0], .int .i64 0], rfl, ?_⟩
          replace hr := hr.fr f2 id
          replace hp := hp.fr f2 id
          replace hd := hd.fr f2 id
          replace bx1 := bx1.fr f2 id
          replace ff := ff.trans' f2 (fun q hq e => e.elim)
          refine WL.op rfl rfl rfl (Go.Proofs.YtoffbjfgledjfaaDoor.W.quiet_move rfl rfl) ?_
          refine O.ext rfl rfl rfl rfl rfl rfl ?_
          refine O.ext rfl rfl rfl rfl rfl rfl ?_
          have lt3_hr := hr.lt
          have lt3_hp := hp.lt
          have lt3_hd := hd.lt
          have lt3_bx1 := bx1.lt
          refine O.allocR rfl rfl rfl rfl (qzR_api_Token w2) ?_
          rintro wa7 ⟨fa7, bx3⟩
          replace hr := hr.fr fa7 id
          replace hp := hp.fr fa7 id
          replace hd := hd.fr fa7 id
          replace bx1 := bx1.fr fa7 id
          replace ff := ff.trans' fa7 (fun q hq e => e.elim)
          refine O.storeR rfl rfl rfl rfl rfl (qsA_api_Token wa7 _ _ _ _ _ _ _ _ _ _ _ bx3) ?_
          rintro wa8 ⟨fa8, bx3x⟩
          replace hr := hr.fr fa8 (fun e => by omega)
          replace hp := hp.fr fa8 (fun e => by omega)
          replace hd := hd.fr fa8 (fun e => by omega)
          replace bx1 := bx1.fr fa8 (fun e => by omega)
          replace ff := ff.trans' fa8 (fun q hq e => by first | exact .inl e | exact .inr e | omega)
          clear bx3
          have bx3 := bx3x
          clear bx3x
          refine WL.op rfl rfl rfl (Go.Proofs.YtoffbjfgledjfaaDoor.W.quiet_assign rfl rfl) ?_
          refine WL.nil ?_
          refine TW.seq ?_
          refine TW.sreg ?_
          refine WL.op rfl rfl rfl (Go.Proofs.YtoffbjfgledjfaaDoor.W.quiet_move rfl rfl) ?_
          refine WL.op rfl rfl rfl (Go.Proofs.YtoffbjfgledjfaaDoor.W.quiet_bin rfl rfl rfl (fun W => qb_neq_api_Errno W _ _ _ _)) ?_
          refine O.split (fun hb => by exfalso; revert hb; first | (simp; done) | (simp; omega)) (fun hb => ?_)
          obtain ⟨hG, hT, hTl⟩ := tok_good hne hbk ht
          refine WL.nil ?_
          refine TW.cond rfl (fun hb => by cases hb) (fun _ => ?_)
          refine TW.skip ?_
          refine TW.sreg ?_
          refine WL.ld rfl rfl rfl rfl rfl (qlB_api_Pos _ _ _ _ _ hp) ?_
          refine WL.op rfl rfl rfl (Go.Proofs.YtoffbjfgledjfaaDoor.W.quiet_field rfl rfl (fun W => (qa_api_Token_3 W _ _))) ?_
          refine O.storeR rfl rfl rfl rfl rfl (bx3.pos3 l2 c2) ?_
          rintro wa9 ⟨fa9, bx3x⟩
          replace hr := hr.fr fa9 (fun e => by omega)
          replace hp := hp.fr fa9 (fun e => by omega)
          replace hd := hd.fr fa9 (fun e => by omega)
          replace bx1 := bx1.fr fa9 (fun e => by omega)
          replace ff := ff.trans' fa9 (fun q hq e => by first | exact .inl e | exact .inr e | omega)
          clear bx3
          have bx3 := bx3x
          clear bx3x
          refine WL.nil ?_
          refine TW.sreg ?_
          refine WL.ld rfl rfl rfl rfl rfl (ql_func_int _ _ _ (hd.cell (j := 0) rfl)) ?_
          refine WL.op rfl rfl rfl (Go.Proofs.YtoffbjfgledjfaaDoor.W.quiet_field rfl rfl (fun W => (qa_api_Token_1 W _ _))) ?_
          refine WL.ld rfl rfl rfl rfl rfl (ql_string _ _ _ (bx3.cell (j := 1) rfl)) ?_
          refine O.len rfl rfl rfl rfl rfl (qn_string _ _) ?_
          refine O.callv (hr := (t_adv r p t.t.length u l2 c2 (by omega) (by omega) q1 (by omega) q3 (by omega) hrp _ hr hp)) rfl rfl rfl rfl rfl rfl (fun W => qk_lex_scanner_1 W _) ?_
          rintro e w9 ⟨rfl, hr9, hp9, f9⟩
          refine ⟨_, rfl, ?_⟩
          replace ff := ff.trans' f9 (fun q hq e => e)
          replace hd := hd.fr f9 (fun e => e.elim (fun z => hrd z.symm) (fun z => hpd z.symm))
          replace bx1 := bx1.fr f9 (fun e => by omega)
          replace bx3 := bx3.fr f9 (fun e => by omega)
          clear hr hp
          have hr := hr9
          have hp := hp9
          refine WL.nil ?_
          refine TW.sreg ?_
          refine WL.ld rfl rfl rfl rfl rfl (qlB_api_Token _ _ _ _ _ _ _ _ bx3) ?_
          refine O.storeR rfl rfl rfl rfl rfl (qsA_api_Token w9 _ _ _ _ _ _ _ _ _ _ _ bx1) ?_
          rintro wa10 ⟨fa10, bx1x⟩
          replace hr := hr.fr fa10 (fun e => by omega)
          replace hp := hp.fr fa10 (fun e => by omega)
          replace hd := hd.fr fa10 (fun e => by omega)
          replace bx3 := bx3.fr fa10 (fun e => by omega)
          replace ff := ff.trans' fa10 (fun q hq e => by first | exact .inl e | exact .inr e | omega)
          clear bx1
          have bx1 := bx1x
          clear bx1x
          refine WL.op rfl rfl rfl (Go.Proofs.YtoffbjfgledjfaaDoor.W.quiet_assign rfl rfl) ?_
          refine WL.nil ?_
          refine TW.rt ?_
          refine O.retc2 rfl rfl rfl (run_loadVar_row _ _ _ 32 _ _ _ bx1 Tryd.underlying32 rfl (by kernel_rfl)) ?_
          refine ⟨ff, ?_⟩
          rw [hrel]
          rw [nx_tok hbk hne ht]
          refine ⟨rfl, hr, ?_⟩
          rw [← hT] at hp
          exact hp
end Go.Proofs.YtoffbjfgledjfaaDoor
