/-
  Lex (layer 7): the walk of LexBack.
-/
import Derived.Test.YtoffbjfgledjfaaDoorLyM
namespace Go.Proofs.YtoffbjfgledjfaaDoor
open Go.RowKit
set_option linter.unusedVariables false
set_option linter.unusedSimpArgs false
set_option linter.unnecessarySimpa false
theorem ql_uint32 (w : World) (m : Int) (d : Addr) (h : w.cell? d = some (.int .u32 m)) : (Instr.loadAt 30 (.pointer (some d))).run Tryd.prog w = .ok (.int .u32 m) w := by simp [go_sem, h]
theorem qk_rushlightlaw07_awake (w : World) (vs : Array Value) : (callFunc 5 vs).run Tryd.prog w = .ok (.enter 5 vs) w := by simp [go_sem]
theorem qk_lex_Lex (w : World) (vs : Array Value) : (callFunc 6 vs).run Tryd.prog w = .ok (.enter 6 vs) w := by simp [go_sem]
theorem qk_lex_Text (w : World) (vs : Array Value) : (callFunc 7 vs).run Tryd.prog w = .ok (.enter 7 vs) w := by simp [go_sem]
theorem qb_neq_int (w : World) (x y : Operand) (m n : Int) : ((do eqGuard .neq 3 x y (.int .i64 m) (.int .i64 n); binOp .neq 3 (.int .i64 m) (.int .i64 n) : Sem Value)).run Tryd.prog w = .ok (.bool (m != n)) w := by simp [go_sem]
theorem qa_api_Token_2 (w : World) (b o : Nat) : (Instr.fieldAt 32 (.pointer (some ⟨b, o, none⟩)) 2).run Tryd.prog w = .ok (.pointer (some ⟨b, o + 2, none⟩)) w := by simp [go_sem]
theorem qb_neq_uint32 (w : World) (x y : Operand) (m n : Int) : ((do eqGuard .neq 30 x y (.int .u32 m) (.int .u32 n); binOp .neq 30 (.int .u32 m) (.int .u32 n) : Sem Value)).run Tryd.prog w = .ok (.bool (m != n)) w := by simp [go_sem]
theorem bn_nes (w : World) (x y : Operand) (a : List UInt8) : (do eqGuard .neq 9 x y (bts a) (bts a); binOp .neq 9 (bts a) (bts a) : Sem Value).run Tryd.prog w = .ok (.bool false) w := by simp [go_sem]
theorem bn_posne (w : World) (x y : Operand) (a b : Int) : (do eqGuard .neq 25 x y (.agg #[.int .i64 a, .int .i64 b]) (.agg #[.int .i64 a, .int .i64 b]); binOp .neq 25 (.agg #[.int .i64 a, .int .i64 b]) (.agg #[.int .i64 a, .int .i64 b]) : Sem Value).run Tryd.prog w = .ok (.bool false) w := by simp [go_sem]
theorem posT_len : ∀ (c : Int) (l : List Tk), (posT c l).length = l.length
  | _, [] => rfl
  | c, t :: l => by
    show (posT _ l).length + 1 = l.length + 1
    rw [posT_len]
theorem posT_get : ∀ (c : Int) (l : List Tk) (j : Nat) (hj : j < l.length), (posT c l)[j]? = some (l[j], 1, c + ((tailT (l.take j)).length : Int))
  | _, [], j, hj => by simp at hj
  | c, t :: l, 0, hj => by simp [posT, tailT]
  | c, t :: l, j + 1, hj => by
    have ih := posT_get (c + t.t.length + 1) l j (by simpa using hj)
    show (posT _ l)[j]? = _
    rw [ih]
    simp only [List.getElem_cons_succ, List.take_succ_cons, tailT, List.length_cons, List.length_append]
    congr 3
    omega
theorem lex_er : ∀ (f : Nat) (s : List UInt8) (p : Int × Int) {x : Int × Int × Int}, lexF f s p = .error x → x.1 ≠ 0
  | 0, s, p, x, h => by unfold lexF at h; injection h with h; subst h; show (16 : Int) ≠ 0; decide
  | f + 1, s, p, x, h => by
    unfold lexF at h
    split at h
    · injection h with h; subst h; show (3 : Int) ≠ 0; decide
    · exact lex_er f _ _ h
    · split at h
      · cases h
      · split at h
        · next e hk =>
          injection h with h
          subst h
          show e ≠ 0
          rcases tok_err hk with rfl | rfl | rfl <;> decide
        · next t hk =>
          cases hq : lexF f (s.drop t.t.length) (afterF p t.t) with
          | error e =>
            rw [hq] at h
            simp only [Except.map, Except.error.injEq] at h
            subst h
            exact lex_er f _ _ hq
          | ok y => rw [hq] at h; simp [Except.map] at h
theorem tail_succ (l : List Tk) {j : Nat} (hj : j < l.length) : (tailT (l.take (j + 1))).length = (tailT (l.take j)).length + (l[j]'hj).t.length + 1 := by
  rw [List.take_add_one, List.getElem?_eq_getElem hj, Option.toList_some, tail_app, List.length_append]
  simp only [tailT, List.length_cons, List.append_nil]
  omega
theorem tail_take (l : List Tk) (j : Nat) : (tailT (l.take j)).length ≤ (tailT l).length := by
  have := tail_app (l.take j) (l.drop j)
  rw [List.take_append_drop] at this
  rw [this, List.length_append]
  omega
set_option maxRecDepth 100000 in
set_option maxHeartbeats 1000000 in
theorem walk_back (s : List UInt8) (w : World) (hml : MlW w) (her : ErW w) : Calls Tryd.prog 3 #[bts s] w fun e w' => e = .returned (.bool true) ∧ Fr (fun _ => False) w w' := by
  have ff := Fr.refl (fun _ => False) w
  refine calls_tw Tryd.func3 rfl rfl (Nat.le_of_ble_eq_true rfl) ?_
  refine TW.sreg ?_
  refine WL.op rfl rfl rfl (Go.Proofs.YtoffbjfgledjfaaDoor.W.quiet_assign rfl rfl) ?_
  refine WL.nil ?_
  refine TW.seq ?_
  refine TW.sreg ?_
  refine WL.op rfl rfl rfl (Go.Proofs.YtoffbjfgledjfaaDoor.W.quiet_move rfl rfl) ?_
  refine O.len rfl rfl rfl rfl rfl (qn_string _ _) ?_
  refine WL.op rfl rfl rfl (Go.Proofs.YtoffbjfgledjfaaDoor.W.quiet_bin rfl rfl rfl (fun W => qb_gtr_int W _ _ _ _)) ?_
  refine O.split (fun h1 => ?_) (fun h1 => ?_)
  · skip
    refine WL.nil ?_
    refine TW.cond rfl (fun _ => ?_) (fun hb => by cases hb)
    refine TW.sreg ?_
    refine WL.call (hr := (awake_of _)) rfl rfl rfl rfl rfl (fun W => qk_rushlightlaw07_awake W _) ?_
    rintro e wq ⟨rfl, fq⟩
    refine ⟨_, rfl, ?_⟩
    replace ff := ff.trans fq
    refine WL.op rfl rfl rfl (Go.Proofs.YtoffbjfgledjfaaDoor.W.quiet_assign rfl rfl) ?_
    refine WL.nil ?_
    refine TW.rt ?_
    refine Xw.thn (by simp) ?_
    refine bodyw_ret rfl rfl ?_
    exact ⟨rfl, ff⟩
  · skip
    have hsl : s.length ≤ 3000 := by have := of_decide_eq_false h1; omega
    refine WL.nil ?_
    rcases hx : lexF (s.length + 1) s (1, 1) with ⟨er, ap⟩ | ⟨toks, ap⟩
    · have her0 := lex_er _ _ _ hx
      refine TW.cond rfl (fun hb => by cases hb) (fun _ => ?_)
      refine TW.skip ?_
      refine TW.sreg ?_
      refine WL.op rfl rfl rfl (Go.Proofs.YtoffbjfgledjfaaDoor.W.quiet_move rfl rfl) ?_
      refine WL.call (hr := (by have z := t_lex s (by omega) w hml her; rw [hx] at z; exact z)) rfl rfl rfl rfl rfl (fun W => qk_lex_Lex W _) ?_
      rintro e w1 ⟨f1, rfl⟩
      refine ⟨.tuple #[.slice none 0 0, .agg #[.int .i64 ap.1, .int .i64 ap.2], .int .i64 er], rfl, ?_⟩
      replace ff := ff.trans f1
      refine WL.op rfl rfl rfl (Go.Proofs.YtoffbjfgledjfaaDoor.W.quiet_move rfl rfl) ?_
      refine O.ext rfl rfl rfl rfl rfl rfl ?_
      refine O.ext rfl rfl rfl rfl rfl rfl ?_
      refine O.ext rfl rfl rfl rfl rfl rfl ?_
      have lw1 := ff.size
      refine O.allocR rfl rfl rfl rfl (qzR_api_Pos w1) ?_
      rintro wa1 ⟨fa1, bx1⟩
      replace ff := ff.trans fa1
      refine WL.op rfl rfl rfl (Go.Proofs.YtoffbjfgledjfaaDoor.W.quiet_assign rfl rfl) ?_
      refine O.storeR rfl rfl rfl rfl rfl (qsA_api_Pos wa1 _ _ _ _ _ bx1) ?_
      rintro wa2 ⟨fa2, bx1x⟩
      replace ff := ff.trans' fa2 (fun q hq e => by omega)
      clear bx1
      have bx1 := bx1x
      clear bx1x
      refine WL.op rfl rfl rfl (Go.Proofs.YtoffbjfgledjfaaDoor.W.quiet_assign rfl rfl) ?_
      refine WL.nil ?_
      refine TW.seq ?_
      refine TW.sreg ?_
      refine WL.op rfl rfl rfl (Go.Proofs.YtoffbjfgledjfaaDoor.W.quiet_move rfl rfl) ?_
      refine WL.op rfl rfl rfl (Go.Proofs.YtoffbjfgledjfaaDoor.W.quiet_bin rfl rfl rfl (fun W => qb_neq_api_Errno W _ _ _ _)) ?_
      refine O.split (fun hb => ?_) (fun hb => absurd (by simpa using hb) her0)
      refine WL.nil ?_
      refine TW.cond rfl (fun _ => ?_) (fun hb => by cases hb)
      refine TW.sreg ?_
      refine WL.call (hr := (awake_of _)) rfl rfl rfl rfl rfl (fun W => qk_rushlightlaw07_awake W _) ?_
      rintro e wq ⟨rfl, fq⟩
      refine ⟨_, rfl, ?_⟩
      replace bx1 := bx1.fr fq id
      replace ff := ff.trans fq
      refine O.split (fun hb => ?_) (fun hb => by exfalso; revert hb; first | (simp; done) | (simp; omega))
      refine WL.op rfl rfl rfl (Go.Proofs.YtoffbjfgledjfaaDoor.W.quiet_move rfl rfl) ?_
      refine WL.op rfl rfl rfl (Go.Proofs.YtoffbjfgledjfaaDoor.W.quiet_move rfl rfl) ?_
      refine O.len rfl rfl rfl rfl rfl (qn_s_api_Token _ _ _ _) ?_
      refine WL.op rfl rfl rfl (Go.Proofs.YtoffbjfgledjfaaDoor.W.quiet_bin rfl rfl rfl (fun W => qb_eql_int W _ _ _ _)) ?_
      refine O.split (fun hb => ?_) (fun hb => by exfalso; revert hb; first | (simp; done) | (simp; omega))
      refine WL.op rfl rfl rfl (Go.Proofs.YtoffbjfgledjfaaDoor.W.quiet_pick rfl rfl rfl) ?_
      refine WL.op rfl rfl rfl (Go.Proofs.YtoffbjfgledjfaaDoor.W.quiet_assign rfl rfl) ?_
      refine WL.nil ?_
      refine TW.rt ?_
      refine Xw.thn (by simp) ?_
      refine bodyw_ret rfl rfl ?_
      exact ⟨rfl, ff⟩
    · obtain ⟨hlen1, hlen2⟩ := lex_len _ _ _ hx
      have hgood := lex_good _ _ _ hx
      simp only at hlen1 hlen2 hgood
      have hjl := join_tail (toks.map (fun (x : Tk × Int × Int) => x.1))
      have hj9 := lex_join (toks.map (fun (x : Tk × Int × Int) => x.1)) (fun t ht => by obtain ⟨x, hx9, rfl⟩ := List.mem_map.1 ht; exact hgood x hx9) ((joinT (toks.map (fun (x : Tk × Int × Int) => x.1))).length + 1) (Nat.le_refl _)
      obtain ⟨B1, hB1⟩ : ∃ B, B = w.heap.size := ⟨_, rfl⟩
      refine TW.cond rfl (fun hb => by cases hb) (fun _ => ?_)
      refine TW.skip ?_
      refine TW.sreg ?_
      refine WL.op rfl rfl rfl (Go.Proofs.YtoffbjfgledjfaaDoor.W.quiet_move rfl rfl) ?_
      refine WL.call (hr := (by have z := t_lex s (by omega) w hml her; rw [hx] at z; exact z)) rfl rfl rfl rfl rfl (fun W => qk_lex_Lex W _) ?_
      rintro e w1 ⟨f1, va, vc, rfl, hv⟩
      refine ⟨.tuple #[.slice va toks.length vc, .agg #[.int .i64 ap.1, .int .i64 ap.2], .int .i64 0], rfl, ?_⟩
      replace ff := ff.trans f1
      rw [← hB1] at hv
      refine WL.op rfl rfl rfl (Go.Proofs.YtoffbjfgledjfaaDoor.W.quiet_move rfl rfl) ?_
      refine O.ext rfl rfl rfl rfl rfl rfl ?_
      refine O.ext rfl rfl rfl rfl rfl rfl ?_
      refine O.ext rfl rfl rfl rfl rfl rfl ?_
      have lw2 := ff.size
      refine O.allocR rfl rfl rfl rfl (qzR_api_Pos w1) ?_
      rintro wa3 ⟨fa3, bx2⟩
      replace hv := Row.fr hv fa3 (fun _ _ => id)
      replace ff := ff.trans fa3
      refine WL.op rfl rfl rfl (Go.Proofs.YtoffbjfgledjfaaDoor.W.quiet_assign rfl rfl) ?_
      refine O.storeR rfl rfl rfl rfl rfl (qsA_api_Pos wa3 _ _ _ _ _ bx2) ?_
      rintro wa4 ⟨fa4, bx2x⟩
      replace hv := Row.fr hv fa4 (fun k hk e => Row.apart_typ hv bx2 (by decide) (hk.trans (congrArg some e)))
      replace ff := ff.trans' fa4 (fun q hq e => by omega)
      clear bx2
      have bx2 := bx2x
      clear bx2x
      refine WL.op rfl rfl rfl (Go.Proofs.YtoffbjfgledjfaaDoor.W.quiet_assign rfl rfl) ?_
      refine WL.nil ?_
      refine TW.seq ?_
      refine TW.sreg ?_
      refine WL.op rfl rfl rfl (Go.Proofs.YtoffbjfgledjfaaDoor.W.quiet_move rfl rfl) ?_
      refine WL.op rfl rfl rfl (Go.Proofs.YtoffbjfgledjfaaDoor.W.quiet_bin rfl rfl rfl (fun W => qb_neq_api_Errno W _ _ _ _)) ?_
      refine O.split (fun hb => by exfalso; revert hb; first | (simp; done) | (simp; omega)) (fun hb => ?_)
      refine WL.nil ?_
      refine TW.cond rfl (fun hb => by cases hb) (fun _ => ?_)
      refine TW.skip ?_
      refine TW.sreg ?_
      refine WL.op rfl rfl rfl (Go.Proofs.YtoffbjfgledjfaaDoor.W.quiet_move rfl rfl) ?_
      refine WL.call (hr := (t_text B1 va vc toks (by omega) (by omega) _ hv)) rfl rfl rfl rfl rfl (fun W => qk_lex_Text W _) ?_
      rintro e w2 ⟨rfl, f2⟩
      refine ⟨_, rfl, ?_⟩
      replace bx2 := bx2.fr f2 id
      replace hv := Row.fr hv f2 (fun _ _ => id)
      replace ff := ff.trans f2
      have hB2 := ff.size
      refine WL.op rfl rfl rfl (Go.Proofs.YtoffbjfgledjfaaDoor.W.quiet_assign rfl rfl) ?_
      refine WL.nil ?_
      refine TW.sreg ?_
      refine WL.op rfl rfl rfl (Go.Proofs.YtoffbjfgledjfaaDoor.W.quiet_move rfl rfl) ?_
      refine WL.call (hr := (by have z := t_lex (joinT (toks.map (fun (x : Tk × Int × Int) => x.1))) (by omega) w2 (hml.fr ff id) (her.fr ff id id); rw [hj9] at z; exact z)) rfl rfl rfl rfl rfl (fun W => qk_lex_Lex W _) ?_
      rintro e w3 ⟨f3, va2, vc2, rfl, hv2⟩
      refine ⟨.tuple #[.slice va2 (posT 1 (toks.map (fun (x : Tk × Int × Int) => x.1))).length vc2, .agg #[.int .i64 1, .int .i64 (1 + ((joinT (toks.map (fun (x : Tk × Int × Int) => x.1))).length : Int))], .int .i64 0], rfl, ?_⟩
      replace bx2 := bx2.fr f3 id
      replace hv := Row.fr hv f3 (fun _ _ => id)
      replace ff := ff.trans f3
      obtain ⟨B2, hBB⟩ : ∃ B, B = w2.heap.size := ⟨_, rfl⟩
      rw [← hBB] at hv2
      have hpl2 := posT_len 1 (toks.map (fun (x : Tk × Int × Int) => x.1))
      rw [List.length_map] at hpl2
      refine WL.op rfl rfl rfl (Go.Proofs.YtoffbjfgledjfaaDoor.W.quiet_move rfl rfl) ?_
      refine O.ext rfl rfl rfl rfl rfl rfl ?_
      refine O.ext rfl rfl rfl rfl rfl rfl ?_
      refine O.ext rfl rfl rfl rfl rfl rfl ?_
      have lt3_bx2 := bx2.lt
      have lw3 := ff.size
      refine O.allocR rfl rfl rfl rfl (qzR_api_Pos w3) ?_
      rintro wa5 ⟨fa5, bx3⟩
      replace bx2 := bx2.fr fa5 id
      replace hv := Row.fr hv fa5 (fun _ _ => id)
      replace hv2 := Row.fr hv2 fa5 (fun _ _ => id)
      replace ff := ff.trans fa5
      refine WL.op rfl rfl rfl (Go.Proofs.YtoffbjfgledjfaaDoor.W.quiet_assign rfl rfl) ?_
      refine O.storeR rfl rfl rfl rfl rfl (qsA_api_Pos wa5 _ _ _ _ _ bx3) ?_
      rintro wa6 ⟨fa6, bx3x⟩
      replace bx2 := bx2.fr fa6 (fun e => by omega)
      replace hv := Row.fr hv fa6 (fun k hk e => Row.apart_typ hv bx3 (by decide) (hk.trans (congrArg some e)))
      replace hv2 := Row.fr hv2 fa6 (fun k hk e => Row.apart_typ hv2 bx3 (by decide) (hk.trans (congrArg some e)))
      replace ff := ff.trans' fa6 (fun q hq e => by omega)
      clear bx3
      have bx3 := bx3x
      clear bx3x
      refine WL.op rfl rfl rfl (Go.Proofs.YtoffbjfgledjfaaDoor.W.quiet_assign rfl rfl) ?_
      refine WL.nil ?_
      refine TW.seq ?_
      refine TW.sreg ?_
      refine WL.op rfl rfl rfl (Go.Proofs.YtoffbjfgledjfaaDoor.W.quiet_move rfl rfl) ?_
      refine WL.op rfl rfl rfl (Go.Proofs.YtoffbjfgledjfaaDoor.W.quiet_bin rfl rfl rfl (fun W => qb_neq_api_Errno W _ _ _ _)) ?_
      refine O.split (fun hb => by exfalso; revert hb; first | (simp; done) | (simp; omega)) (fun hb => ?_)
      refine WL.op rfl rfl rfl (Go.Proofs.YtoffbjfgledjfaaDoor.W.quiet_move rfl rfl) ?_
      refine WL.op rfl rfl rfl (Go.Proofs.YtoffbjfgledjfaaDoor.W.quiet_move rfl rfl) ?_
      refine O.len rfl rfl rfl rfl rfl (qn_s_api_Token _ _ _ _) ?_
      refine WL.op rfl rfl rfl (Go.Proofs.YtoffbjfgledjfaaDoor.W.quiet_move rfl rfl) ?_
      refine O.len rfl rfl rfl rfl rfl (qn_s_api_Token _ _ _ _) ?_
      refine WL.op rfl rfl rfl (Go.Proofs.YtoffbjfgledjfaaDoor.W.quiet_bin rfl rfl rfl (fun W => qb_neq_int W _ _ _ _)) ?_
      refine O.split (fun hb => absurd hb (by rw [hpl2]; simp)) (fun hb => ?_)
      refine WL.op rfl rfl rfl (Go.Proofs.YtoffbjfgledjfaaDoor.W.quiet_pick rfl rfl rfl) ?_
      refine WL.op rfl rfl rfl (Go.Proofs.YtoffbjfgledjfaaDoor.W.quiet_move rfl rfl) ?_
      refine WL.ld rfl rfl rfl rfl rfl (qlB_api_Pos _ _ _ _ _ bx3) ?_
      refine WL.op rfl rfl rfl (Go.Proofs.YtoffbjfgledjfaaDoor.W.quiet_move rfl rfl) ?_
      refine O.len rfl rfl rfl rfl rfl (qn_string _ _) ?_
      refine WL.op rfl rfl rfl (Go.Proofs.YtoffbjfgledjfaaDoor.W.quiet_bin rfl rfl rfl (fun W => (qb_add_int W _ _ _ _ (by omega) (by omega)).trans (by rw [Int.add_comm]))) ?_
      refine O.bld rfl rfl rfl rfl rfl (qd_api_Pos_0_1 _ _ _) ?_
      refine WL.op rfl rfl rfl (Go.Proofs.YtoffbjfgledjfaaDoor.W.quiet_bin rfl rfl rfl (fun W => bn_posne W _ _ 1 (1 + ((joinT (toks.map (fun (x : Tk × Int × Int) => x.1))).length : Int)))) ?_
      refine O.split (fun hb => by exfalso; revert hb; first | (simp; done) | (simp; omega)) (fun hb => ?_)
      refine WL.op rfl rfl rfl (Go.Proofs.YtoffbjfgledjfaaDoor.W.quiet_pick rfl rfl rfl) ?_
      refine WL.nil ?_
      refine TW.cond rfl (fun hb => by cases hb) (fun _ => ?_)
      refine TW.skip ?_
      refine TW.sreg ?_
      refine WL.op rfl rfl rfl (Go.Proofs.YtoffbjfgledjfaaDoor.W.quiet_assign rfl rfl) ?_
      refine WL.nil ?_
      refine TW.seq ?_
      refine TW.sreg ?_
      refine WL.op rfl rfl rfl (Go.Proofs.YtoffbjfgledjfaaDoor.W.quiet_assign rfl rfl) ?_
      refine WL.nil ?_
      refine TW.block ?_
      refine O.loopG (n := toks.length) (fun a _ => (intOf (a.tmps.getD 11 undef)).toNat) (fun j a W => Kn Tryd.f3.ntmps [(3, .slice va toks.length vc), (7, .slice va2 (posT 1 (toks.map (fun (x : Tk × Int × Int) => x.1))).length vc2), (10, .int .i64 ((tailT ((toks.map (fun (x : Tk × Int × Int) => x.1)).take j)).length : Int)), (11, .int .i64 (j : Int))] a ∧ Fr (fun _ => False) w W ∧ TR B1 W (.slice va toks.length vc) toks ∧ TR B2 W (.slice va2 (posT 1 (toks.map (fun (x : Tk × Int × Int) => x.1))).length vc2) (posT 1 (toks.map (fun (x : Tk × Int × Int) => x.1)))) (fun j a W h => O.slotv h.1 rfl) 0 (Nat.zero_le _) (fun a k => ⟨(by (repeat (refine Kn.cons k rfl ?_)); exact k.base), ff, hv, hv2⟩) ?_
      rintro j a wl hj ⟨k, ff, hv, hv2⟩
      refine TW.app (s := [(3, .slice va toks.length vc), (7, .slice va2 (posT 1 (toks.map (fun (x : Tk × Int × Int) => x.1))).length vc2), (10, .int .i64 ((tailT ((toks.map (fun (x : Tk × Int × Int) => x.1)).take j)).length : Int)), (11, .int .i64 (j : Int))]) ?_ k
      refine TW.seq ?_
      refine TW.sreg ?_
      refine WL.op rfl rfl rfl (Go.Proofs.YtoffbjfgledjfaaDoor.W.quiet_move rfl rfl) ?_
      refine WL.op rfl rfl rfl (Go.Proofs.YtoffbjfgledjfaaDoor.W.quiet_move rfl rfl) ?_
      refine O.len rfl rfl rfl rfl rfl (qn_s_api_Token _ _ _ _) ?_
      refine WL.op rfl rfl rfl (Go.Proofs.YtoffbjfgledjfaaDoor.W.quiet_bin rfl rfl rfl (fun W => qb_lss_int W _ _ _ _)) ?_
      refine O.split (fun b1 => ?_) (fun b1 => ?_)
      · skip
        have hj2 : j < toks.length := by have := of_decide_eq_true b1; rw [posT_len, List.length_map] at this; omega
        have hjm : j < (toks.map (fun (x : Tk × Int × Int) => x.1)).length := by rw [List.length_map]; exact hj2
        have hx1 : toks[j]? = some toks[j] := List.getElem?_eq_getElem hj2
        have hx2 : (posT 1 (toks.map (fun (x : Tk × Int × Int) => x.1)))[j]? = some ((toks[j]).1, 1, ((tailT ((toks.map (fun (x : Tk × Int × Int) => x.1)).take j)).length : Int) + 1) := by rw [posT_get 1 (toks.map (fun (x : Tk × Int × Int) => x.1)) j hjm, List.getElem_map, Int.add_comm]
        obtain ⟨g, cp, hge, hgo⟩ := Row.own hv (by omega)
        injection hge with hva _ hvc
        subst hva
        obtain ⟨g2, cp2, hge2, hgo2⟩ := Row.own hv2 (by rw [posT_len]; omega)
        injection hge2 with hva2 _ hvc2
        subst hva2
        have hc1 : ∀ i u, (tkCs (toks[j]))[i]? = some u → wl.cell? ⟨g, 0 + j * 5 + i, none⟩ = some u := fun i u hu => Row.cell (f := tkCs) (c := 5) (fun _ => rfl) hv hx1 hu (by omega)
        have hc2 : ∀ i u, (tkCs ((toks[j]).1, 1, ((tailT ((toks.map (fun (x : Tk × Int × Int) => x.1)).take j)).length : Int) + 1))[i]? = some u → wl.cell? ⟨g2, 0 + j * 5 + i, none⟩ = some u := fun i u hu => Row.cell (f := tkCs) (c := 5) (fun _ => rfl) hv2 hx2 hu (by omega)
        have hatl := tail_take (toks.map (fun (x : Tk × Int × Int) => x.1)) j
        have hpl2 := posT_len 1 (toks.map (fun (x : Tk × Int × Int) => x.1))
        rw [List.length_map] at hpl2
        have htl9 := tok_in hj2
        refine WL.nil ?_
        refine TW.cond rfl (fun _ => ?_) (fun hb => by cases hb)
        refine TW.skip ?_
        refine TW.seq ?_
        refine TW.block ?_
        refine TW.seq ?_
        refine TW.sregH (fun W => Fr (fun _ => False) wl W) (by kernel_rfl) ?_
        have fd : Fr (fun _ => False) wl wl.drew := (Fr.refl _ _).drewN 1
        have HW : Fr (fun _ => False) wl wl.drew := (Fr.refl _ _).drewN 1
        replace ff := ff.trans fd
        replace hv := Row.fr hv fd (fun _ _ => id)
        replace hv2 := Row.fr hv2 fd (fun _ _ => id)
        generalize hV : wl.drew = V1 at *
        clear hV
        refine WH.take 0 rfl (by kernel_rfl) (by kernel_rfl) (by kernel_rfl) (fun _ _ _ _ _ h => h) rfl rfl rfl HW (RH.move rfl rfl) ?_
        refine WH.take 1 rfl (by kernel_rfl) (by kernel_rfl) (by kernel_rfl) (fun _ _ _ _ _ h => h) rfl rfl rfl HW (RH.move rfl rfl) ?_
        refine WH.take 2 rfl (by kernel_rfl) (by kernel_rfl) (by kernel_rfl) (fun _ _ _ _ _ h => h) rfl rfl rfl HW (RH.index rfl rfl rfl (fun W => (qi_s_api_Token _ _ _ _ _ _ (by omega)))) ?_
        refine WH.take 3 rfl (by kernel_rfl) (by kernel_rfl) (by kernel_rfl) (fun _ _ _ _ _ h => h) rfl rfl rfl HW (RH.field rfl rfl (fun W => qa_api_Token_0 W _ _)) ?_
        refine WH.take 4 rfl (by kernel_rfl) (by kernel_rfl) (by kernel_rfl) (fun _ _ _ _ _ h => h) rfl rfl rfl HW (RH.load rfl rfl (fun W hW => (ql_int _ _ _ (hW.cell (hc2 0 _ rfl) id)))) ?_
        refine WH.take 5 rfl (by kernel_rfl) (by kernel_rfl) (by kernel_rfl) (fun _ _ _ _ _ h => h) rfl rfl rfl HW (RH.move rfl rfl) ?_
        refine WH.take 6 rfl (by kernel_rfl) (by kernel_rfl) (by kernel_rfl) (fun _ _ _ _ _ h => h) rfl rfl rfl HW (RH.move rfl rfl) ?_
        refine WH.take 7 rfl (by kernel_rfl) (by kernel_rfl) (by kernel_rfl) (fun _ _ _ _ _ h => h) rfl rfl rfl HW (RH.index rfl rfl rfl (fun W => (qi_s_api_Token _ _ _ _ _ _ (by omega)))) ?_
        refine WH.take 8 rfl (by kernel_rfl) (by kernel_rfl) (by kernel_rfl) (fun _ _ _ _ _ h => h) rfl rfl rfl HW (RH.field rfl rfl (fun W => qa_api_Token_0 W _ _)) ?_
        refine WH.take 9 rfl (by kernel_rfl) (by kernel_rfl) (by kernel_rfl) (fun _ _ _ _ _ h => h) rfl rfl rfl HW (RH.load rfl rfl (fun W hW => (ql_int _ _ _ (hW.cell (hc1 0 _ rfl) id)))) ?_
        refine WH.take 10 rfl (by kernel_rfl) (by kernel_rfl) (by kernel_rfl) (fun _ _ _ _ _ h => h) rfl rfl rfl HW (RH.bin rfl rfl rfl (fun W => qb_neq_int W _ _ _ _)) ?_
        refine WH.split (fun hb => by exfalso; revert hb; first | (simp; done) | (simp; omega)) (fun hb => ?_)
        refine WH.take 11 rfl (by kernel_rfl) (by kernel_rfl) (by kernel_rfl) (fun _ _ _ _ _ h => h) rfl rfl rfl HW (RH.move rfl rfl) ?_
        refine WH.take 12 rfl (by kernel_rfl) (by kernel_rfl) (by kernel_rfl) (fun _ _ _ _ _ h => h) rfl rfl rfl HW (RH.move rfl rfl) ?_
        refine WH.take 13 rfl (by kernel_rfl) (by kernel_rfl) (by kernel_rfl) (fun _ _ _ _ _ h => h) rfl rfl rfl HW (RH.move rfl rfl) ?_
        refine WH.take 14 rfl (by kernel_rfl) (by kernel_rfl) (by kernel_rfl) (fun _ _ _ _ _ h => h) rfl rfl rfl HW (RH.index rfl rfl rfl (fun W => (qi_s_api_Token _ _ _ _ _ _ (by omega)))) ?_
        refine WH.take 15 rfl (by kernel_rfl) (by kernel_rfl) (by kernel_rfl) (fun _ _ _ _ _ h => h) rfl rfl rfl HW (RH.field rfl rfl (fun W => qa_api_Token_1 W _ _)) ?_
        refine WH.take 16 rfl (by kernel_rfl) (by kernel_rfl) (by kernel_rfl) (fun _ _ _ _ _ h => h) rfl rfl rfl HW (RH.load rfl rfl (fun W hW => (ql_string _ _ _ (hW.cell (hc2 1 _ rfl) id)))) ?_
        refine WH.take 17 rfl (by kernel_rfl) (by kernel_rfl) (by kernel_rfl) (fun _ _ _ _ _ h => h) rfl rfl rfl HW (RH.move rfl rfl) ?_
        refine WH.take 18 rfl (by kernel_rfl) (by kernel_rfl) (by kernel_rfl) (fun _ _ _ _ _ h => h) rfl rfl rfl HW (RH.move rfl rfl) ?_
        refine WH.take 19 rfl (by kernel_rfl) (by kernel_rfl) (by kernel_rfl) (fun _ _ _ _ _ h => h) rfl rfl rfl HW (RH.index rfl rfl rfl (fun W => (qi_s_api_Token _ _ _ _ _ _ (by omega)))) ?_
        refine WH.take 20 rfl (by kernel_rfl) (by kernel_rfl) (by kernel_rfl) (fun _ _ _ _ _ h => h) rfl rfl rfl HW (RH.field rfl rfl (fun W => qa_api_Token_1 W _ _)) ?_
        refine WH.take 21 rfl (by kernel_rfl) (by kernel_rfl) (by kernel_rfl) (fun _ _ _ _ _ h => h) rfl rfl rfl HW (RH.load rfl rfl (fun W hW => (ql_string _ _ _ (hW.cell (hc1 1 _ rfl) id)))) ?_
        refine WH.take 22 rfl (by kernel_rfl) (by kernel_rfl) (by kernel_rfl) (fun _ _ _ _ _ h => h) rfl rfl rfl HW (RH.bin rfl rfl rfl (fun W => bn_nes W _ _ (toks[j]).1.t)) ?_
        refine WH.split (fun hb => by exfalso; revert hb; first | (simp; done) | (simp; omega)) (fun hb => ?_)
        refine WH.take 23 rfl (by kernel_rfl) (by kernel_rfl) (by kernel_rfl) (fun _ _ _ _ _ h => h) rfl rfl rfl HW (RH.pick rfl rfl rfl) ?_
        refine WH.take 24 rfl (by kernel_rfl) (by kernel_rfl) (by kernel_rfl) (fun _ _ _ _ _ h => h) rfl rfl rfl HW (RH.move rfl rfl) ?_
        refine WH.take 25 rfl (by kernel_rfl) (by kernel_rfl) (by kernel_rfl) (fun _ _ _ _ _ h => h) rfl rfl rfl HW (RH.move rfl rfl) ?_
        refine WH.take 26 rfl (by kernel_rfl) (by kernel_rfl) (by kernel_rfl) (fun _ _ _ _ _ h => h) rfl rfl rfl HW (RH.move rfl rfl) ?_
        refine WH.take 27 rfl (by kernel_rfl) (by kernel_rfl) (by kernel_rfl) (fun _ _ _ _ _ h => h) rfl rfl rfl HW (RH.index rfl rfl rfl (fun W => (qi_s_api_Token _ _ _ _ _ _ (by omega)))) ?_
        refine WH.take 28 rfl (by kernel_rfl) (by kernel_rfl) (by kernel_rfl) (fun _ _ _ _ _ h => h) rfl rfl rfl HW (RH.field rfl rfl (fun W => qa_api_Token_2 W _ _)) ?_
        refine WH.take 29 rfl (by kernel_rfl) (by kernel_rfl) (by kernel_rfl) (fun _ _ _ _ _ h => h) rfl rfl rfl HW (RH.load rfl rfl (fun W hW => (ql_uint32 _ _ _ (hW.cell (hc2 2 _ rfl) id)))) ?_
        refine WH.take 30 rfl (by kernel_rfl) (by kernel_rfl) (by kernel_rfl) (fun _ _ _ _ _ h => h) rfl rfl rfl HW (RH.move rfl rfl) ?_
        refine WH.take 31 rfl (by kernel_rfl) (by kernel_rfl) (by kernel_rfl) (fun _ _ _ _ _ h => h) rfl rfl rfl HW (RH.move rfl rfl) ?_
        refine WH.take 32 rfl (by kernel_rfl) (by kernel_rfl) (by kernel_rfl) (fun _ _ _ _ _ h => h) rfl rfl rfl HW (RH.index rfl rfl rfl (fun W => (qi_s_api_Token _ _ _ _ _ _ (by omega)))) ?_
        refine WH.take 33 rfl (by kernel_rfl) (by kernel_rfl) (by kernel_rfl) (fun _ _ _ _ _ h => h) rfl rfl rfl HW (RH.field rfl rfl (fun W => qa_api_Token_2 W _ _)) ?_
        refine WH.take 34 rfl (by kernel_rfl) (by kernel_rfl) (by kernel_rfl) (fun _ _ _ _ _ h => h) rfl rfl rfl HW (RH.load rfl rfl (fun W hW => (ql_uint32 _ _ _ (hW.cell (hc1 2 _ rfl) id)))) ?_
        refine WH.take 35 rfl (by kernel_rfl) (by kernel_rfl) (by kernel_rfl) (fun _ _ _ _ _ h => h) rfl rfl rfl HW (RH.bin rfl rfl rfl (fun W => qb_neq_uint32 W _ _ _ _)) ?_
        refine WH.split (fun hb => by exfalso; revert hb; first | (simp; done) | (simp; omega)) (fun hb => ?_)
        refine WH.take 36 rfl (by kernel_rfl) (by kernel_rfl) (by kernel_rfl) (fun _ _ _ _ _ h => h) rfl rfl rfl HW (RH.pick rfl rfl rfl) ?_
        refine WH.take 37 rfl (by kernel_rfl) (by kernel_rfl) (by kernel_rfl) (fun _ _ _ _ _ h => h) rfl rfl rfl HW (RH.move rfl rfl) ?_
        refine WH.take 38 rfl (by kernel_rfl) (by kernel_rfl) (by kernel_rfl) (fun _ _ _ _ _ h => h) rfl rfl rfl HW (RH.move rfl rfl) ?_
        refine WH.take 39 rfl (by kernel_rfl) (by kernel_rfl) (by kernel_rfl) (fun _ _ _ _ _ h => h) rfl rfl rfl HW (RH.move rfl rfl) ?_
        refine WH.take 40 rfl (by kernel_rfl) (by kernel_rfl) (by kernel_rfl) (fun _ _ _ _ _ h => h) rfl rfl rfl HW (RH.index rfl rfl rfl (fun W => (qi_s_api_Token _ _ _ _ _ _ (by omega)))) ?_
        refine WH.take 41 rfl (by kernel_rfl) (by kernel_rfl) (by kernel_rfl) (fun _ _ _ _ _ h => h) rfl rfl rfl HW (RH.field rfl rfl (fun W => qa_api_Token_3 W _ _)) ?_
        refine WH.take 42 rfl (by kernel_rfl) (by kernel_rfl) (by kernel_rfl) (fun _ _ _ _ _ h => h) rfl rfl rfl HW (RH.load rfl rfl (fun W hW => (ql_api_Pos _ _ _ _ _ (hW.cell (hc2 3 _ rfl) id) (hW.cell (hc2 4 _ rfl) id)))) ?_
        refine WH.take 43 rfl (by kernel_rfl) (by kernel_rfl) (by kernel_rfl) (fun _ _ _ _ _ h => h) rfl rfl rfl HW (RH.move rfl rfl) ?_
        refine WH.take 44 rfl (by kernel_rfl) (by kernel_rfl) (by kernel_rfl) (fun _ _ _ _ _ h => h) rfl rfl rfl HW (RH.bin rfl rfl rfl (fun W => qb_add_int W _ _ _ _ (by omega) (by omega))) ?_
        refine WH.one 45 (by kernel_rfl) rfl ?_ 
        refine O.bld rfl rfl rfl rfl rfl (qd_api_Pos_0_1 _ _ _) ?_
        refine WL.fin HW ?_
        refine WH.take 46 rfl (by kernel_rfl) (by kernel_rfl) (by kernel_rfl) (fun _ _ _ _ _ h => h) rfl rfl rfl HW (RH.bin rfl rfl rfl (fun W => bn_posne W _ _ 1 (((tailT ((toks.map (fun (x : Tk × Int × Int) => x.1)).take j)).length : Int) + 1))) ?_
        refine WH.split (fun hb => by exfalso; revert hb; first | (simp; done) | (simp; omega)) (fun hb => ?_)
        refine WH.take 47 rfl (by kernel_rfl) (by kernel_rfl) (by kernel_rfl) (fun _ _ _ _ _ h => h) rfl rfl rfl HW (RH.pick rfl rfl rfl) ?_
        refine WH.done (by kernel_rfl) ?_
        obtain ⟨gg, cp3, hge3, _⟩ := Row.own hv (by omega)
        have hc3 : ∀ i u, (tkCs (toks[j]))[i]? = some u → _ := fun i u hu => Row.cell (f := tkCs) (c := 5) (fun _ => rfl) hv hx1 hu (show 0 + j * 5 + i = j * 5 + i by omega)
        refine TW.cond rfl (fun hb => by cases hb) (fun _ => ?_)
        refine TW.skip ?_
        refine TW.reg ?_
        refine WL.op rfl rfl rfl (Go.Proofs.YtoffbjfgledjfaaDoor.W.quiet_move rfl rfl) ?_
        refine WL.op rfl rfl rfl (Go.Proofs.YtoffbjfgledjfaaDoor.W.quiet_move rfl rfl) ?_
        refine WL.op rfl rfl rfl (Go.Proofs.YtoffbjfgledjfaaDoor.W.quiet_move rfl rfl) ?_
        refine O.ixa rfl rfl rfl rfl rfl rfl (qi_s_api_Token _ _ _ _ _ _ (by omega)) ?_
        refine WL.op rfl rfl rfl (Go.Proofs.YtoffbjfgledjfaaDoor.W.quiet_field rfl rfl (fun W => (qa_api_Token_1 W _ _))) ?_
        refine WL.ld rfl rfl rfl rfl rfl (ql_string _ _ _ (hc3 1 _ rfl)) ?_
        refine O.len rfl rfl rfl rfl rfl (qn_string _ _) ?_
        refine WL.op rfl rfl rfl (Go.Proofs.YtoffbjfgledjfaaDoor.W.quiet_bin rfl rfl rfl (fun W => qb_add_int W _ _ _ _ (by omega) (by omega))) ?_
        refine WL.op rfl rfl rfl (Go.Proofs.YtoffbjfgledjfaaDoor.W.quiet_bin rfl rfl rfl (fun W => qb_add_int W _ _ _ _ (by omega) (by omega))) ?_
        refine WL.op rfl rfl rfl (Go.Proofs.YtoffbjfgledjfaaDoor.W.quiet_assign rfl rfl) ?_
        refine WL.end ?_
        refine Xw.nblk ?_
        refine Xw.nrm ?_
        refine TW.reg ?_
        refine WL.op rfl rfl rfl (Go.Proofs.YtoffbjfgledjfaaDoor.W.quiet_move rfl rfl) ?_
        refine WL.op rfl rfl rfl (Go.Proofs.YtoffbjfgledjfaaDoor.W.quiet_bin rfl rfl rfl (fun W => qb_add_int W _ _ _ _ (by omega) (by omega))) ?_
        refine WL.op rfl rfl rfl (Go.Proofs.YtoffbjfgledjfaaDoor.W.quiet_assign rfl rfl) ?_
        refine WL.end ?_
        refine Xw.any (fun a k => ?_)
        have hat1 : ((tailT ((toks.map (fun (x : Tk × Int × Int) => x.1)).take (j + 1))).length : Int) = ((tailT ((toks.map (fun (x : Tk × Int × Int) => x.1)).take j)).length : Int) + ((toks[j]).1.t.length : Int) + 1 := by rw [tail_succ (toks.map (fun (x : Tk × Int × Int) => x.1)) hjm, List.getElem_map]; omega
        exact ⟨j + 1, by omega, by omega, by rw [hat1]; (repeat (refine Kn.cons k rfl ?_)); exact k.base, ff, hv, hv2⟩
      · skip
        refine WL.nil ?_
        refine TW.cond rfl (fun hb => by cases hb) (fun _ => ?_)
        refine TW.exit ?_
        refine Xw.thn (by simp) ?_
        refine Xw.thn (by simp) ?_
        refine Xw.hit ?_
        refine Xw.nrm ?_
        refine TW.sreg ?_
        refine WL.call (hr := (awake_of _)) rfl rfl rfl rfl rfl (fun W => qk_rushlightlaw07_awake W _) ?_
        rintro e wq ⟨rfl, fq⟩
        refine ⟨_, rfl, ?_⟩
        replace ff := ff.trans fq
        replace hv := Row.fr hv fq (fun _ _ => id)
        replace hv2 := Row.fr hv2 fq (fun _ _ => id)
        refine WL.op rfl rfl rfl (Go.Proofs.YtoffbjfgledjfaaDoor.W.quiet_assign rfl rfl) ?_
        refine WL.nil ?_
        refine TW.rt ?_
        refine bodyw_ret rfl rfl ?_
        exact ⟨rfl, ff⟩
end Go.Proofs.YtoffbjfgledjfaaDoor
