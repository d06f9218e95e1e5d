/-
  Lex (layer 7): the walk of LexBlanks.
-/
import Derived.Test.YtoffbjfgledjfaaDoorLyQ
namespace Go.Proofs.YtoffbjfgledjfaaDoor
open Go.RowKit
set_option linter.unusedVariables false
set_option linter.unusedSimpArgs false
set_option linter.unnecessarySimpa false
theorem qi_s_string (w : World) (b o n c j : Nat) (hj : j < n) : (Instr.indexAt 35 (.slice (some ⟨b, o, none⟩) n c) (.int .i64 (j : Int))).run Tryd.prog w = .ok (.pointer (some ⟨b, o + j, none⟩)) w := by
  have h : (j : Int) < (n : Int) := by omega
  simp [go_sem, h, hj]
theorem qc_uint8_int (w : World) (m : Int) (h0 : -9223372036854775808 ≤ m) (h1 : m ≤ 9223372036854775807) : (convert 5 3 (.int .u8 m)).run Tryd.prog w = .ok (.int .i64 m) w := by
  have h : IntKind.i64.wrap m = m := IntWalk.i64_in _ (by omega)
  simp [go_sem, h]
theorem qb_rem_int (w : World) (x y : Operand) (m n : Int) (hn : n ≠ 0) (h0 : -9223372036854775808 ≤ m.tmod n) (h1 : m.tmod n ≤ 9223372036854775807) : ((do eqGuard .rem 3 x y (.int .i64 m) (.int .i64 n); binOp .rem 3 (.int .i64 m) (.int .i64 n) : Sem Value)).run Tryd.prog w = .ok (.int .i64 (m.tmod n)) w := by
  have h : IntKind.i64.wrap (m.tmod n) = m.tmod n := IntWalk.i64_in _ (by omega)
  simp [go_sem, h, hn]
theorem qv_s_string_6 (w : World) (u0_p0 : ByteArray) (u1_p0 : ByteArray) (u2_p0 : ByteArray) (u3_p0 : ByteArray) (u4_p0 : ByteArray) (u5_p0 : ByteArray) : (Instr.buildSlice 35 6 #[(0, .string u0_p0), (1, .string u1_p0), (2, .string u2_p0), (3, .string u3_p0), (4, .string u4_p0), (5, .string u5_p0)]).run Tryd.prog w = .ok (.slice (some ⟨w.heap.size, 0, none⟩) 6 6) (w.alloc (.cells #[.string u0_p0, .string u1_p0, .string u2_p0, .string u3_p0, .string u4_p0, .string u5_p0] 9)) := by simp [go_sem]
theorem qn_s_string (w : World) (a : Option Addr) (k l : Nat) : (Builtin.len_ #[35] 3 #[.slice a k l]).run Tryd.prog w = .ok (.int .i64 k) w := by simp [go_sem]
theorem str_app (a b : List UInt8) : (ByteArray.mk a.toArray ++ ByteArray.mk b.toArray) = ByteArray.mk (a ++ b).toArray := by
  apply ByteArray.ext
  simp [ByteArray.data_append]
theorem bn_cat (w : World) (x y : Operand) (a b : List UInt8) (h : a.length + b.length ≤ 140737488355328) : (do eqGuard .add 9 x y (bts a) (bts b); binOp .add 9 (bts a) (bts b) : Sem Value).run Tryd.prog w = .ok (bts (a ++ b)) w := by
  have := str_app a b
  simp [go_sem, this]; omega
def BAt (w : World) (a : Option Addr) (l : List Int) : Prop := ∀ i, i < l.length → ∃ g o, a = some ⟨g, o, none⟩ ∧ w.cell? ⟨g, o + i, none⟩ = some (.int .u8 (l.getD i 0))
theorem BAt.fr {w w' : World} {a : Option Addr} {l : List Int} (h : BAt w a l) (f : Fr (fun _ => False) w w') : BAt w' a l := fun i hi => by
  obtain ⟨g, o, e, hc⟩ := h i hi
  exact ⟨g, o, e, f.cell hc id⟩
theorem blT_app (ks : Nat → Nat) : ∀ (a b : List Tk) (i : Nat), blT ks i (a ++ b) = blT ks i a ++ blT ks (i + a.length) b
  | [], b, i => rfl
  | t :: a, b, i => by
    show t.t ++ blK (ks i) ++ blT ks (i + 1) (a ++ b) = t.t ++ blK (ks i) ++ blT ks (i + 1) a ++ blT ks (i + (a.length + 1)) b
    rw [blT_app ks a b (i + 1), List.append_assoc (t.t ++ blK (ks i)), show i + 1 + a.length = i + (a.length + 1) by omega]
theorem blT_succ (ks : Nat → Nat) (l : List Tk) {j : Nat} (hj : j < l.length) : blT ks 0 (l.take (j + 1)) = blT ks 0 (l.take j) ++ (l[j]'hj).t ++ blK (ks j) := by
  rw [List.take_add_one, List.getElem?_eq_getElem hj, Option.toList_some, blT_app, List.length_take, Nat.min_eq_left (by omega), Nat.zero_add]
  show _ ++ ((l[j]'hj).t ++ blK (ks j) ++ blT ks (j + 1) []) = _
  simp [blT]
theorem blK_len (k : Nat) : (blK k).length ≤ 12 := by
  match k with
  | 0 => decide
  | 1 => decide
  | 2 => decide
  | 3 => decide
  | 4 => decide
  | k + 5 => show 6 ≤ 12; decide
theorem blT_len (ks : Nat → Nat) : ∀ (l : List Tk) (i : Nat), (blT ks i l).length ≤ 12 * (tailT l).length
  | [], i => Nat.zero_le _
  | t :: l, i => by
    have h1 := blT_len ks l (i + 1)
    have h2 := blK_len (ks i)
    simp only [blT, tailT, List.length_append, List.length_cons]
    omega
theorem good2_all : ∀ (f : Nat) (s : List UInt8) (p : Int × Int) {x : List (Tk × Int × Int) × Int × Int}, lexF f s p = .ok x → ∀ t ∈ x.1, Good2 t.1
  | 0, s, p, x, h => by unfold lexF at h; cases h
  | f + 1, s, p, x, h => by
    unfold lexF at h
    split at h
    · cases h
    · exact good2_all f _ _ h
    · next hb =>
      split at h
      · injection h with h
        subst h
        intro t ht
        cases ht
      · next hs =>
        split at h
        · cases h
        · next t hk =>
          cases hq : lexF f (s.drop t.t.length) (afterF p t.t) with
          | error e => rw [hq] at h; simp [Except.map] at h
          | ok y =>
            rw [hq] at h
            simp only [Except.map, Except.ok.injEq] at h
            subst h
            intro u hu
            rcases List.mem_cons.1 hu with rfl | hu
            · exact (tok_good2 hs hb hk).1
            · exact good2_all f _ _ hq u hu
theorem lexM_F {s : List UInt8} {l : List Tk} (h : lexM s = .ok l) : ∃ x a, lexF (s.length + 1) s (1, 1) = .ok (x, a) ∧ x.map (·.1) = l := by
  have h2 := lexF_N (s.length + 1) s (1, 1)
  unfold lexM at h
  rw [h] at h2
  cases hq : lexF (s.length + 1) s (1, 1) with
  | error e => rw [hq] at h2; cases h2
  | ok y =>
    rw [hq] at h2
    injection h2 with h2
    exact ⟨y.1, y.2, rfl, h2⟩
def ksF (l : List Int) (i : Nat) : Nat := if i < l.length then (l.getD i 0).toNat % 6 else 0
theorem ks_lt (l : List Int) (i : Nat) : ksF l i < 6 := by
  unfold ksF
  split
  · exact Nat.mod_lt _ (by decide)
  · decide
def blA : Array Value := #[bts [32], bts [10], bts [9, 13], bts [32, 47, 42, 32, 42, 32, 47, 32, 39, 32, 42, 47], bts [32, 47, 47, 32, 47, 42, 10], bts [32, 47, 42, 42, 47, 32]]
theorem blk_cell {w : World} {g : Nat} {T : TypeId} (h : Bx w g blA T) {k : Nat} (hk : k < 6) : w.cell? ⟨g, 0 + k, none⟩ = some (bts (blK k)) := by
  rw [Nat.zero_add]
  match k, hk with
  | 0, _ => exact h.cell (j := 0) rfl
  | 1, _ => exact h.cell (j := 1) rfl
  | 2, _ => exact h.cell (j := 2) rfl
  | 3, _ => exact h.cell (j := 3) rfl
  | 4, _ => exact h.cell (j := 4) rfl
  | 5, _ => exact h.cell (j := 5) rfl
set_option maxRecDepth 100000 in
set_option maxHeartbeats 1000000 in
theorem walk_blanks (s : List UInt8) (ba : Option Addr) (bc : Nat) (l : List Int) (hlb : ∀ i, 0 ≤ l.getD i 0 ∧ l.getD i 0 ≤ 255) (w : World) (hml : MlW w) (her : ErW w) (hbt : BAt w ba l) : Calls Tryd.prog 4 #[bts s, .slice ba l.length bc] w fun e w' => e = .returned (.bool true) ∧ Fr (fun _ => False) w w' := by
  have ff := Fr.refl (fun _ => False) w
  have hbt0 := hbt
  clear hbt
  refine calls_tw Tryd.func4 rfl rfl (Nat.le_of_ble_eq_true rfl) ?_
  refine TW.sreg ?_
  refine WL.op rfl rfl rfl (Go.Proofs.YtoffbjfgledjfaaDoor.W.quiet_assign rfl rfl) ?_
  refine WL.nil ?_
  refine TW.seq ?_
  refine TW.sreg ?_
  refine WL.op rfl rfl rfl (Go.Proofs.YtoffbjfgledjfaaDoor.W.quiet_move rfl rfl) ?_
  refine O.len rfl rfl rfl rfl rfl (qn_string _ _) ?_
  refine WL.op rfl rfl rfl (Go.Proofs.YtoffbjfgledjfaaDoor.W.quiet_bin rfl rfl rfl (fun W => qb_gtr_int W _ _ _ _)) ?_
  refine O.split (fun h1 => ?_) (fun h1 => ?_)
  · skip
    refine WL.op rfl rfl rfl (Go.Proofs.YtoffbjfgledjfaaDoor.W.quiet_move rfl rfl) ?_
    refine WL.skip rfl rfl rfl ?_
    refine WL.skip rfl rfl rfl ?_
    refine WL.skip rfl rfl rfl ?_
    refine WL.op rfl rfl rfl (Go.Proofs.YtoffbjfgledjfaaDoor.W.quiet_pick rfl rfl rfl) ?_
    refine WL.nil ?_
    refine TW.cond rfl (fun _ => ?_) (fun hb => by cases hb)
    refine TW.sreg ?_
    refine WL.call (hr := (awake_of _)) rfl rfl rfl rfl rfl (fun W => qk_rushlightlaw07_awake W _) ?_
    rintro e wq ⟨rfl, fq⟩
    refine ⟨_, rfl, ?_⟩
    replace ff := ff.trans fq
    refine WL.op rfl rfl rfl (Go.Proofs.YtoffbjfgledjfaaDoor.W.quiet_assign rfl rfl) ?_
    refine WL.nil ?_
    refine TW.rt ?_
    refine Xw.thn (by simp) ?_
    refine bodyw_ret rfl rfl ?_
    exact ⟨rfl, ff⟩
  · skip
    refine WL.op rfl rfl rfl (Go.Proofs.YtoffbjfgledjfaaDoor.W.quiet_move rfl rfl) ?_
    refine WL.op rfl rfl rfl (Go.Proofs.YtoffbjfgledjfaaDoor.W.quiet_move rfl rfl) ?_
    refine O.len rfl rfl rfl rfl rfl (qn_s_uint8 _ _ _ _) ?_
    refine WL.op rfl rfl rfl (Go.Proofs.YtoffbjfgledjfaaDoor.W.quiet_bin rfl rfl rfl (fun W => qb_gtr_int W _ _ _ _)) ?_
    refine O.split (fun h2 => ?_) (fun h2 => ?_)
    · skip
      refine WL.op rfl rfl rfl (Go.Proofs.YtoffbjfgledjfaaDoor.W.quiet_pick rfl rfl rfl) ?_
      refine WL.nil ?_
      refine TW.cond rfl (fun _ => ?_) (fun hb => by cases hb)
      refine TW.sreg ?_
      refine WL.call (hr := (awake_of _)) rfl rfl rfl rfl rfl (fun W => qk_rushlightlaw07_awake W _) ?_
      rintro e wq ⟨rfl, fq⟩
      refine ⟨_, rfl, ?_⟩
      replace ff := ff.trans fq
      refine WL.op rfl rfl rfl (Go.Proofs.YtoffbjfgledjfaaDoor.W.quiet_assign rfl rfl) ?_
      refine WL.nil ?_
      refine TW.rt ?_
      refine Xw.thn (by simp) ?_
      refine bodyw_ret rfl rfl ?_
      exact ⟨rfl, ff⟩
    · skip
      have hsl : s.length ≤ 1000 := by have := of_decide_eq_false h1; omega
      rcases hx : lexF (s.length + 1) s (1, 1) with ⟨er, ap⟩ | ⟨toks, ap⟩
      · have her0 := lex_er _ _ _ hx
        refine WL.op rfl rfl rfl (Go.Proofs.YtoffbjfgledjfaaDoor.W.quiet_pick rfl rfl rfl) ?_
        refine WL.nil ?_
        refine TW.cond rfl (fun hb => by cases hb) (fun _ => ?_)
        refine TW.skip ?_
        refine TW.sreg ?_
        refine WL.op rfl rfl rfl (Go.Proofs.YtoffbjfgledjfaaDoor.W.quiet_move rfl rfl) ?_
        refine WL.call (hr := (by have z := t_lex s (by omega) w hml her; rw [hx] at z; exact z)) rfl rfl rfl rfl rfl (fun W => qk_lex_Lex W _) ?_
        rintro e w1 ⟨f1, rfl⟩
        refine ⟨.tuple #[.slice none 0 0, .agg #[.int .i64 ap.1, .int .i64 ap.2], .int .i64 er], rfl, ?_⟩
        replace ff := ff.trans f1
        refine WL.op rfl rfl rfl (Go.Proofs.YtoffbjfgledjfaaDoor.W.quiet_move rfl rfl) ?_
        refine O.ext rfl rfl rfl rfl rfl rfl ?_
        refine O.ext rfl rfl rfl rfl rfl rfl ?_
        refine O.ext rfl rfl rfl rfl rfl rfl ?_
        have lw1 := ff.size
        refine O.allocR rfl rfl rfl rfl (qzR_api_Pos w1) ?_
        rintro wa1 ⟨fa1, bx1⟩
        replace ff := ff.trans fa1
        refine WL.op rfl rfl rfl (Go.Proofs.YtoffbjfgledjfaaDoor.W.quiet_assign rfl rfl) ?_
        refine O.storeR rfl rfl rfl rfl rfl (qsA_api_Pos wa1 _ _ _ _ _ bx1) ?_
        rintro wa2 ⟨fa2, bx1x⟩
        replace ff := ff.trans' fa2 (fun q hq e => by omega)
        clear bx1
        have bx1 := bx1x
        clear bx1x
        refine WL.op rfl rfl rfl (Go.Proofs.YtoffbjfgledjfaaDoor.W.quiet_assign rfl rfl) ?_
        refine WL.nil ?_
        refine TW.seq ?_
        refine TW.sreg ?_
        refine WL.op rfl rfl rfl (Go.Proofs.YtoffbjfgledjfaaDoor.W.quiet_move rfl rfl) ?_
        refine WL.op rfl rfl rfl (Go.Proofs.YtoffbjfgledjfaaDoor.W.quiet_bin rfl rfl rfl (fun W => qb_neq_api_Errno W _ _ _ _)) ?_
        refine O.split (fun hb => ?_) (fun hb => absurd (by simpa using hb) her0)
        refine WL.nil ?_
        refine TW.cond rfl (fun _ => ?_) (fun hb => by cases hb)
        refine TW.sreg ?_
        refine WL.call (hr := (awake_of _)) rfl rfl rfl rfl rfl (fun W => qk_rushlightlaw07_awake W _) ?_
        rintro e wq ⟨rfl, fq⟩
        refine ⟨_, rfl, ?_⟩
        replace bx1 := bx1.fr fq id
        replace ff := ff.trans fq
        refine WL.op rfl rfl rfl (Go.Proofs.YtoffbjfgledjfaaDoor.W.quiet_assign rfl rfl) ?_
        refine WL.nil ?_
        refine TW.rt ?_
        refine Xw.thn (by simp) ?_
        refine bodyw_ret rfl rfl ?_
        exact ⟨rfl, ff⟩
      · obtain ⟨hlen1, hlen2⟩ := lex_len _ _ _ hx
        have hgood := good2_all _ _ _ hx
        simp only at hlen1 hlen2 hgood
        obtain ⟨B1, hB1⟩ : ∃ B, B = w.heap.size := ⟨_, rfl⟩
        refine WL.op rfl rfl rfl (Go.Proofs.YtoffbjfgledjfaaDoor.W.quiet_pick rfl rfl rfl) ?_
        refine WL.nil ?_
        refine TW.cond rfl (fun hb => by cases hb) (fun _ => ?_)
        refine TW.skip ?_
        refine TW.sreg ?_
        refine WL.op rfl rfl rfl (Go.Proofs.YtoffbjfgledjfaaDoor.W.quiet_move rfl rfl) ?_
        refine WL.call (hr := (by have z := t_lex s (by omega) w hml her; rw [hx] at z; exact z)) rfl rfl rfl rfl rfl (fun W => qk_lex_Lex W _) ?_
        rintro e w1 ⟨f1, va, vc, rfl, hv⟩
        refine ⟨.tuple #[.slice va toks.length vc, .agg #[.int .i64 ap.1, .int .i64 ap.2], .int .i64 0], rfl, ?_⟩
        replace ff := ff.trans f1
        rw [← hB1] at hv
        have hsz1 := ff.size
        refine WL.op rfl rfl rfl (Go.Proofs.YtoffbjfgledjfaaDoor.W.quiet_move rfl rfl) ?_
        refine O.ext rfl rfl rfl rfl rfl rfl ?_
        refine O.ext rfl rfl rfl rfl rfl rfl ?_
        refine O.ext rfl rfl rfl rfl rfl rfl ?_
        have lw2 := ff.size
        refine O.allocR rfl rfl rfl rfl (qzR_api_Pos w1) ?_
        rintro wa3 ⟨fa3, bx2⟩
        replace hv := Row.fr hv fa3 (fun _ _ => id)
        replace ff := ff.trans fa3
        refine WL.op rfl rfl rfl (Go.Proofs.YtoffbjfgledjfaaDoor.W.quiet_assign rfl rfl) ?_
        refine O.storeR rfl rfl rfl rfl rfl (qsA_api_Pos wa3 _ _ _ _ _ bx2) ?_
        rintro wa4 ⟨fa4, bx2x⟩
        replace hv := Row.fr hv fa4 (fun k hk e => Row.apart_typ hv bx2 (by decide) (hk.trans (congrArg some e)))
        replace ff := ff.trans' fa4 (fun q hq e => by omega)
        clear bx2
        have bx2 := bx2x
        clear bx2x
        refine WL.op rfl rfl rfl (Go.Proofs.YtoffbjfgledjfaaDoor.W.quiet_assign rfl rfl) ?_
        refine WL.nil ?_
        refine TW.seq ?_
        refine TW.sreg ?_
        refine WL.op rfl rfl rfl (Go.Proofs.YtoffbjfgledjfaaDoor.W.quiet_move rfl rfl) ?_
        refine WL.op rfl rfl rfl (Go.Proofs.YtoffbjfgledjfaaDoor.W.quiet_bin rfl rfl rfl (fun W => qb_neq_api_Errno W _ _ _ _)) ?_
        refine O.split (fun hb => by exfalso; revert hb; first | (simp; done) | (simp; omega)) (fun hb => ?_)
        refine WL.nil ?_
        refine TW.cond rfl (fun hb => by cases hb) (fun _ => ?_)
        refine TW.skip ?_
        refine TW.sreg ?_
        have lw3 := ff.size
        refine O.bslR rfl rfl rfl rfl rfl (qv_s_string_6 wa4 _ _ _ _ _ _) ?_
        rintro wa5 ⟨fa5, bx3⟩
        replace hv := Row.fr hv fa5 (fun _ _ => id)
        replace ff := ff.trans fa5
        obtain ⟨gS, hgS⟩ : ∃ gS, gS = wa4.heap.size := ⟨_, rfl⟩
        rw [← hgS] at bx3
        rw [← hgS]
        have hbs : Bx wa5 gS blA 9 := bx3
        have hbt := hbt0.fr ff
        refine WL.op rfl rfl rfl (Go.Proofs.YtoffbjfgledjfaaDoor.W.quiet_assign rfl rfl) ?_
        refine WL.nil ?_
        refine TW.sreg ?_
        refine WL.op rfl rfl rfl (Go.Proofs.YtoffbjfgledjfaaDoor.W.quiet_assign rfl rfl) ?_
        refine WL.nil ?_
        refine TW.seq ?_
        refine TW.sreg ?_
        refine WL.op rfl rfl rfl (Go.Proofs.YtoffbjfgledjfaaDoor.W.quiet_assign rfl rfl) ?_
        refine WL.nil ?_
        refine TW.block ?_
        refine O.loopG (n := toks.length) (fun a _ => (intOf (a.tmps.getD 10 undef)).toNat) (fun j a W => Kn Tryd.f4.ntmps [(1, .slice ba l.length bc), (5, .slice va toks.length vc), (8, .slice (some ⟨gS, 0, none⟩) 6 6), (9, bts (([47, 42, 42, 42, 47] : List UInt8) ++ blT (ksF l) 0 ((toks.map (fun (x : Tk × Int × Int) => x.1)).take j))), (10, .int .i64 (j : Int))] a ∧ Fr (fun _ => False) w W ∧ TR B1 W (.slice va toks.length vc) toks ∧ BAt W ba l ∧ Bx W gS blA 9) (fun j a W h => O.slotv h.1 rfl) 0 (Nat.zero_le _) (fun a k => ⟨(by (repeat (refine Kn.cons k rfl ?_)); exact k.base), ff, hv, hbt, hbs⟩) ?_
        rintro j a wl hj ⟨k, ff, hv, hbt, hbs⟩
        refine TW.app (s := [(1, .slice ba l.length bc), (5, .slice va toks.length vc), (8, .slice (some ⟨gS, 0, none⟩) 6 6), (9, bts (([47, 42, 42, 42, 47] : List UInt8) ++ blT (ksF l) 0 ((toks.map (fun (x : Tk × Int × Int) => x.1)).take j))), (10, .int .i64 (j : Int))]) ?_ k
        refine TW.seq ?_
        refine TW.sreg ?_
        refine WL.op rfl rfl rfl (Go.Proofs.YtoffbjfgledjfaaDoor.W.quiet_move rfl rfl) ?_
        refine WL.op rfl rfl rfl (Go.Proofs.YtoffbjfgledjfaaDoor.W.quiet_move rfl rfl) ?_
        refine O.len rfl rfl rfl rfl rfl (qn_s_api_Token _ _ _ _) ?_
        refine WL.op rfl rfl rfl (Go.Proofs.YtoffbjfgledjfaaDoor.W.quiet_bin rfl rfl rfl (fun W => qb_lss_int W _ _ _ _)) ?_
        refine O.split (fun b1 => ?_) (fun b1 => ?_)
        · skip
          have hj2 : j < toks.length := by have := of_decide_eq_true b1; omega
          refine WL.nil ?_
          refine TW.cond rfl (fun _ => ?_) (fun hb => by cases hb)
          refine TW.skip ?_
          refine TW.seq ?_
          refine TW.block ?_
          refine TW.sreg ?_
          refine WL.op rfl rfl rfl (Go.Proofs.YtoffbjfgledjfaaDoor.W.quiet_assign rfl rfl) ?_
          refine WL.nil ?_
          refine TW.seq ?_
          refine TW.sreg ?_
          refine WL.op rfl rfl rfl (Go.Proofs.YtoffbjfgledjfaaDoor.W.quiet_move rfl rfl) ?_
          refine WL.op rfl rfl rfl (Go.Proofs.YtoffbjfgledjfaaDoor.W.quiet_move rfl rfl) ?_
          refine O.len rfl rfl rfl rfl rfl (qn_s_uint8 _ _ _ _) ?_
          refine WL.op rfl rfl rfl (Go.Proofs.YtoffbjfgledjfaaDoor.W.quiet_bin rfl rfl rfl (fun W => qb_lss_int W _ _ _ _)) ?_
          refine O.split (fun g1 => ?_) (fun g1 => ?_)
          · skip
            have hj3 : j < l.length := by have := of_decide_eq_true g1; omega
            obtain ⟨g9, o9, hba9, hc9⟩ := hbt j hj3
            have hu9 := hlb j
            have hks : ksF l j = (l.getD j 0).toNat % 6 := by unfold ksF; rw [if_pos hj3]
            have hrm : (l.getD j 0).tmod 6 = ((ksF l j : Nat) : Int) := by rw [hks, Int.tmod_eq_emod_of_nonneg hu9.1]; omega
            refine WL.nil ?_
            refine TW.cond rfl (fun _ => ?_) (fun hb => by cases hb)
            refine TW.reg ?_
            refine WL.op rfl rfl rfl (Go.Proofs.YtoffbjfgledjfaaDoor.W.quiet_move rfl rfl) ?_
            refine WL.op rfl rfl rfl (Go.Proofs.YtoffbjfgledjfaaDoor.W.quiet_move rfl rfl) ?_
            refine O.ixa rfl rfl rfl rfl rfl rfl (by rw [hba9]; exact qi_s_uint8 _ _ _ _ _ _ (by omega)) ?_
            refine WL.ld rfl rfl rfl rfl rfl (ql_uint8 _ _ _ hc9) ?_
            refine O.cv rfl rfl rfl rfl rfl (qc_uint8_int _ _ (by omega) (by omega)) ?_
            refine WL.op rfl rfl rfl (Go.Proofs.YtoffbjfgledjfaaDoor.W.quiet_move rfl rfl) ?_
            refine O.len rfl rfl rfl rfl rfl (qn_s_string _ _ _ _) ?_
            refine WL.op rfl rfl rfl (Go.Proofs.YtoffbjfgledjfaaDoor.W.quiet_bin rfl rfl rfl (fun W => (qb_rem_int W _ _ (l.getD j 0) 6 (by decide) (by omega) (by omega)).trans (by rw [hrm]))) ?_
            have hx1 : toks[j]? = some toks[j] := List.getElem?_eq_getElem hj2
            obtain ⟨g, cp, hge, hgo⟩ := Row.own hv (by omega)
            injection hge with hva _ hvc
            subst hva
            have hc1 : ∀ i u, (tkCs (toks[j]))[i]? = some u → wl.cell? ⟨g, 0 + j * 5 + i, none⟩ = some u := fun i u hu => Row.cell (f := tkCs) (c := 5) (fun _ => rfl) hv hx1 hu (by omega)
            have htl9 := tok_in hj2
            have hbl9 := blT_len (ksF l) ((toks.map (fun (x : Tk × Int × Int) => x.1)).take j) 0
            have hkl9 := blK_len (ksF l j)
            have htt9 := tail_take (toks.map (fun (x : Tk × Int × Int) => x.1)) j
            have hxl9 : (([47, 42, 42, 42, 47] : List UInt8) ++ blT (ksF l) 0 ((toks.map (fun (x : Tk × Int × Int) => x.1)).take j)).length ≤ 30000 := by rw [List.length_append]; show 5 + _ ≤ _; omega
            refine WL.op rfl rfl rfl (Go.Proofs.YtoffbjfgledjfaaDoor.W.quiet_assign rfl rfl) ?_
            refine WL.nil ?_
            have hbs0 := hbs
            refine TW.regH (fun W => Fr (fun _ => False) wl W) (by kernel_rfl) ?_
            have fd : Fr (fun _ => False) wl wl.drew := (Fr.refl _ _).drewN 1
            have HW : Fr (fun _ => False) wl wl.drew := (Fr.refl _ _).drewN 1
            replace ff := ff.trans fd
            replace hv := Row.fr hv fd (fun _ _ => id)
            replace hbt := hbt.fr fd
            replace hbs := Bx.fr hbs fd id
            generalize hV : wl.drew = V1 at *
            clear hV
            refine WH.take 0 rfl (by kernel_rfl) (by kernel_rfl) (by kernel_rfl) (fun _ _ _ _ _ h => h) rfl rfl rfl HW (RH.move rfl rfl) ?_
            refine WH.take 1 rfl (by kernel_rfl) (by kernel_rfl) (by kernel_rfl) (fun _ _ _ _ _ h => h) rfl rfl rfl HW (RH.move rfl rfl) ?_
            refine WH.take 2 rfl (by kernel_rfl) (by kernel_rfl) (by kernel_rfl) (fun _ _ _ _ _ h => h) rfl rfl rfl HW (RH.move rfl rfl) ?_
            refine WH.take 3 rfl (by kernel_rfl) (by kernel_rfl) (by kernel_rfl) (fun _ _ _ _ _ h => h) rfl rfl rfl HW (RH.index rfl rfl rfl (fun W => (qi_s_api_Token _ _ _ _ _ _ (by omega)))) ?_
            refine WH.take 4 rfl (by kernel_rfl) (by kernel_rfl) (by kernel_rfl) (fun _ _ _ _ _ h => h) rfl rfl rfl HW (RH.field rfl rfl (fun W => qa_api_Token_1 W _ _)) ?_
            refine WH.take 5 rfl (by kernel_rfl) (by kernel_rfl) (by kernel_rfl) (fun _ _ _ _ _ h => h) rfl rfl rfl HW (RH.load rfl rfl (fun W hW => (ql_string _ _ _ (hW.cell (hc1 1 _ rfl) id)))) ?_
            refine WH.take 6 rfl (by kernel_rfl) (by kernel_rfl) (by kernel_rfl) (fun _ _ _ _ _ h => h) rfl rfl rfl HW (RH.bin rfl rfl rfl (fun W => bn_cat W _ _ _ _ (by omega))) ?_
            refine WH.take 7 rfl (by kernel_rfl) (by kernel_rfl) (by kernel_rfl) (fun _ _ _ _ _ h => h) rfl rfl rfl HW (RH.move rfl rfl) ?_
            refine WH.take 8 rfl (by kernel_rfl) (by kernel_rfl) (by kernel_rfl) (fun _ _ _ _ _ h => h) rfl rfl rfl HW (RH.move rfl rfl) ?_
            refine WH.take 9 rfl (by kernel_rfl) (by kernel_rfl) (by kernel_rfl) (fun _ _ _ _ _ h => h) rfl rfl rfl HW (RH.index rfl rfl rfl (fun W => (qi_s_string _ _ _ _ _ (ksF l j) (by first | exact ks_lt _ _ | decide)))) ?_
            refine WH.take 10 rfl (by kernel_rfl) (by kernel_rfl) (by kernel_rfl) (fun _ _ _ _ _ h => h) rfl rfl rfl HW (RH.load rfl rfl (fun W hW => (ql_string _ _ _ (hW.cell (blk_cell hbs0 (k := (ksF l j)) (by first | exact ks_lt _ _ | decide)) id)))) ?_
            refine WH.take 11 rfl (by kernel_rfl) (by kernel_rfl) (by kernel_rfl) (fun _ _ _ _ _ h => h) rfl rfl rfl HW (RH.bin rfl rfl rfl (fun W => bn_cat W _ _ _ _ (by rw [List.length_append]; omega))) ?_
            refine WH.take 12 rfl (by kernel_rfl) (by kernel_rfl) (by kernel_rfl) (fun _ _ _ _ _ h => h) rfl rfl rfl HW (RH.assign rfl rfl) ?_
            refine WH.end (by kernel_rfl) ?_
            refine Xw.nblk ?_
            refine Xw.nrm ?_
            refine TW.reg ?_
            refine WL.op rfl rfl rfl (Go.Proofs.YtoffbjfgledjfaaDoor.W.quiet_move rfl rfl) ?_
            refine WL.op rfl rfl rfl (Go.Proofs.YtoffbjfgledjfaaDoor.W.quiet_bin rfl rfl rfl (fun W => qb_add_int W _ _ _ _ (by omega) (by omega))) ?_
            refine WL.op rfl rfl rfl (Go.Proofs.YtoffbjfgledjfaaDoor.W.quiet_assign rfl rfl) ?_
            refine WL.end ?_
            refine Xw.any (fun a k => ?_)
            have hbx : ([47, 42, 42, 42, 47] : List UInt8) ++ blT (ksF l) 0 ((toks.map (fun (x : Tk × Int × Int) => x.1)).take (j + 1)) = (([47, 42, 42, 42, 47] : List UInt8) ++ blT (ksF l) 0 ((toks.map (fun (x : Tk × Int × Int) => x.1)).take j)) ++ (toks[j]).1.t ++ blK (ksF l j) := by rw [blT_succ (ksF l) (toks.map (fun (x : Tk × Int × Int) => x.1)) (by rw [List.length_map]; exact hj2), List.getElem_map]; simp only [List.append_assoc]
            exact ⟨j + 1, by omega, by omega, by rw [hbx]; first | ((repeat (refine Kn.cons k rfl ?_)); exact k.base; done) | (rw [hks]; (repeat (refine Kn.cons k rfl ?_)); exact k.base; done), ff, hv, hbt, hbs⟩
          · skip
            have hj3 : ¬j < l.length := by have := of_decide_eq_false g1; omega
            have hks : ksF l j = 0 := by unfold ksF; rw [if_neg hj3]
            have hx1 : toks[j]? = some toks[j] := List.getElem?_eq_getElem hj2
            obtain ⟨g, cp, hge, hgo⟩ := Row.own hv (by omega)
            injection hge with hva _ hvc
            subst hva
            have hc1 : ∀ i u, (tkCs (toks[j]))[i]? = some u → wl.cell? ⟨g, 0 + j * 5 + i, none⟩ = some u := fun i u hu => Row.cell (f := tkCs) (c := 5) (fun _ => rfl) hv hx1 hu (by omega)
            have htl9 := tok_in hj2
            have hbl9 := blT_len (ksF l) ((toks.map (fun (x : Tk × Int × Int) => x.1)).take j) 0
            have hkl9 := blK_len 0
            have htt9 := tail_take (toks.map (fun (x : Tk × Int × Int) => x.1)) j
            have hxl9 : (([47, 42, 42, 42, 47] : List UInt8) ++ blT (ksF l) 0 ((toks.map (fun (x : Tk × Int × Int) => x.1)).take j)).length ≤ 30000 := by rw [List.length_append]; show 5 + _ ≤ _; omega
            refine WL.nil ?_
            refine TW.cond rfl (fun hb => by cases hb) (fun _ => ?_)
            refine TW.skip ?_
            have hbs0 := hbs
            refine TW.regH (fun W => Fr (fun _ => False) wl W) (by kernel_rfl) ?_
            have fd : Fr (fun _ => False) wl wl.drew := (Fr.refl _ _).drewN 1
            have HW : Fr (fun _ => False) wl wl.drew := (Fr.refl _ _).drewN 1
            replace ff := ff.trans fd
            replace hv := Row.fr hv fd (fun _ _ => id)
            replace hbt := hbt.fr fd
            replace hbs := Bx.fr hbs fd id
            generalize hV : wl.drew = V2 at *
            clear hV
            refine WH.take 0 rfl (by kernel_rfl) (by kernel_rfl) (by kernel_rfl) (fun _ _ _ _ _ h => h) rfl rfl rfl HW (RH.move rfl rfl) ?_
            refine WH.take 1 rfl (by kernel_rfl) (by kernel_rfl) (by kernel_rfl) (fun _ _ _ _ _ h => h) rfl rfl rfl HW (RH.move rfl rfl) ?_
            refine WH.take 2 rfl (by kernel_rfl) (by kernel_rfl) (by kernel_rfl) (fun _ _ _ _ _ h => h) rfl rfl rfl HW (RH.move rfl rfl) ?_
            refine WH.take 3 rfl (by kernel_rfl) (by kernel_rfl) (by kernel_rfl) (fun _ _ _ _ _ h => h) rfl rfl rfl HW (RH.index rfl rfl rfl (fun W => (qi_s_api_Token _ _ _ _ _ _ (by omega)))) ?_
            refine WH.take 4 rfl (by kernel_rfl) (by kernel_rfl) (by kernel_rfl) (fun _ _ _ _ _ h => h) rfl rfl rfl HW (RH.field rfl rfl (fun W => qa_api_Token_1 W _ _)) ?_
            refine WH.take 5 rfl (by kernel_rfl) (by kernel_rfl) (by kernel_rfl) (fun _ _ _ _ _ h => h) rfl rfl rfl HW (RH.load rfl rfl (fun W hW => (ql_string _ _ _ (hW.cell (hc1 1 _ rfl) id)))) ?_
            refine WH.take 6 rfl (by kernel_rfl) (by kernel_rfl) (by kernel_rfl) (fun _ _ _ _ _ h => h) rfl rfl rfl HW (RH.bin rfl rfl rfl (fun W => bn_cat W _ _ _ _ (by omega))) ?_
            refine WH.take 7 rfl (by kernel_rfl) (by kernel_rfl) (by kernel_rfl) (fun _ _ _ _ _ h => h) rfl rfl rfl HW (RH.move rfl rfl) ?_
            refine WH.take 8 rfl (by kernel_rfl) (by kernel_rfl) (by kernel_rfl) (fun _ _ _ _ _ h => h) rfl rfl rfl HW (RH.move rfl rfl) ?_
            refine WH.take 9 rfl (by kernel_rfl) (by kernel_rfl) (by kernel_rfl) (fun _ _ _ _ _ h => h) rfl rfl rfl HW (RH.index rfl rfl rfl (fun W => (qi_s_string _ _ _ _ _ 0 (by first | exact ks_lt _ _ | decide)))) ?_
            refine WH.take 10 rfl (by kernel_rfl) (by kernel_rfl) (by kernel_rfl) (fun _ _ _ _ _ h => h) rfl rfl rfl HW (RH.load rfl rfl (fun W hW => (ql_string _ _ _ (hW.cell (blk_cell hbs0 (k := 0) (by first | exact ks_lt _ _ | decide)) id)))) ?_
            refine WH.take 11 rfl (by kernel_rfl) (by kernel_rfl) (by kernel_rfl) (fun _ _ _ _ _ h => h) rfl rfl rfl HW (RH.bin rfl rfl rfl (fun W => bn_cat W _ _ _ _ (by rw [List.length_append]; omega))) ?_
            refine WH.take 12 rfl (by kernel_rfl) (by kernel_rfl) (by kernel_rfl) (fun _ _ _ _ _ h => h) rfl rfl rfl HW (RH.assign rfl rfl) ?_
            refine WH.end (by kernel_rfl) ?_
            refine Xw.nblk ?_
            refine Xw.nrm ?_
            refine TW.reg ?_
            refine WL.op rfl rfl rfl (Go.Proofs.YtoffbjfgledjfaaDoor.W.quiet_move rfl rfl) ?_
            refine WL.op rfl rfl rfl (Go.Proofs.YtoffbjfgledjfaaDoor.W.quiet_bin rfl rfl rfl (fun W => qb_add_int W _ _ _ _ (by omega) (by omega))) ?_
            refine WL.op rfl rfl rfl (Go.Proofs.YtoffbjfgledjfaaDoor.W.quiet_assign rfl rfl) ?_
            refine WL.end ?_
            refine Xw.any (fun a k => ?_)
            have hbx : ([47, 42, 42, 42, 47] : List UInt8) ++ blT (ksF l) 0 ((toks.map (fun (x : Tk × Int × Int) => x.1)).take (j + 1)) = (([47, 42, 42, 42, 47] : List UInt8) ++ blT (ksF l) 0 ((toks.map (fun (x : Tk × Int × Int) => x.1)).take j)) ++ (toks[j]).1.t ++ blK (ksF l j) := by rw [blT_succ (ksF l) (toks.map (fun (x : Tk × Int × Int) => x.1)) (by rw [List.length_map]; exact hj2), List.getElem_map]; simp only [List.append_assoc]
            exact ⟨j + 1, by omega, by omega, by rw [hbx]; first | ((repeat (refine Kn.cons k rfl ?_)); exact k.base; done) | (rw [hks]; (repeat (refine Kn.cons k rfl ?_)); exact k.base; done), ff, hv, hbt, hbs⟩
        · skip
          have hje : j = toks.length := by have := of_decide_eq_false b1; omega
          have htk : (toks.map (fun (x : Tk × Int × Int) => x.1)).take j = (toks.map (fun (x : Tk × Int × Int) => x.1)) := List.take_of_length_le (by rw [List.length_map]; omega)
          rw [htk]
          have hbl9 := blT_len (ksF l) (toks.map (fun (x : Tk × Int × Int) => x.1)) 0
          have hxl9 : (([47, 42, 42, 42, 47] : List UInt8) ++ blT (ksF l) 0 (toks.map (fun (x : Tk × Int × Int) => x.1))).length ≤ 30000 := by rw [List.length_append]; show 5 + _ ≤ _; omega
          obtain ⟨toks2, ap2, hx2, hm2⟩ := lexM_F (lex_all (ksF l) (toks.map (fun (x : Tk × Int × Int) => x.1)) (fun t ht => by obtain ⟨x, hx9, rfl⟩ := List.mem_map.1 ht; exact hgood x hx9))
          have hl2 : toks2.length = toks.length := by have := congrArg List.length hm2; simpa using this
          refine WL.nil ?_
          refine TW.cond rfl (fun hb => by cases hb) (fun _ => ?_)
          refine TW.exit ?_
          refine Xw.thn (by simp) ?_
          refine Xw.thn (by simp) ?_
          refine Xw.hit ?_
          refine Xw.nrm ?_
          refine TW.sreg ?_
          refine WL.op rfl rfl rfl (Go.Proofs.YtoffbjfgledjfaaDoor.W.quiet_move rfl rfl) ?_
          refine WL.op rfl rfl rfl (Go.Proofs.YtoffbjfgledjfaaDoor.W.quiet_bin rfl rfl rfl (fun W => bn_cat W _ _ _ _ (by simp only [List.length_cons, List.length_nil]; omega))) ?_
          refine WL.call (hr := (by have z := t_lex (([47, 42, 42, 42, 47] : List UInt8) ++ blT (ksF l) 0 (toks.map (fun (x : Tk × Int × Int) => x.1)) ++ [47, 47]) (by rw [List.length_append]; simp only [List.length_cons, List.length_nil]; omega) wl (hml.fr ff id) (her.fr ff id id); rw [hx2] at z; exact z)) rfl rfl rfl rfl rfl (fun W => qk_lex_Lex W _) ?_
          rintro e w3 ⟨f3, va2, vc2, rfl, hv2⟩
          refine ⟨.tuple #[.slice va2 toks2.length vc2, .agg #[.int .i64 ap2.1, .int .i64 ap2.2], .int .i64 0], rfl, ?_⟩
          replace ff := ff.trans f3
          replace hv := Row.fr hv f3 (fun _ _ => id)
          obtain ⟨B2, hBB⟩ : ∃ B, B = wl.heap.size := ⟨_, rfl⟩
          rw [← hBB] at hv2
          have hsz3 := ff.size
          refine WL.op rfl rfl rfl (Go.Proofs.YtoffbjfgledjfaaDoor.W.quiet_move rfl rfl) ?_
          refine O.ext rfl rfl rfl rfl rfl rfl ?_
          refine O.ext rfl rfl rfl rfl rfl rfl ?_
          refine O.ext rfl rfl rfl rfl rfl rfl ?_
          refine O.allocR rfl rfl rfl rfl (qzR_api_Pos w3) ?_
          rintro wa6 ⟨fa6, bx4⟩
          replace ff := ff.trans fa6
          replace hv := Row.fr hv fa6 (fun _ _ => id)
          replace hv2 := Row.fr hv2 fa6 (fun _ _ => id)
          refine WL.op rfl rfl rfl (Go.Proofs.YtoffbjfgledjfaaDoor.W.quiet_assign rfl rfl) ?_
          refine O.storeR rfl rfl rfl rfl rfl (qsA_api_Pos wa6 _ _ _ _ _ bx4) ?_
          rintro wa7 ⟨fa7, bx4x⟩
          replace ff := ff.trans' fa7 (fun q hq e => by omega)
          replace hv := Row.fr hv fa7 (fun k hk e => Row.apart_typ hv bx4 (by decide) (hk.trans (congrArg some e)))
          replace hv2 := Row.fr hv2 fa7 (fun k hk e => Row.apart_typ hv2 bx4 (by decide) (hk.trans (congrArg some e)))
          clear bx4
          have bx4 := bx4x
          clear bx4x
          refine WL.op rfl rfl rfl (Go.Proofs.YtoffbjfgledjfaaDoor.W.quiet_assign rfl rfl) ?_
          refine WL.nil ?_
          refine TW.seq ?_
          refine TW.sreg ?_
          refine WL.op rfl rfl rfl (Go.Proofs.YtoffbjfgledjfaaDoor.W.quiet_move rfl rfl) ?_
          refine WL.op rfl rfl rfl (Go.Proofs.YtoffbjfgledjfaaDoor.W.quiet_bin rfl rfl rfl (fun W => qb_neq_api_Errno W _ _ _ _)) ?_
          refine O.split (fun hb => by exfalso; revert hb; first | (simp; done) | (simp; omega)) (fun hb => ?_)
          refine WL.op rfl rfl rfl (Go.Proofs.YtoffbjfgledjfaaDoor.W.quiet_move rfl rfl) ?_
          refine WL.op rfl rfl rfl (Go.Proofs.YtoffbjfgledjfaaDoor.W.quiet_move rfl rfl) ?_
          refine O.len rfl rfl rfl rfl rfl (qn_s_api_Token _ _ _ _) ?_
          refine WL.op rfl rfl rfl (Go.Proofs.YtoffbjfgledjfaaDoor.W.quiet_move rfl rfl) ?_
          refine O.len rfl rfl rfl rfl rfl (qn_s_api_Token _ _ _ _) ?_
          refine WL.op rfl rfl rfl (Go.Proofs.YtoffbjfgledjfaaDoor.W.quiet_bin rfl rfl rfl (fun W => qb_neq_int W _ _ _ _)) ?_
          refine O.split (fun hb => absurd hb (by rw [hl2]; simp)) (fun hb => ?_)
          refine WL.op rfl rfl rfl (Go.Proofs.YtoffbjfgledjfaaDoor.W.quiet_pick rfl rfl rfl) ?_
          refine WL.nil ?_
          refine TW.cond rfl (fun hb => by cases hb) (fun _ => ?_)
          refine TW.skip ?_
          refine TW.seq ?_
          refine TW.sreg ?_
          refine WL.op rfl rfl rfl (Go.Proofs.YtoffbjfgledjfaaDoor.W.quiet_assign rfl rfl) ?_
          refine WL.nil ?_
          refine TW.block ?_
          refine O.loopG (n := toks.length) (fun a _ => (intOf (a.tmps.getD 15 undef)).toNat) (fun j a W => Kn Tryd.f4.ntmps [(5, .slice va toks.length vc), (12, .slice va2 toks2.length vc2), (15, .int .i64 (j : Int))] a ∧ Fr (fun _ => False) w W ∧ TR B1 W (.slice va toks.length vc) toks ∧ TR B2 W (.slice va2 toks2.length vc2) toks2) (fun j a W h => O.slotv h.1 rfl) 0 (Nat.zero_le _) (fun a k => ⟨(by (repeat (refine Kn.cons k rfl ?_)); exact k.base), ff, hv, hv2⟩) ?_
          rintro j a wm hj ⟨k, ff, hv, hv2⟩
          refine TW.app (s := [(5, .slice va toks.length vc), (12, .slice va2 toks2.length vc2), (15, .int .i64 (j : Int))]) ?_ k
          refine TW.seq ?_
          refine TW.sreg ?_
          refine WL.op rfl rfl rfl (Go.Proofs.YtoffbjfgledjfaaDoor.W.quiet_move rfl rfl) ?_
          refine WL.op rfl rfl rfl (Go.Proofs.YtoffbjfgledjfaaDoor.W.quiet_move rfl rfl) ?_
          refine O.len rfl rfl rfl rfl rfl (qn_s_api_Token _ _ _ _) ?_
          refine WL.op rfl rfl rfl (Go.Proofs.YtoffbjfgledjfaaDoor.W.quiet_bin rfl rfl rfl (fun W => qb_lss_int W _ _ _ _)) ?_
          refine O.split (fun d1 => ?_) (fun d1 => ?_)
          · skip
            have hj2 : j < toks.length := by have := of_decide_eq_true d1; omega
            have hx1 : toks[j]? = some toks[j] := List.getElem?_eq_getElem hj2
            have hx2 : toks2[j]? = some ((toks[j]).1, (toks2[j]).2.1, (toks2[j]).2.2) := by
              have q : (toks2.map (·.1))[j]? = (toks.map (·.1))[j]? := by rw [hm2]
              rw [List.getElem?_map, List.getElem?_map, hx1, List.getElem?_eq_getElem (show j < toks2.length by omega)] at q
              rw [List.getElem?_eq_getElem (show j < toks2.length by omega)]
              simp only [Option.map_some, Option.some.injEq] at q
              rw [← q]
            obtain ⟨g, cp, hge, hgo⟩ := Row.own hv (by omega)
            injection hge with hva _ hvc
            subst hva
            obtain ⟨g2, cp2, hge2, hgo2⟩ := Row.own hv2 (by omega)
            injection hge2 with hva2 _ hvc2
            subst hva2
            have hc1 : ∀ i u, (tkCs (toks[j]))[i]? = some u → wm.cell? ⟨g, 0 + j * 5 + i, none⟩ = some u := fun i u hu => Row.cell (f := tkCs) (c := 5) (fun _ => rfl) hv hx1 hu (by omega)
            have hc2 : ∀ i u, (tkCs ((toks[j]).1, (toks2[j]).2.1, (toks2[j]).2.2))[i]? = some u → wm.cell? ⟨g2, 0 + j * 5 + i, none⟩ = some u := fun i u hu => Row.cell (f := tkCs) (c := 5) (fun _ => rfl) hv2 hx2 hu (by omega)
            refine WL.nil ?_
            refine TW.cond rfl (fun _ => ?_) (fun hb => by cases hb)
            refine TW.skip ?_
            refine TW.seq ?_
            refine TW.block ?_
            refine TW.sregH (fun W => Fr (fun _ => False) wm W) (by kernel_rfl) ?_
            have fd : Fr (fun _ => False) wm wm.drew := (Fr.refl _ _).drewN 1
            have HW : Fr (fun _ => False) wm wm.drew := (Fr.refl _ _).drewN 1
            replace ff := ff.trans fd
            replace hv := Row.fr hv fd (fun _ _ => id)
            replace hv2 := Row.fr hv2 fd (fun _ _ => id)
            generalize hV : wm.drew = V3 at *
            clear hV
            refine WH.take 0 rfl (by kernel_rfl) (by kernel_rfl) (by kernel_rfl) (fun _ _ _ _ _ h => h) rfl rfl rfl HW (RH.move rfl rfl) ?_
            refine WH.take 1 rfl (by kernel_rfl) (by kernel_rfl) (by kernel_rfl) (fun _ _ _ _ _ h => h) rfl rfl rfl HW (RH.move rfl rfl) ?_
            refine WH.take 2 rfl (by kernel_rfl) (by kernel_rfl) (by kernel_rfl) (fun _ _ _ _ _ h => h) rfl rfl rfl HW (RH.index rfl rfl rfl (fun W => (qi_s_api_Token _ _ _ _ _ _ (by omega)))) ?_
            refine WH.take 3 rfl (by kernel_rfl) (by kernel_rfl) (by kernel_rfl) (fun _ _ _ _ _ h => h) rfl rfl rfl HW (RH.field rfl rfl (fun W => qa_api_Token_0 W _ _)) ?_
            refine WH.take 4 rfl (by kernel_rfl) (by kernel_rfl) (by kernel_rfl) (fun _ _ _ _ _ h => h) rfl rfl rfl HW (RH.load rfl rfl (fun W hW => (ql_int _ _ _ (hW.cell (hc2 0 _ rfl) id)))) ?_
            refine WH.take 5 rfl (by kernel_rfl) (by kernel_rfl) (by kernel_rfl) (fun _ _ _ _ _ h => h) rfl rfl rfl HW (RH.move rfl rfl) ?_
            refine WH.take 6 rfl (by kernel_rfl) (by kernel_rfl) (by kernel_rfl) (fun _ _ _ _ _ h => h) rfl rfl rfl HW (RH.move rfl rfl) ?_
            refine WH.take 7 rfl (by kernel_rfl) (by kernel_rfl) (by kernel_rfl) (fun _ _ _ _ _ h => h) rfl rfl rfl HW (RH.index rfl rfl rfl (fun W => (qi_s_api_Token _ _ _ _ _ _ (by omega)))) ?_
            refine WH.take 8 rfl (by kernel_rfl) (by kernel_rfl) (by kernel_rfl) (fun _ _ _ _ _ h => h) rfl rfl rfl HW (RH.field rfl rfl (fun W => qa_api_Token_0 W _ _)) ?_
            refine WH.take 9 rfl (by kernel_rfl) (by kernel_rfl) (by kernel_rfl) (fun _ _ _ _ _ h => h) rfl rfl rfl HW (RH.load rfl rfl (fun W hW => (ql_int _ _ _ (hW.cell (hc1 0 _ rfl) id)))) ?_
            refine WH.take 10 rfl (by kernel_rfl) (by kernel_rfl) (by kernel_rfl) (fun _ _ _ _ _ h => h) rfl rfl rfl HW (RH.bin rfl rfl rfl (fun W => qb_neq_int W _ _ _ _)) ?_
            refine WH.split (fun hb => by exfalso; revert hb; first | (simp; done) | (simp; omega)) (fun hb => ?_)
            refine WH.take 11 rfl (by kernel_rfl) (by kernel_rfl) (by kernel_rfl) (fun _ _ _ _ _ h => h) rfl rfl rfl HW (RH.move rfl rfl) ?_
            refine WH.take 12 rfl (by kernel_rfl) (by kernel_rfl) (by kernel_rfl) (fun _ _ _ _ _ h => h) rfl rfl rfl HW (RH.move rfl rfl) ?_
            refine WH.take 13 rfl (by kernel_rfl) (by kernel_rfl) (by kernel_rfl) (fun _ _ _ _ _ h => h) rfl rfl rfl HW (RH.move rfl rfl) ?_
            refine WH.take 14 rfl (by kernel_rfl) (by kernel_rfl) (by kernel_rfl) (fun _ _ _ _ _ h => h) rfl rfl rfl HW (RH.index rfl rfl rfl (fun W => (qi_s_api_Token _ _ _ _ _ _ (by omega)))) ?_
            refine WH.take 15 rfl (by kernel_rfl) (by kernel_rfl) (by kernel_rfl) (fun _ _ _ _ _ h => h) rfl rfl rfl HW (RH.field rfl rfl (fun W => qa_api_Token_1 W _ _)) ?_
            refine WH.take 16 rfl (by kernel_rfl) (by kernel_rfl) (by kernel_rfl) (fun _ _ _ _ _ h => h) rfl rfl rfl HW (RH.load rfl rfl (fun W hW => (ql_string _ _ _ (hW.cell (hc2 1 _ rfl) id)))) ?_
            refine WH.take 17 rfl (by kernel_rfl) (by kernel_rfl) (by kernel_rfl) (fun _ _ _ _ _ h => h) rfl rfl rfl HW (RH.move rfl rfl) ?_
            refine WH.take 18 rfl (by kernel_rfl) (by kernel_rfl) (by kernel_rfl) (fun _ _ _ _ _ h => h) rfl rfl rfl HW (RH.move rfl rfl) ?_
            refine WH.take 19 rfl (by kernel_rfl) (by kernel_rfl) (by kernel_rfl) (fun _ _ _ _ _ h => h) rfl rfl rfl HW (RH.index rfl rfl rfl (fun W => (qi_s_api_Token _ _ _ _ _ _ (by omega)))) ?_
            refine WH.take 20 rfl (by kernel_rfl) (by kernel_rfl) (by kernel_rfl) (fun _ _ _ _ _ h => h) rfl rfl rfl HW (RH.field rfl rfl (fun W => qa_api_Token_1 W _ _)) ?_
            refine WH.take 21 rfl (by kernel_rfl) (by kernel_rfl) (by kernel_rfl) (fun _ _ _ _ _ h => h) rfl rfl rfl HW (RH.load rfl rfl (fun W hW => (ql_string _ _ _ (hW.cell (hc1 1 _ rfl) id)))) ?_
            refine WH.take 22 rfl (by kernel_rfl) (by kernel_rfl) (by kernel_rfl) (fun _ _ _ _ _ h => h) rfl rfl rfl HW (RH.bin rfl rfl rfl (fun W => bn_nes W _ _ (toks[j]).1.t)) ?_
            refine WH.split (fun hb => by exfalso; revert hb; first | (simp; done) | (simp; omega)) (fun hb => ?_)
            refine WH.take 23 rfl (by kernel_rfl) (by kernel_rfl) (by kernel_rfl) (fun _ _ _ _ _ h => h) rfl rfl rfl HW (RH.pick rfl rfl rfl) ?_
            refine WH.take 24 rfl (by kernel_rfl) (by kernel_rfl) (by kernel_rfl) (fun _ _ _ _ _ h => h) rfl rfl rfl HW (RH.move rfl rfl) ?_
            refine WH.take 25 rfl (by kernel_rfl) (by kernel_rfl) (by kernel_rfl) (fun _ _ _ _ _ h => h) rfl rfl rfl HW (RH.move rfl rfl) ?_
            refine WH.take 26 rfl (by kernel_rfl) (by kernel_rfl) (by kernel_rfl) (fun _ _ _ _ _ h => h) rfl rfl rfl HW (RH.move rfl rfl) ?_
            refine WH.take 27 rfl (by kernel_rfl) (by kernel_rfl) (by kernel_rfl) (fun _ _ _ _ _ h => h) rfl rfl rfl HW (RH.index rfl rfl rfl (fun W => (qi_s_api_Token _ _ _ _ _ _ (by omega)))) ?_
            refine WH.take 28 rfl (by kernel_rfl) (by kernel_rfl) (by kernel_rfl) (fun _ _ _ _ _ h => h) rfl rfl rfl HW (RH.field rfl rfl (fun W => qa_api_Token_2 W _ _)) ?_
            refine WH.take 29 rfl (by kernel_rfl) (by kernel_rfl) (by kernel_rfl) (fun _ _ _ _ _ h => h) rfl rfl rfl HW (RH.load rfl rfl (fun W hW => (ql_uint32 _ _ _ (hW.cell (hc2 2 _ rfl) id)))) ?_
            refine WH.take 30 rfl (by kernel_rfl) (by kernel_rfl) (by kernel_rfl) (fun _ _ _ _ _ h => h) rfl rfl rfl HW (RH.move rfl rfl) ?_
            refine WH.take 31 rfl (by kernel_rfl) (by kernel_rfl) (by kernel_rfl) (fun _ _ _ _ _ h => h) rfl rfl rfl HW (RH.move rfl rfl) ?_
            refine WH.take 32 rfl (by kernel_rfl) (by kernel_rfl) (by kernel_rfl) (fun _ _ _ _ _ h => h) rfl rfl rfl HW (RH.index rfl rfl rfl (fun W => (qi_s_api_Token _ _ _ _ _ _ (by omega)))) ?_
            refine WH.take 33 rfl (by kernel_rfl) (by kernel_rfl) (by kernel_rfl) (fun _ _ _ _ _ h => h) rfl rfl rfl HW (RH.field rfl rfl (fun W => qa_api_Token_2 W _ _)) ?_
            refine WH.take 34 rfl (by kernel_rfl) (by kernel_rfl) (by kernel_rfl) (fun _ _ _ _ _ h => h) rfl rfl rfl HW (RH.load rfl rfl (fun W hW => (ql_uint32 _ _ _ (hW.cell (hc1 2 _ rfl) id)))) ?_
            refine WH.take 35 rfl (by kernel_rfl) (by kernel_rfl) (by kernel_rfl) (fun _ _ _ _ _ h => h) rfl rfl rfl HW (RH.bin rfl rfl rfl (fun W => qb_neq_uint32 W _ _ _ _)) ?_
            refine WH.split (fun hb => by exfalso; revert hb; first | (simp; done) | (simp; omega)) (fun hb => ?_)
            refine WH.take 36 rfl (by kernel_rfl) (by kernel_rfl) (by kernel_rfl) (fun _ _ _ _ _ h => h) rfl rfl rfl HW (RH.pick rfl rfl rfl) ?_
            refine WH.done (by kernel_rfl) ?_
            refine TW.cond rfl (fun hb => by cases hb) (fun _ => ?_)
            refine TW.skipx ?_
            refine Xw.nblk ?_
            refine Xw.nrm ?_
            refine TW.reg ?_
            refine WL.op rfl rfl rfl (Go.Proofs.YtoffbjfgledjfaaDoor.W.quiet_move rfl rfl) ?_
            refine WL.op rfl rfl rfl (Go.Proofs.YtoffbjfgledjfaaDoor.W.quiet_bin rfl rfl rfl (fun W => qb_add_int W _ _ _ _ (by omega) (by omega))) ?_
            refine WL.op rfl rfl rfl (Go.Proofs.YtoffbjfgledjfaaDoor.W.quiet_assign rfl rfl) ?_
            refine WL.end ?_
            refine Xw.any (fun a k => ?_)
            exact ⟨j + 1, by omega, by omega, (by (repeat (refine Kn.cons k rfl ?_)); exact k.base), ff, hv, hv2⟩
          · skip
            refine WL.nil ?_
            refine TW.cond rfl (fun hb => by cases hb) (fun _ => ?_)
            refine TW.exit ?_
            refine Xw.thn (by simp) ?_
            refine Xw.thn (by simp) ?_
            refine Xw.hit ?_
            refine Xw.nrm ?_
            refine TW.sreg ?_
            refine WL.call (hr := (awake_of _)) rfl rfl rfl rfl rfl (fun W => qk_rushlightlaw07_awake W _) ?_
            rintro e wq ⟨rfl, fq⟩
            refine ⟨_, rfl, ?_⟩
            replace ff := ff.trans fq
            replace hv := Row.fr hv fq (fun _ _ => id)
            replace hv2 := Row.fr hv2 fq (fun _ _ => id)
            refine WL.op rfl rfl rfl (Go.Proofs.YtoffbjfgledjfaaDoor.W.quiet_assign rfl rfl) ?_
            refine WL.nil ?_
            refine TW.rt ?_
            refine bodyw_ret rfl rfl ?_
            exact ⟨rfl, ff⟩
end Go.Proofs.YtoffbjfgledjfaaDoor
