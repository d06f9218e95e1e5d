/-
  Lex (layer 7): the text of tokens.
-/
import Derived.Test.YtoffbjfgledjfaaDoorLyL
namespace Go.Proofs.YtoffbjfgledjfaaDoor
open Go.RowKit
set_option linter.unusedVariables false
set_option linter.unusedSimpArgs false
set_option linter.unnecessarySimpa false
theorem qi_s_api_Token (w : World) (b o n c j : Nat) (hj : j < n) : (Instr.indexAt 23 (.slice (some ⟨b, o, none⟩) n c) (.int .i64 (j : Int))).run Tryd.prog w = .ok (.pointer (some ⟨b, o + j * 5, none⟩)) w := by
  have h : (j : Int) < (n : Int) := by omega
  simp [go_sem, h, hj]
theorem ql_api_Token (w : World) (b o : Nat) (u0 u1 u2 u3 u4 : Value) (h0 : w.cell? ⟨b, o, none⟩ = some u0) (h1 : w.cell? ⟨b, o + 1, none⟩ = some u1) (h2 : w.cell? ⟨b, o + 2, none⟩ = some u2) (h3 : w.cell? ⟨b, o + 3, none⟩ = some u3) (h4 : w.cell? ⟨b, o + 4, none⟩ = some u4) : (Instr.loadAt 32 (.pointer (some ⟨b, o, none⟩))).run Tryd.prog w = .ok (.agg #[u0, u1, u2, u3, u4]) w := by simp [go_sem, h0, h1, h2, h3, h4]
theorem qzR_strings_Builder (w : World) : ∃ w', (Instr.alloc 43 true (.tuple #[])).run Tryd.prog w = .ok (.pointer (some ⟨w.heap.size, 0, none⟩)) w' ∧ (Fr (fun _ => False) w w' ∧ Bx w' w.heap.size #[.pointer none, .slice none 0 0] 43) := ⟨w.alloc (.cells #[.pointer none, .slice none 0 0] 43), by simp [go_sem], fr_al (Fr.refl _ _) _, Bx.new _ _ _⟩
theorem qn_s_api_Token (w : World) (a : Option Addr) (k l : Nat) : (Builtin.len_ #[23] 3 #[.slice a k l]).run Tryd.prog w = .ok (.int .i64 k) w := by simp [go_sem]
theorem qk_strings_Builder_WriteByte (w : World) (vs : Array Value) : (callFunc 10 vs).run Tryd.prog w = .ok (.enter 10 vs) w := by simp [go_sem]
theorem qk_strings_Builder_WriteString (w : World) (vs : Array Value) : (callFunc 11 vs).run Tryd.prog w = .ok (.enter 11 vs) w := by simp [go_sem]
theorem qk_strings_Builder_String (w : World) (vs : Array Value) : (callFunc 12 vs).run Tryd.prog w = .ok (.enter 12 vs) w := by simp [go_sem]
theorem tail_app : ∀ a b : List Tk, tailT (a ++ b) = tailT a ++ tailT b
  | [], b => rfl
  | t :: a, b => by
    show 32 :: (t.t ++ tailT (a ++ b)) = 32 :: (t.t ++ tailT a) ++ tailT b
    rw [tail_app a b, List.cons_append, List.append_assoc]
theorem join_tail (l : List Tk) : (joinT l).length ≤ (tailT l).length := by
  cases l with
  | nil => exact Nat.le_refl _
  | cons t l => simp [joinT, tailT]
theorem join_snoc (l : List Tk) (t : Tk) : joinT (l ++ [t]) = if l = [] then t.t else joinT l ++ [32] ++ t.t := by
  cases l with
  | nil => simp [joinT, tailT]
  | cons u l =>
    rw [if_neg (by simp)]
    show u.t ++ tailT (l ++ [t]) = u.t ++ tailT l ++ [32] ++ t.t
    rw [tail_app]
    simp [tailT]
def jP (xs : List (Tk × Int × Int)) (j : Nat) : List UInt8 := joinT ((xs.take j).map (·.1))
theorem jP_succ {xs : List (Tk × Int × Int)} {j : Nat} (hj : j < xs.length) : jP xs (j + 1) = if j = 0 then (xs[j]'hj).1.t else jP xs j ++ [32] ++ (xs[j]'hj).1.t := by
  unfold jP
  rw [List.take_add_one, List.getElem?_eq_getElem hj, Option.toList_some, List.map_append, List.map_singleton, join_snoc]
  by_cases h : j = 0
  · subst h; simp
  · have : ¬((xs.take j).map (·.1) = []) := fun e => by
      have := congrArg List.length e
      rw [List.length_map, List.length_take, List.length_nil] at this
      omega
    rw [if_neg this, if_neg h]
theorem jP_len (xs : List (Tk × Int × Int)) (j : Nat) : (jP xs j).length ≤ (tailT (xs.map (·.1))).length := by
  unfold jP
  refine Nat.le_trans (join_tail _) ?_
  rw [List.map_take]
  have := tail_app ((xs.map (·.1)).take j) ((xs.map (·.1)).drop j)
  rw [List.take_append_drop] at this
  rw [this, List.length_append]
  omega
theorem tok_in {xs : List (Tk × Int × Int)} {j : Nat} (hj : j < xs.length) : (xs[j]'hj).1.t.length ≤ (tailT (xs.map (·.1))).length := by
  have h1 := jP_succ hj
  have h2 := jP_len xs (j + 1)
  rw [h1] at h2
  split at h2
  · exact h2
  · rw [List.length_append] at h2; omega
/-- What is read is no longer than the text. -/
theorem lex_len : ∀ (f : Nat) (s : List UInt8) (p : Int × Int) {x : List (Tk × Int × Int) × Int × Int}, lexF f s p = .ok x → (tailT (x.1.map (·.1))).length ≤ 2 * s.length ∧ x.1.length ≤ s.length
  | 0, s, p, x, h => by unfold lexF at h; cases h
  | f + 1, s, p, x, h => by
    unfold lexF at h
    split at h
    · cases h
    · next n hb =>
      have h1 := blank_le hb
      have h2 := lex_len f _ _ h
      rw [List.length_drop] at h2
      omega
    · next hb =>
      split at h
      · injection h with h
        subst h
        exact ⟨Nat.zero_le _, Nat.zero_le _⟩
      · next hs =>
        split at h
        · cases h
        · next t hk =>
          cases hq : lexF f (s.drop t.t.length) (afterF p t.t) with
          | error e => rw [hq] at h; simp [Except.map] at h
          | ok y =>
            rw [hq] at h
            simp only [Except.map, Except.ok.injEq] at h
            subst h
            obtain ⟨hG, hT, hl⟩ := tok_good hs hb hk
            have h2 := lex_len f _ _ hq
            rw [List.length_drop] at h2
            have h3 : 1 ≤ t.t.length := by
              rcases Nat.eq_zero_or_pos t.t.length with q | q
              · exact absurd (List.eq_nil_of_length_eq_zero q) hG.ne
              · exact q
            simp only [List.map_cons, tailT, List.length_cons, List.length_append]
            omega
set_option maxRecDepth 100000 in
theorem t_text (B0 : Nat) (va : Option Addr) (vc : Nat) (toks : List (Tk × Int × Int)) (hln : toks.length ≤ 100000) (htt : (tailT (toks.map (·.1))).length ≤ 400000) (w : World) (htr : TR B0 w (.slice va toks.length vc) toks) : Calls Tryd.prog 7 #[.slice va toks.length vc] w fun e w' => e = .returned (bts (joinT (toks.map (·.1)))) ∧ Fr (fun _ => False) w w' := by
  have ff := Fr.refl (fun _ => False) w
  have htl := fun k hk => (Row.lt htr k hk).2
  refine calls_tw Tryd.func7 rfl rfl (Nat.le_of_ble_eq_true rfl) ?_
  refine TW.sreg ?_
  refine WL.op rfl rfl rfl (Go.Proofs.YtoffbjfgledjfaaDoor.W.quiet_assign rfl rfl) ?_
  refine WL.nil ?_
  refine TW.sreg ?_
  refine O.allocR rfl rfl rfl rfl (qzR_strings_Builder w) ?_
  rintro wa1 ⟨fa1, bx1⟩
  replace ff := ff.trans fa1
  replace htr := Row.fr htr fa1 (fun _ _ => id)
  have hb : Bld wa1 w.heap.size w.heap.size (.slice none 0 0) (jP toks 0) := ⟨.inl bx1, World.ownsRow_nil _ _ _ _, by simp [Value.ownBlock], Nat.le_refl _⟩
  refine WL.nil ?_
  refine TW.seq ?_
  refine TW.sreg ?_
  refine WL.op rfl rfl rfl (Go.Proofs.YtoffbjfgledjfaaDoor.W.quiet_move rfl rfl) ?_
  refine O.len rfl rfl rfl rfl rfl (qn_s_api_Token _ _ _ _) ?_
  refine WL.op rfl rfl rfl (Go.Proofs.YtoffbjfgledjfaaDoor.W.quiet_move rfl rfl) ?_
  refine WL.nil ?_
  refine TW.block ?_
  refine O.loopG (n := toks.length) (fun a _ => (intOf (a.tmps.getD 8 undef)).toNat) (fun j a W => ∃ (v : Value), Kn Tryd.f7.ntmps [(3, .pointer (some ⟨w.heap.size, 0, none⟩)), (6, .slice va toks.length vc), (7, .int .i64 (toks.length : Int)), (8, .int .i64 (j : Int))] a ∧ Fr (fun _ => False) w W ∧ Bld W w.heap.size w.heap.size v (jP toks j) ∧ TR B0 W (.slice va toks.length vc) toks) (fun j a W h => by obtain ⟨_, h⟩ := h; exact O.slotv h.1 rfl) 0 (Nat.zero_le _) (fun a k => ⟨.slice none 0 0, (by (repeat (refine Kn.cons k rfl ?_)); exact k.base), ff, hb, htr⟩) ?_
  rintro j a wl hj ⟨v, k, ff, hb, htr⟩
  refine TW.app (s := [(3, .pointer (some ⟨w.heap.size, 0, none⟩)), (6, .slice va toks.length vc), (7, .int .i64 (toks.length : Int)), (8, .int .i64 (j : Int))]) ?_ k
  refine TW.sreg ?_
  refine WL.op rfl rfl rfl (Go.Proofs.YtoffbjfgledjfaaDoor.W.quiet_bin rfl rfl rfl (fun W => qb_lss_int W _ _ _ _)) ?_
  refine O.split (fun b1 => ?_) (fun b1 => ?_)
  · skip
    have hj2 : j < toks.length := by have := of_decide_eq_true b1; omega
    have hx : toks[j]? = some toks[j] := List.getElem?_eq_getElem hj2
    obtain ⟨g, cp, hge, hgo⟩ := Row.own htr (by omega)
    injection hge with hva _ hvc
    subst hva
    have hcell : ∀ i u, (tkCs (toks[j]))[i]? = some u → wl.cell? ⟨g, 0 + j * 5 + i, none⟩ = some u := fun i u hu => Row.cell (f := tkCs) (c := 5) (fun _ => rfl) htr hx hu (by omega)
    have hbl := hb.lt
    refine WL.nil ?_
    refine TW.seq ?_
    refine TW.cond rfl (fun _ => ?_) (fun hb => by cases hb)
    refine TW.skip ?_
    refine TW.seq ?_
    refine TW.block ?_
    refine TW.sreg ?_
    refine WL.op rfl rfl rfl (Go.Proofs.YtoffbjfgledjfaaDoor.W.quiet_move rfl rfl) ?_
    refine O.ixa rfl rfl rfl rfl rfl rfl (qi_s_api_Token _ _ _ _ _ _ (by omega)) ?_
    refine WL.ld rfl rfl rfl rfl rfl (ql_api_Token _ _ _ _ _ _ _ _ (hcell 0 _ rfl) (hcell 1 _ rfl) (hcell 2 _ rfl) (hcell 3 _ rfl) (hcell 4 _ rfl)) ?_
    refine O.allocR rfl rfl rfl rfl (qzR_api_Token wl) ?_
    rintro wa2 ⟨fa2, bx2⟩
    replace ff := ff.trans fa2
    replace hb := Bld.fr hb fa2 id (fun _ _ => id)
    replace htr := Row.fr htr fa2 (fun _ _ => id)
    refine WL.op rfl rfl rfl (Go.Proofs.YtoffbjfgledjfaaDoor.W.quiet_assign rfl rfl) ?_
    refine O.storeR rfl rfl rfl rfl rfl (qsA_api_Token wa2 _ _ _ _ _ _ _ _ _ _ _ bx2) ?_
    rintro wa3 ⟨fa3, bx2x⟩
    replace ff := ff.trans' fa3 (fun q hq e => by omega)
    replace hb := Bld.fr hb fa3 (fun e => by omega) (fun k hk e => Row.apart_typ hb.asRow bx2 (by decide) (hk.trans (congrArg some e)))
    replace htr := Row.fr htr fa3 (fun k hk e => by have := htl k hk; omega)
    clear bx2
    have bx2 := bx2x
    clear bx2x
    refine WL.nil ?_
    refine TW.seq ?_
    refine TW.sreg ?_
    refine WL.op rfl rfl rfl (Go.Proofs.YtoffbjfgledjfaaDoor.W.quiet_move rfl rfl) ?_
    refine WL.op rfl rfl rfl (Go.Proofs.YtoffbjfgledjfaaDoor.W.quiet_bin rfl rfl rfl (fun W => qb_gtr_int W _ _ _ _)) ?_
    refine O.split (fun g1 => ?_) (fun g1 => ?_)
    · skip
      refine WL.nil ?_
      refine TW.cond rfl (fun _ => ?_) (fun hb => by cases hb)
      refine TW.reg ?_
      refine WL.call (hr := (wb_any w.heap.size w.heap.size _ _ 32 _ hb (by have := jP_len toks j; omega) ff.size)) rfl rfl rfl rfl rfl (fun W => qk_strings_Builder_WriteByte W _) ?_
      rintro e w8 ⟨rfl, v8, hb8, f8⟩
      refine ⟨_, rfl, ?_⟩
      have ho8 := fun k hk => (Row.lt hb.asRow k hk).1
      replace ff := ff.trans' f8 (fun q hq e => e.elim (fun z => by omega) (fun z => by have := ho8 q z; omega))
      replace htr := Row.fr htr f8 (fun k hk e => e.elim (fun z => by have := htl k hk; omega) (fun z => by have := htl k hk; have := ho8 k z; omega))
      replace bx2 := bx2.fr f8 (fun e => e.elim (fun z => by omega) (fun z => Row.apart_typ hb.asRow bx2 (by decide) z))
      clear hb
      have hb := hb8
      refine WL.nil ?_
      refine TW.reg ?_
      refine WL.op rfl rfl rfl (Go.Proofs.YtoffbjfgledjfaaDoor.W.quiet_field rfl rfl (fun W => (qa_api_Token_1 W _ _))) ?_
      refine WL.ld rfl rfl rfl rfl rfl (ql_string _ _ _ (bx2.cell (j := 1) rfl)) ?_
      refine WL.call (hr := (wr_any w.heap.size w.heap.size _ _ ⟨(toks[j]).1.t.toArray⟩ _ hb (by have := jP_len toks j; have := tok_in hj2; (try simp only [List.length_append, List.length_singleton]); show _ + (toks[j]).1.t.length ≤ _; omega) ff.size)) rfl rfl rfl rfl rfl (fun W => qk_strings_Builder_WriteString W _) ?_
      rintro e w9 ⟨rfl, v9, hb9, f9, ho9⟩
      refine ⟨_, rfl, ?_⟩
      have ho9 := fun k hk => (Row.lt hb.asRow k hk).1
      replace ff := ff.trans' f9 (fun q hq e => e.elim (fun z => by omega) (fun z => by have := ho9 q z; omega))
      replace htr := Row.fr htr f9 (fun k hk e => e.elim (fun z => by have := htl k hk; omega) (fun z => by have := htl k hk; have := ho9 k z; omega))
      clear hb
      have hb := hb9
      refine WL.end ?_
      refine Xw.nblk ?_
      refine Xw.nrm ?_
      refine TW.reg ?_
      refine WL.op rfl rfl rfl (Go.Proofs.YtoffbjfgledjfaaDoor.W.quiet_bin rfl rfl rfl (fun W => qb_add_int W _ _ _ _ (by omega) (by omega))) ?_
      refine WL.op rfl rfl rfl (Go.Proofs.YtoffbjfgledjfaaDoor.W.quiet_move rfl rfl) ?_
      refine WL.end ?_
      refine Xw.any (fun a k => ?_)
      have hst := jP_succ hj2
      first
        | (rw [if_neg (by have := of_decide_eq_true g1; omega)] at hst; exact ⟨j + 1, by omega, by omega, v9, (by (repeat (refine Kn.cons k rfl ?_)); exact k.base), ff, by rw [hst]; exact hb, htr⟩)
        | (have hj0 : j = 0 := (by have := of_decide_eq_false g1; omega); rw [if_pos hj0] at hst; subst hj0; exact ⟨0 + 1, by omega, by omega, v9, (by (repeat (refine Kn.cons k rfl ?_)); exact k.base), ff, by rw [hst]; exact hb, htr⟩)
    · skip
      refine WL.nil ?_
      refine TW.cond rfl (fun hb => by cases hb) (fun _ => ?_)
      refine TW.skip ?_
      refine TW.reg ?_
      refine WL.op rfl rfl rfl (Go.Proofs.YtoffbjfgledjfaaDoor.W.quiet_field rfl rfl (fun W => (qa_api_Token_1 W _ _))) ?_
      refine WL.ld rfl rfl rfl rfl rfl (ql_string _ _ _ (bx2.cell (j := 1) rfl)) ?_
      refine WL.call (hr := (wr_any w.heap.size w.heap.size _ _ ⟨(toks[j]).1.t.toArray⟩ _ hb (by have := jP_len toks j; have := tok_in hj2; (try simp only [List.length_append, List.length_singleton]); show _ + (toks[j]).1.t.length ≤ _; omega) ff.size)) rfl rfl rfl rfl rfl (fun W => qk_strings_Builder_WriteString W _) ?_
      rintro e w9 ⟨rfl, v9, hb9, f9, ho9⟩
      refine ⟨_, rfl, ?_⟩
      have ho9 := fun k hk => (Row.lt hb.asRow k hk).1
      replace ff := ff.trans' f9 (fun q hq e => e.elim (fun z => by omega) (fun z => by have := ho9 q z; omega))
      replace htr := Row.fr htr f9 (fun k hk e => e.elim (fun z => by have := htl k hk; omega) (fun z => by have := htl k hk; have := ho9 k z; omega))
      clear hb
      have hb := hb9
      refine WL.end ?_
      refine Xw.nblk ?_
      refine Xw.nrm ?_
      refine TW.reg ?_
      refine WL.op rfl rfl rfl (Go.Proofs.YtoffbjfgledjfaaDoor.W.quiet_bin rfl rfl rfl (fun W => qb_add_int W _ _ _ _ (by omega) (by omega))) ?_
      refine WL.op rfl rfl rfl (Go.Proofs.YtoffbjfgledjfaaDoor.W.quiet_move rfl rfl) ?_
      refine WL.end ?_
      refine Xw.any (fun a k => ?_)
      have hst := jP_succ hj2
      first
        | (rw [if_neg (by have := of_decide_eq_true g1; omega)] at hst; exact ⟨j + 1, by omega, by omega, v9, (by (repeat (refine Kn.cons k rfl ?_)); exact k.base), ff, by rw [hst]; exact hb, htr⟩)
        | (have hj0 : j = 0 := (by have := of_decide_eq_false g1; omega); rw [if_pos hj0] at hst; subst hj0; exact ⟨0 + 1, by omega, by omega, v9, (by (repeat (refine Kn.cons k rfl ?_)); exact k.base), ff, by rw [hst]; exact hb, htr⟩)
  · skip
    have hje : j = toks.length := by have := of_decide_eq_false b1; omega
    have hjj : jP toks j = joinT (toks.map (·.1)) := by unfold jP; rw [hje, List.take_of_length_le (Nat.le_refl _)]
    rw [hjj] at hb
    refine WL.nil ?_
    refine TW.seq ?_
    refine TW.cond rfl (fun hb => by cases hb) (fun _ => ?_)
    refine TW.exit ?_
    refine Xw.thn (by simp) ?_
    refine Xw.thn (by simp) ?_
    refine Xw.hit ?_
    refine Xw.nrm ?_
    refine TW.sreg ?_
    refine WL.call (hr := (str_any _ _ _ _ _ hb ff.size)) rfl rfl rfl rfl rfl (fun W => qk_strings_Builder_String W _) ?_
    rintro e w9 ⟨rfl, f9⟩
    refine ⟨_, rfl, ?_⟩
    replace ff := ff.trans' f9 (fun q hq e => by omega)
    clear hb htr
    refine WL.op rfl rfl rfl (Go.Proofs.YtoffbjfgledjfaaDoor.W.quiet_assign rfl rfl) ?_
    refine WL.nil ?_
    refine TW.rt ?_
    refine bodyw_ret rfl rfl ?_
    exact ⟨rfl, ff⟩
end Go.Proofs.YtoffbjfgledjfaaDoor
