/-
  Lex (layer 7): the lexer in general.
-/
import Derived.Test.YtoffbjfgledjfaaDoorLyJ
namespace Go.Proofs.YtoffbjfgledjfaaDoor
open Go.RowKit
set_option linter.unusedVariables false
set_option linter.unusedSimpArgs false
set_option linter.unnecessarySimpa false
theorem ql_api_Pos (w : World) (b o : Nat) (u0 u1 : Value) (h0 : w.cell? ⟨b, o, none⟩ = some u0) (h1 : w.cell? ⟨b, o + 1, none⟩ = some u1) : (Instr.loadAt 25 (.pointer (some ⟨b, o, none⟩))).run Tryd.prog w = .ok (.agg #[u0, u1]) w := by simp [go_sem, h0, h1]
theorem qk_lex_scanner (w : World) (vs : Array Value) : (callFunc 9 vs).run Tryd.prog w = .ok (.enter 9 vs) w := by simp [go_sem]
theorem qk_lex_scanner_2 (w : World) (vs : Array Value) : (callFunc 15 vs).run Tryd.prog w = .ok (.enter 15 vs) w := by simp [go_sem]
theorem qa_api_Token_0 (w : World) (b o : Nat) : (Instr.fieldAt 32 (.pointer (some ⟨b, o, none⟩)) 0).run Tryd.prog w = .ok (.pointer (some ⟨b, o, none⟩)) w := by simp [go_sem]
theorem qv_s_api_Token_1 (w : World) (u0_m0 : Int) (u0_p1 : ByteArray) (u0_m2 : Int) (u0_m3 : Int) (u0_m4 : Int) : (Instr.buildSlice 23 1 #[(0, .agg #[.int .i64 u0_m0, .string u0_p1, .int .u32 u0_m2, .int .i64 u0_m3, .int .i64 u0_m4])]).run Tryd.prog w = .ok (.slice (some ⟨w.heap.size, 0, none⟩) 1 1) (w.alloc (.cells #[.int .i64 u0_m0, .string u0_p1, .int .u32 u0_m2, .int .i64 u0_m3, .int .i64 u0_m4] 32)) := by simp [go_sem]
def tkCs (x : Tk × Int × Int) : List Value := [.int .i64 x.1.k, bts x.1.t, .int .u32 x.1.n, .int .i64 x.2.1, .int .i64 x.2.2]
def TR (B : Nat) (w : World) (v : Value) (xs : List (Tk × Int × Int)) : Prop := Row B 32 5 tkCs w v xs
theorem TR.app1 {B : Nat} {W : World} {v : Value} {xs : List (Tk × Int × Int)} (x : Tk × Int × Int) (ty : TypeId) (h : TR B W v xs) (hB : B ≤ W.heap.size) (hl : xs.length ≤ 1000000) : ∃ v' w', (Builtin.append_ #[23, 23] ty #[v, .slice (some ⟨W.heap.size, 0, none⟩) 1 1]).run Tryd.prog (W.alloc (.cells #[.int .i64 x.1.k, bts x.1.t, .int .u32 x.1.n, .int .i64 x.2.1, .int .i64 x.2.2] 32)) = .ok v' w' ∧ (TR B w' v' (xs ++ [x]) ∧ Fr (fun q => v.ownBlock = some q) W w' ∧ ∀ k, v'.ownBlock = some k → v.ownBlock = some k ∨ W.heap.size ≤ k) :=
  Row.app 23 ty Tryd.underlying23 infoTok rfl (by decide) (by decide) (fun _ => rfl) (fun x u hu => by
    simp only [tkCs, List.mem_cons, List.not_mem_nil, or_false] at hu
    rcases hu with rfl | rfl | rfl | rfl | rfl <;> rfl) x h hB hl rfl
def LexP (x : Except (Int × Int × Int) (List (Tk × Int × Int) × Int × Int)) (w : World) (e : Ending) (w' : World) : Prop :=
  Fr (fun _ => False) w w' ∧ match x with
  | .error (er, a) => e = .returned (.tuple #[.slice none 0 0, PV a, .int .i64 er])
  | .ok (toks, a) => ∃ va vc, e = .returned (.tuple #[.slice va toks.length vc, PV a, .int .i64 0]) ∧ TR w.heap.size w' (.slice va toks.length vc) toks
set_option maxRecDepth 100000 in
set_option maxHeartbeats 1000000 in
theorem t_lex (s : List UInt8) (hs : s.length ≤ 65536) (w : World) (hml : MlW w) (her : ErW w) : Calls Tryd.prog 6 #[bts s] w (LexP (lexF (s.length + 1) s (1, 1)) w) := by
  have ff := Fr.refl (fun _ => False) w
  obtain ⟨mm, hmm⟩ := id hml
  have gm : 0 < w.heap.size := World.block_lt_of_cell? w _ hmm
  obtain ⟨⟨es, ep, hes⟩, et, eq, her2⟩ := id her
  have gs : 1 < w.heap.size := World.block_lt_of_cell? w _ hes
  have gr : 2 < w.heap.size := World.block_lt_of_cell? w _ her2
  refine calls_tw Tryd.func6 rfl rfl (Nat.le_of_ble_eq_true rfl) ?_
  refine TW.sreg ?_
  refine WL.op rfl rfl rfl (Go.Proofs.YtoffbjfgledjfaaDoor.W.quiet_assign rfl rfl) ?_
  refine O.allocR rfl rfl rfl rfl (qzR_api_Pos w) ?_
  rintro wa1 ⟨fa1, bx1⟩
  replace ff := ff.trans fa1
  have hlt0 := bx1.lt
  refine WL.op rfl rfl rfl (Go.Proofs.YtoffbjfgledjfaaDoor.W.quiet_assign rfl rfl) ?_
  refine WL.nil ?_
  refine TW.seq ?_
  refine TW.sreg ?_
  refine WL.op rfl rfl rfl (Go.Proofs.YtoffbjfgledjfaaDoor.W.quiet_move rfl rfl) ?_
  refine O.len rfl rfl rfl rfl rfl (qn_string _ _) ?_
  refine WL.op rfl rfl rfl (Go.Proofs.YtoffbjfgledjfaaDoor.W.quiet_bin rfl rfl rfl (fun W => qb_gtr_int W _ _ _ _)) ?_
  refine O.split (fun hb => by exfalso; revert hb; first | (simp; done) | (simp; omega)) (fun hb => ?_)
  refine WL.nil ?_
  refine TW.cond rfl (fun hb => by cases hb) (fun _ => ?_)
  refine TW.skip ?_
  refine TW.sreg ?_
  refine WL.op rfl rfl rfl (Go.Proofs.YtoffbjfgledjfaaDoor.W.quiet_move rfl rfl) ?_
  refine WL.call (hr := (scan_new ⟨s.toArray⟩ _)) rfl rfl rfl rfl rfl (fun W => qk_lex_scanner W _) ?_
  rintro e w0 ⟨r, p, d, rfl, hS, f0, hrb, hpb, hdb⟩
  refine ⟨_, rfl, ?_⟩
  replace bx1 := bx1.fr f0 id
  replace ff := ff.trans f0
  have hr : Bx w0 r #[bts s] 9 := hS.rest
  have hp : Bx w0 p #[.int .i64 1, .int .i64 1] 25 := hS.pos
  have hd : Bx w0 d #[advV r p] 51 := hS.adv
  have hrp := hS.rp
  have hrd := hS.rq
  have hpd := hS.pq
  have hrel0 : lexF (s.length + 1) s (1, 1) = (lexF (s.length + 1) s (1, 1)).map (fun x => ([] ++ x.1, x.2)) := by cases lexF (s.length + 1) s (1, 1) with | error e => rfl | ok x => rfl
  refine WL.op rfl rfl rfl (Go.Proofs.YtoffbjfgledjfaaDoor.W.quiet_assign rfl rfl) ?_
  refine WL.nil ?_
  refine TW.sreg ?_
  refine WL.op rfl rfl rfl (Go.Proofs.YtoffbjfgledjfaaDoor.W.quiet_assign rfl rfl) ?_
  refine WL.nil ?_
  refine TW.block ?_
  refine O.loopX (n := s.length) (fun j a W => ∃ (u : List UInt8) (l c : Int) (f : Nat) (toks : List (Tk × Int × Int)) (va : Option Addr) (vc : Nat), Kn Tryd.f6.ntmps [(3, .pointer (some ⟨w.heap.size, 0, none⟩)), (5, .func (.func 15) #[] #[.pointer (some ⟨r, 0, none⟩), .pointer (some ⟨p, 0, none⟩), .pointer (some ⟨d, 0, none⟩)]), (6, .slice va toks.length vc)] a ∧ Fr (fun _ => False) w W ∧ Bx W w.heap.size #[.int .i64 0, .int .i64 0] 25 ∧ Bx W r #[bts u] 9 ∧ Bx W p #[.int .i64 l, .int .i64 c] 25 ∧ Bx W d #[advV r p] 51 ∧ TR w.heap.size W (.slice va toks.length vc) toks ∧ j + u.length = s.length ∧ u.length < f ∧ lexF (s.length + 1) s (1, 1) = (lexF f u (l, c)).map (fun x => (toks ++ x.1, x.2)) ∧ 0 ≤ l ∧ l ≤ 1 + j ∧ 0 ≤ c ∧ c ≤ 1 + 2 * j ∧ toks.length ≤ j) 0 (Nat.zero_le _) (fun a k => ⟨s, 1, 1, s.length + 1, [], none, 0, (by (repeat (refine Kn.cons k rfl ?_)); exact k.base), ff, bx1, hr, hp, hd, Row.nil _ _ _ _ _, by omega, by omega, hrel0, by omega, by omega, by omega, by omega, Nat.zero_le _⟩) ?_
  rintro j a wl hj ⟨u, l, c, f, toks, va, vc, k, ff, bx1, hr, hp, hd, hv, hju, huf, hrel, hl0, hl1, hc0, hc1, htj⟩
  refine TW.app (s := [(3, .pointer (some ⟨w.heap.size, 0, none⟩)), (5, .func (.func 15) #[] #[.pointer (some ⟨r, 0, none⟩), .pointer (some ⟨p, 0, none⟩), .pointer (some ⟨d, 0, none⟩)]), (6, .slice va toks.length vc)]) ?_ k
  rcases hx : nxF (u.length + 1) u (l, c) with ⟨er, ap⟩ | ⟨_ | ⟨t, b⟩, u2, ap⟩
  · have hL := nx_lex (u.length + 1) u (l, c) f (by omega) (by omega) hl0 hc0
    rw [hx] at hL
    refine TW.block ?_
    refine TW.sreg ?_
    refine WL.op rfl rfl rfl (Go.Proofs.YtoffbjfgledjfaaDoor.W.quiet_move rfl rfl) ?_
    have hr0 := hr
    have hp0 := hp
    refine O.callv (hr := (by have z := t_next r p d u l c (by omega) hl0 (by omega) hc0 (by omega) hrp hrd hpd wl hr hp hd (hml.fr ff id) (her.fr ff id id) (by omega) (by omega) (by omega); rw [hx] at z; exact z)) rfl rfl rfl rfl rfl rfl (fun W => qk_lex_scanner_2 W _) ?_
    rintro e w1 ⟨f1, rfl⟩
    refine ⟨.tuple #[.agg #[.int .i64 0, bts [], .int .u32 0, .int .i64 ap.1, .int .i64 ap.2], .int .i64 er], rfl, ?_⟩
    replace ff := ff.trans' f1 (fun q hq e => by rcases e with e | e <;> omega)
    replace bx1 := bx1.fr f1 (fun e => by rcases e with e | e <;> omega)
    replace hd := hd.fr f1 (fun e => by rcases e with e | e <;> omega)
    replace hv := Row.fr hv f1 (fun k hk e => e.elim (fun z => Row.apart_typ hv hr0 (by decide) (hk.trans (congrArg some z))) (fun z => Row.apart_typ hv hp0 (by decide) (hk.trans (congrArg some z))))
    have hvl := fun k hk => (Row.lt hv k hk).2
    have hlt1 := bx1.lt
    have hsz1 := f1.size
    have hdl := hd.lt
    clear hr hp
    refine WL.op rfl rfl rfl (Go.Proofs.YtoffbjfgledjfaaDoor.W.quiet_move rfl rfl) ?_
    refine O.ext rfl rfl rfl rfl rfl rfl ?_
    refine O.ext rfl rfl rfl rfl rfl rfl ?_
    have lt2_bx1 := bx1.lt
    refine O.allocR rfl rfl rfl rfl (qzR_api_Token w1) ?_
    rintro wa2 ⟨fa2, bx2⟩
    replace bx1 := bx1.fr fa2 id
    replace ff := ff.trans fa2
    replace hd := Bx.fr hd fa2 id
    replace hv := Row.fr hv fa2 (fun _ _ => id)
    refine O.storeR rfl rfl rfl rfl rfl (qsA_api_Token wa2 _ _ _ _ _ _ _ _ _ _ _ bx2) ?_
    rintro wa3 ⟨fa3, bx2x⟩
    replace bx1 := bx1.fr fa3 (fun e => by omega)
    replace ff := ff.trans' fa3 (fun q hq e => by omega)
    replace hd := Bx.fr hd fa3 (fun e => by omega)
    replace hv := Row.fr hv fa3 (fun k hk e => by first | (have := hvl k hk; omega) | exact Row.apart_typ hv bx2 (by decide) (hk.trans (congrArg some e)))
    clear bx2
    have bx2 := bx2x
    clear bx2x
    refine WL.op rfl rfl rfl (Go.Proofs.YtoffbjfgledjfaaDoor.W.quiet_assign rfl rfl) ?_
    refine WL.nil ?_
    refine TW.seq ?_
    refine TW.sreg ?_
    refine WL.op rfl rfl rfl (Go.Proofs.YtoffbjfgledjfaaDoor.W.quiet_move rfl rfl) ?_
    refine WL.op rfl rfl rfl (Go.Proofs.YtoffbjfgledjfaaDoor.W.quiet_bin rfl rfl rfl (fun W => qb_neq_api_Errno W _ _ _ _)) ?_
    refine O.split (fun hb => ?_) (fun hb => absurd (by simpa using hb) hL.2)
    refine WL.nil ?_
    refine TW.cond rfl (fun _ => ?_) (fun hb => by cases hb)
    have b2p := bx2
    refine TW.sregH (fun W => Fr (fun q => q = w.heap.size) wa3 W) (by kernel_rfl) ?_
    have fd : Fr (fun _ => False) wa3 wa3.drew := (Fr.refl _ _).drewN 1
    have HW : Fr (fun q => q = w.heap.size) wa3 wa3.drew := (Fr.refl _ _).drewN 1
    replace bx1 := bx1.fr fd id
    replace bx2 := bx2.fr fd id
    replace ff := ff.trans fd
    replace hd := Bx.fr hd fd id
    replace hv := Row.fr hv fd (fun _ _ => id)
    generalize hV : wa3.drew = V1 at *
    clear hV
    refine WH.take 0 rfl (by kernel_rfl) (by kernel_rfl) (by kernel_rfl) (fun _ _ _ _ _ h => h) rfl rfl rfl HW (RH.field rfl rfl (fun W => qa_api_Token_3 W _ _)) ?_
    refine WH.take 1 rfl (by kernel_rfl) (by kernel_rfl) (by kernel_rfl) (fun _ _ _ _ _ h => h) rfl rfl rfl HW (RH.load rfl rfl (fun W hW => (ql_api_Pos _ _ _ _ _ ((b2p.fr hW (fun e => by omega)).cell (j := 3) rfl) ((b2p.fr hW (fun e => by omega)).cell (j := 4) rfl)))) ?_
    refine WH.take 2 rfl (by kernel_rfl) (by kernel_rfl) (by kernel_rfl) (fun _ _ _ _ _ h => h) rfl rfl rfl HW (RH.move rfl rfl) ?_
    refine WH.take 3 rfl (by kernel_rfl) (by kernel_rfl) (by kernel_rfl) (fun _ _ _ _ _ h => h) rfl rfl rfl HW (RH.assign rfl rfl) ?_
    refine WH.one 4 (by kernel_rfl) rfl ?_ 
    refine O.storeR rfl rfl rfl rfl rfl (qsA_api_Pos V1 _ _ _ _ _ bx1) ?_
    rintro wa4 ⟨fa4, bx1x⟩
    replace bx2 := bx2.fr fa4 (fun e => by omega)
    replace ff := ff.trans' fa4 (fun q hq e => by omega)
    replace hd := Bx.fr hd fa4 (fun e => by omega)
    replace hv := Row.fr hv fa4 (fun k hk e => by first | (have := hvl k hk; omega) | exact Row.apart_typ hv bx1 (by decide) (hk.trans (congrArg some e)))
    replace HW := HW.trans' fa4 (fun q hq e => by first | exact e | exact Or.inl e | exact Or.inr e | omega)
    clear bx1
    have bx1 := bx1x
    clear bx1x
    refine WL.fin HW ?_
    refine WH.take 5 rfl (by kernel_rfl) (by kernel_rfl) (by kernel_rfl) (fun _ _ _ _ _ h => h) rfl rfl rfl HW (RH.assign rfl rfl) ?_
    refine WH.done (by kernel_rfl) ?_
    refine TW.rt ?_
    refine Xw.thn (by simp) ?_
    refine Xw.rblk ?_
    refine Xw.thn (by simp) ?_
    refine Xw.rblk ?_
    refine O.retc3 rfl rfl rfl rfl (run_loadVar_row _ _ _ 25 _ _ _ bx1 Tryd.underlying25 rfl (by kernel_rfl)) ?_
    refine ⟨ff, ?_⟩
    rw [hrel, hL.1]
    rfl
  · have hL := nx_lex (u.length + 1) u (l, c) f (by omega) (by omega) hl0 hc0
    rw [hx] at hL
    refine TW.block ?_
    refine TW.sreg ?_
    refine WL.op rfl rfl rfl (Go.Proofs.YtoffbjfgledjfaaDoor.W.quiet_move rfl rfl) ?_
    have hr0 := hr
    have hp0 := hp
    refine O.callv (hr := (by have z := t_next r p d u l c (by omega) hl0 (by omega) hc0 (by omega) hrp hrd hpd wl hr hp hd (hml.fr ff id) (her.fr ff id id) (by omega) (by omega) (by omega); rw [hx] at z; exact z)) rfl rfl rfl rfl rfl rfl (fun W => qk_lex_scanner_2 W _) ?_
    rintro e w1 ⟨f1, rfl⟩
    refine ⟨.tuple #[.agg #[.int .i64 0, bts [], .int .u32 0, .int .i64 ap.1, .int .i64 ap.2], .int .i64 0], rfl, ?_⟩
    replace ff := ff.trans' f1 (fun q hq e => by rcases e with e | e <;> omega)
    replace bx1 := bx1.fr f1 (fun e => by rcases e with e | e <;> omega)
    replace hd := hd.fr f1 (fun e => by rcases e with e | e <;> omega)
    replace hv := Row.fr hv f1 (fun k hk e => e.elim (fun z => Row.apart_typ hv hr0 (by decide) (hk.trans (congrArg some z))) (fun z => Row.apart_typ hv hp0 (by decide) (hk.trans (congrArg some z))))
    have hvl := fun k hk => (Row.lt hv k hk).2
    have hlt1 := bx1.lt
    have hsz1 := f1.size
    have hdl := hd.lt
    clear hr hp
    refine WL.op rfl rfl rfl (Go.Proofs.YtoffbjfgledjfaaDoor.W.quiet_move rfl rfl) ?_
    refine O.ext rfl rfl rfl rfl rfl rfl ?_
    refine O.ext rfl rfl rfl rfl rfl rfl ?_
    have lt3_bx1 := bx1.lt
    refine O.allocR rfl rfl rfl rfl (qzR_api_Token w1) ?_
    rintro wa5 ⟨fa5, bx3⟩
    replace bx1 := bx1.fr fa5 id
    replace ff := ff.trans fa5
    replace hd := Bx.fr hd fa5 id
    replace hv := Row.fr hv fa5 (fun _ _ => id)
    refine O.storeR rfl rfl rfl rfl rfl (qsA_api_Token wa5 _ _ _ _ _ _ _ _ _ _ _ bx3) ?_
    rintro wa6 ⟨fa6, bx3x⟩
    replace bx1 := bx1.fr fa6 (fun e => by omega)
    replace ff := ff.trans' fa6 (fun q hq e => by omega)
    replace hd := Bx.fr hd fa6 (fun e => by omega)
    replace hv := Row.fr hv fa6 (fun k hk e => by first | (have := hvl k hk; omega) | exact Row.apart_typ hv bx3 (by decide) (hk.trans (congrArg some e)))
    clear bx3
    have bx3 := bx3x
    clear bx3x
    refine WL.op rfl rfl rfl (Go.Proofs.YtoffbjfgledjfaaDoor.W.quiet_assign rfl rfl) ?_
    refine WL.nil ?_
    refine TW.seq ?_
    refine TW.sreg ?_
    refine WL.op rfl rfl rfl (Go.Proofs.YtoffbjfgledjfaaDoor.W.quiet_move rfl rfl) ?_
    refine WL.op rfl rfl rfl (Go.Proofs.YtoffbjfgledjfaaDoor.W.quiet_bin rfl rfl rfl (fun W => qb_neq_api_Errno W _ _ _ _)) ?_
    refine O.split (fun hb => by exfalso; revert hb; first | (simp; done) | (simp; omega)) (fun hb => ?_)
    refine WL.nil ?_
    refine TW.cond rfl (fun hb => by cases hb) (fun _ => ?_)
    refine TW.skip ?_
    refine TW.seq ?_
    refine TW.sreg ?_
    refine WL.op rfl rfl rfl (Go.Proofs.YtoffbjfgledjfaaDoor.W.quiet_field rfl rfl (fun W => (qa_api_Token_0 W _ _))) ?_
    refine WL.ld rfl rfl rfl rfl rfl (ql_int _ _ _ (bx3.cell (j := 0) rfl)) ?_
    refine WL.op rfl rfl rfl (Go.Proofs.YtoffbjfgledjfaaDoor.W.quiet_bin rfl rfl rfl (fun W => qb_eql_int W _ _ _ _)) ?_
    refine O.split (fun hb => ?_) (fun hb => by exfalso; revert hb; first | (simp; done) | (simp; omega))
    refine WL.nil ?_
    refine TW.cond rfl (fun _ => ?_) (fun hb => by cases hb)
    have b2p := bx3
    refine TW.sregH (fun W => Fr (fun q => q = w.heap.size) wa6 W) (by kernel_rfl) ?_
    have fd : Fr (fun _ => False) wa6 wa6.drew := (Fr.refl _ _).drewN 1
    have HW : Fr (fun q => q = w.heap.size) wa6 wa6.drew := (Fr.refl _ _).drewN 1
    replace bx1 := bx1.fr fd id
    replace bx3 := bx3.fr fd id
    replace ff := ff.trans fd
    replace hd := Bx.fr hd fd id
    replace hv := Row.fr hv fd (fun _ _ => id)
    generalize hV : wa6.drew = V2 at *
    clear hV
    refine WH.take 0 rfl (by kernel_rfl) (by kernel_rfl) (by kernel_rfl) (fun _ _ _ _ _ h => h) rfl rfl rfl HW (RH.move rfl rfl) ?_
    refine WH.take 1 rfl (by kernel_rfl) (by kernel_rfl) (by kernel_rfl) (fun _ _ _ _ _ h => h) rfl rfl rfl HW (RH.field rfl rfl (fun W => qa_api_Token_3 W _ _)) ?_
    refine WH.take 2 rfl (by kernel_rfl) (by kernel_rfl) (by kernel_rfl) (fun _ _ _ _ _ h => h) rfl rfl rfl HW (RH.load rfl rfl (fun W hW => (ql_api_Pos _ _ _ _ _ ((b2p.fr hW (fun e => by omega)).cell (j := 3) rfl) ((b2p.fr hW (fun e => by omega)).cell (j := 4) rfl)))) ?_
    refine WH.take 3 rfl (by kernel_rfl) (by kernel_rfl) (by kernel_rfl) (fun _ _ _ _ _ h => h) rfl rfl rfl HW (RH.assign rfl rfl) ?_
    refine WH.one 4 (by kernel_rfl) rfl ?_ 
    refine O.storeR rfl rfl rfl rfl rfl (qsA_api_Pos V2 _ _ _ _ _ bx1) ?_
    rintro wa7 ⟨fa7, bx1x⟩
    replace bx3 := bx3.fr fa7 (fun e => by omega)
    replace ff := ff.trans' fa7 (fun q hq e => by omega)
    replace hd := Bx.fr hd fa7 (fun e => by omega)
    replace hv := Row.fr hv fa7 (fun k hk e => by first | (have := hvl k hk; omega) | exact Row.apart_typ hv bx1 (by decide) (hk.trans (congrArg some e)))
    replace HW := HW.trans' fa7 (fun q hq e => by first | exact e | exact Or.inl e | exact Or.inr e | omega)
    clear bx1
    have bx1 := bx1x
    clear bx1x
    refine WL.fin HW ?_
    refine WH.take 5 rfl (by kernel_rfl) (by kernel_rfl) (by kernel_rfl) (fun _ _ _ _ _ h => h) rfl rfl rfl HW (RH.assign rfl rfl) ?_
    refine WH.done (by kernel_rfl) ?_
    refine TW.rt ?_
    refine Xw.thn (by simp) ?_
    refine Xw.rblk ?_
    refine Xw.thn (by simp) ?_
    refine Xw.rblk ?_
    refine O.retc3 rfl rfl rfl rfl (run_loadVar_row _ _ _ 25 _ _ _ bx1 Tryd.underlying25 rfl (by kernel_rfl)) ?_
    refine ⟨ff, ?_⟩
    have hL : lexF f u (l, c) = .ok ([], ap) := hL
    rw [hrel, hL]
    simp only [Except.map, List.append_nil]
    exact ⟨va, vc, rfl, hv⟩
  · have hL := nx_lex (u.length + 1) u (l, c) f (by omega) (by omega) hl0 hc0
    rw [hx] at hL
    obtain ⟨h1, h2, h3, h4, h5, h6, h7, h8, h9⟩ := hL
    simp only at h6 h8
    have hrel2 : lexF (s.length + 1) s (1, 1) = (lexF (u2.length + 1) u2 (ap.1, ap.2)).map (fun x => ((toks ++ [(t, b)]) ++ x.1, x.2)) := by
      rw [hrel, h9 (u2.length + 1) (by omega)]
      show Except.map _ (Except.map _ (lexF (u2.length + 1) u2 ap)) = _
      show _ = Except.map _ (lexF (u2.length + 1) u2 ap)
      cases lexF (u2.length + 1) u2 ap with
      | error e => rfl
      | ok x => simp [Except.map]
    refine TW.block ?_
    refine TW.sreg ?_
    refine WL.op rfl rfl rfl (Go.Proofs.YtoffbjfgledjfaaDoor.W.quiet_move rfl rfl) ?_
    have hr0 := hr
    have hp0 := hp
    refine O.callv (hr := (by have z := t_next r p d u l c (by omega) hl0 (by omega) hc0 (by omega) hrp hrd hpd wl hr hp hd (hml.fr ff id) (her.fr ff id id) (by omega) (by omega) (by omega); rw [hx] at z; exact z)) rfl rfl rfl rfl rfl rfl (fun W => qk_lex_scanner_2 W _) ?_
    rintro e w1 ⟨f1, rfl, hr2, hp2⟩
    refine ⟨.tuple #[.agg #[.int .i64 t.k, bts t.t, .int .u32 t.n, .int .i64 b.1, .int .i64 b.2], .int .i64 0], rfl, ?_⟩
    replace ff := ff.trans' f1 (fun q hq e => by rcases e with e | e <;> omega)
    replace bx1 := bx1.fr f1 (fun e => by rcases e with e | e <;> omega)
    replace hd := hd.fr f1 (fun e => by rcases e with e | e <;> omega)
    replace hv := Row.fr hv f1 (fun k hk e => e.elim (fun z => Row.apart_typ hv hr0 (by decide) (hk.trans (congrArg some z))) (fun z => Row.apart_typ hv hp0 (by decide) (hk.trans (congrArg some z))))
    have hvl := fun k hk => (Row.lt hv k hk).2
    have hlt1 := bx1.lt
    have hsz1 := f1.size
    have hdl := hd.lt
    clear hr hp
    have hr := hr2
    have hp := hp2
    have hrl := hr2.lt
    have hpl := hp2.lt
    have hdl := hd.lt
    refine WL.op rfl rfl rfl (Go.Proofs.YtoffbjfgledjfaaDoor.W.quiet_move rfl rfl) ?_
    refine O.ext rfl rfl rfl rfl rfl rfl ?_
    refine O.ext rfl rfl rfl rfl rfl rfl ?_
    have lt4_bx1 := bx1.lt
    refine O.allocR rfl rfl rfl rfl (qzR_api_Token w1) ?_
    rintro wa8 ⟨fa8, bx4⟩
    replace bx1 := bx1.fr fa8 id
    replace ff := ff.trans fa8
    replace hr := Bx.fr hr fa8 id
    replace hp := Bx.fr hp fa8 id
    replace hd := Bx.fr hd fa8 id
    replace hv := Row.fr hv fa8 (fun _ _ => id)
    refine O.storeR rfl rfl rfl rfl rfl (qsA_api_Token wa8 _ _ _ _ _ _ _ _ _ _ _ bx4) ?_
    rintro wa9 ⟨fa9, bx4x⟩
    replace bx1 := bx1.fr fa9 (fun e => by omega)
    replace ff := ff.trans' fa9 (fun q hq e => by omega)
    replace hr := Bx.fr hr fa9 (fun e => by omega)
    replace hp := Bx.fr hp fa9 (fun e => by omega)
    replace hd := Bx.fr hd fa9 (fun e => by omega)
    replace hv := Row.fr hv fa9 (fun k hk e => by first | (have := hvl k hk; omega) | exact Row.apart_typ hv bx4 (by decide) (hk.trans (congrArg some e)))
    clear bx4
    have bx4 := bx4x
    clear bx4x
    refine WL.op rfl rfl rfl (Go.Proofs.YtoffbjfgledjfaaDoor.W.quiet_assign rfl rfl) ?_
    refine WL.nil ?_
    refine TW.seq ?_
    refine TW.sreg ?_
    refine WL.op rfl rfl rfl (Go.Proofs.YtoffbjfgledjfaaDoor.W.quiet_move rfl rfl) ?_
    refine WL.op rfl rfl rfl (Go.Proofs.YtoffbjfgledjfaaDoor.W.quiet_bin rfl rfl rfl (fun W => qb_neq_api_Errno W _ _ _ _)) ?_
    refine O.split (fun hb => by exfalso; revert hb; first | (simp; done) | (simp; omega)) (fun hb => ?_)
    refine WL.nil ?_
    refine TW.cond rfl (fun hb => by cases hb) (fun _ => ?_)
    refine TW.skip ?_
    refine TW.seq ?_
    refine TW.sreg ?_
    refine WL.op rfl rfl rfl (Go.Proofs.YtoffbjfgledjfaaDoor.W.quiet_field rfl rfl (fun W => (qa_api_Token_0 W _ _))) ?_
    refine WL.ld rfl rfl rfl rfl rfl (ql_int _ _ _ (bx4.cell (j := 0) rfl)) ?_
    refine WL.op rfl rfl rfl (Go.Proofs.YtoffbjfgledjfaaDoor.W.quiet_bin rfl rfl rfl (fun W => qb_eql_int W _ _ _ _)) ?_
    refine O.split (fun hb => absurd (eq_of_beq hb) h1) (fun hb => ?_)
    refine WL.nil ?_
    refine TW.cond rfl (fun hb => by cases hb) (fun _ => ?_)
    refine TW.skip ?_
    refine TW.reg ?_
    refine WL.op rfl rfl rfl (Go.Proofs.YtoffbjfgledjfaaDoor.W.quiet_move rfl rfl) ?_
    refine WL.ld rfl rfl rfl rfl rfl (qlB_api_Token _ _ _ _ _ _ _ _ bx4) ?_
    refine O.bsl rfl rfl rfl rfl rfl (qv_s_api_Token_1 _ _ _ _ _ _) ?_
    refine WL.append rfl rfl rfl rfl rfl rfl (TR.app1 (t, b) _ hv ff.size (by omega)) ?_
    rintro v3 w3 ⟨hv3, hF3, ho3⟩
    replace ff := ff.trans' hF3 (fun q hq e => by have := (Row.lt hv q e).1; omega)
    replace bx1 := bx1.fr hF3 (Row.apart_typ hv bx1 (by decide))
    replace hr := Bx.fr hr hF3 (Row.apart_typ hv hr (by decide))
    replace hp := Bx.fr hp hF3 (Row.apart_typ hv hp (by decide))
    replace hd := Bx.fr hd hF3 (Row.apart_typ hv hd (by decide))
    clear hv
    have hv := hv3
    obtain ⟨va3, vc3, rfl⟩ := Row.form hv
    -- world w3
    refine WL.op rfl rfl rfl (Go.Proofs.YtoffbjfgledjfaaDoor.W.quiet_assign rfl rfl) ?_
    refine WL.end ?_
    refine Xw.nblk ?_
    refine Xw.any (fun a k => ?_)
    exact ⟨j + (u.length - u2.length), by omega, by omega, u2, ap.1, ap.2, u2.length + 1, toks ++ [(t, b)], va3, vc3, (by rw [List.length_append, List.length_singleton] at *; (repeat (refine Kn.cons k rfl ?_)); exact k.base), ff, bx1, hr, hp, hd, hv, by omega, by omega, hrel2, h5, by omega, h7, by omega, by rw [List.length_append, List.length_singleton]; omega⟩
end Go.Proofs.YtoffbjfgledjfaaDoor
