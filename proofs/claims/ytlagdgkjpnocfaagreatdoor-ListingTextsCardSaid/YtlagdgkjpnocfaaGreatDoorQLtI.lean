/-
  Listing (layer 6): what is read is written again, walked. Listing (layer 6): what is written is read back: plain facts.
-/
import Derived.Test.YtlagdgkjpnocfaaGreatDoorQLtF
import Derived.Test.YtlagdgkjpnocfaaGreatDoorQLtC
import Derived.Lib.AtoiAllCases
namespace Go.Proofs.YtlagdgkjpnocfaaGreatDoor
open Go.RowKit
set_option linter.unusedVariables false
set_option linter.unusedSimpArgs false
theorem qzR_api_Inst (w : World) : ∃ w', (Instr.alloc 23 true (.tuple #[])).run Tryz.prog w = .ok (.pointer (some ⟨w.heap.size, 0, none⟩)) w' ∧ (Fr (fun _ => False) w w' ∧ Bx w' w.heap.size #[.int .i64 0, .int .i64 0, .int .i64 0, .int .i64 0, .int .i64 0] 23) := ⟨w.alloc (.cells #[.int .i64 0, .int .i64 0, .int .i64 0, .int .i64 0, .int .i64 0] 23), by simp [go_sem], fr_al (Fr.refl _ _) _, Bx.new _ _ _⟩
theorem qsA_api_Inst (w : World) (g : Nat) (z0 z1 z2 z3 z4 : Value) (um0 : Int) (um1 : Int) (um2 : Int) (um3 : Int) (um4 : Int) (h : Bx w g #[z0, z1, z2, z3, z4] 23) : ∃ w', (Instr.storeAt 23 (.pointer (some ⟨g, 0, none⟩)) (.agg #[.int .i64 um0, .int .i64 um1, .int .i64 um2, .int .i64 um3, .int .i64 um4])).run Tryz.prog w = .ok () w' ∧ (Fr (fun q => q = g) w w' ∧ Bx w' g #[.int .i64 um0, .int .i64 um1, .int .i64 um2, .int .i64 um3, .int .i64 um4] 23) := by
  have c0 := h.cell (j := 0) rfl
  have e0 := h.free 0
  have c1 := h.cell (j := 1) rfl
  have e1 := h.free 1
  have c2 := h.cell (j := 2) rfl
  have e2 := h.free 2
  have c3 := h.cell (j := 3) rfl
  have e3 := h.free 3
  have c4 := h.cell (j := 4) rfl
  have e4 := h.free 4
  have H : ∀ k v W z, Bx W g z 23 → Bx (W.setCell ⟨g, k, none⟩ v) g (z.setIfInBounds k v) 23 := fun k v W z h => h.set k v
  refine ⟨_, by simp [go_sem, c0, e0, c1, e1, c2, e2, c3, e3, c4, e4]; rfl, ?_, ?_⟩
  · repeat first | exact Fr.refl _ _ | refine Fr.trans ?_ (Fr.setCell _ _ _ rfl)
  · exact H 4 _ _ _ (H 3 _ _ _ (H 2 _ _ _ (H 1 _ _ _ (H 0 _ _ _ (h)))))
theorem qb_neq_api_Errno (w : World) (x y : Operand) (m n : Int) : ((do eqGuard .neq 24 x y (.int .i64 m) (.int .i64 n); binOp .neq 24 (.int .i64 m) (.int .i64 n) : Sem Value)).run Tryz.prog w = .ok (.bool (m != n)) w := by simp [go_sem]
theorem qlB_api_Inst (w : World) (g : Nat) (um0 : Int) (um1 : Int) (um2 : Int) (um3 : Int) (um4 : Int) (tt : TypeId) (h : Bx w g #[.int .i64 um0, .int .i64 um1, .int .i64 um2, .int .i64 um3, .int .i64 um4] tt) : (Instr.loadAt 23 (.pointer (some ⟨g, 0, none⟩))).run Tryz.prog w = .ok (.agg #[.int .i64 um0, .int .i64 um1, .int .i64 um2, .int .i64 um3, .int .i64 um4]) w := by
  have c0 := h.cell (j := 0) rfl
  have c1 := h.cell (j := 1) rfl
  have c2 := h.cell (j := 2) rfl
  have c3 := h.cell (j := 3) rfl
  have c4 := h.cell (j := 4) rfl
  simp [go_sem, c0, c1, c2, c3, c4]
theorem qk_inst_Right (w : World) (vs : Array Value) : (callFunc 13 vs).run Tryz.prog w = .ok (.enter 13 vs) w := by simp [go_sem]
theorem qk_rushlightref06_Text (w : World) (vs : Array Value) : (callFunc 16 vs).run Tryz.prog w = .ok (.enter 16 vs) w := by simp [go_sem]
theorem LsLaid.fr {w w' : World} (h : LsLaid w) (f : Fr (fun _ => False) w w') : LsLaid w' := ⟨h.er.fr f id id, h.ml.fr f id, h.tab.fr f id, f.cell h.db id, by have := f.size; have := h.lt; omega⟩
theorem t_awk (w : World) (h : LsLaid w) : Calls Tryz.prog 10 #[] w fun e w' => e = .returned (.bool true) ∧ Fr (fun _ => False) w w' := t_awake w h.er h.ml h.tab h.db h.lt
theorem fits_N {rd r1 r2 imm f : Int} (h : fitsB rd r1 r2 imm f = true) : N64 rd ∧ N64 r1 ∧ N64 r2 ∧ N64 imm ∧ f ≠ 0 := by
  have hr := fits_regs h
  unfold fitsB at h
  simp only [Bool.and_eq_true, bne_iff_ne, ne_eq, beq_iff_eq] at h
  obtain ⟨⟨⟨⟨h0, h1⟩, h2⟩, h3⟩, h4⟩ := h
  refine ⟨I64.N (by omega), I64.N (by omega), I64.N (by omega), ?_, h0⟩
  rw [← h4]
  exact gathS_N _ _
theorem read_some {s : List UInt8} {i : I5} (h : readT s = some i) : fitsB i.rd i.r1 i.r2 i.imm (fm (ix i.op)) = true ∧ lineT i.op i.rd i.r1 i.r2 i.imm = s := by
  unfold readT at h
  split at h
  · split at h
    · rename_i hq
      injection h with h
      subst h
      exact hq
    · cases h
  · cases h
theorem t_right (i : I5) (hf : fitsB i.rd i.r1 i.r2 i.imm (fm (ix i.op)) = true) (w : World) : Calls Tryz.prog 13 #[.agg #[.int .i64 i.op, .int .i64 i.rd, .int .i64 i.r1, .int .i64 i.r2, .int .i64 i.imm]] w fun e w' => e = .returned (.bool true) ∧ Fr (fun _ => False) w w' :=
  (c13 i.op i.rd i.r1 i.r2 i.imm w).mono fun e w' q => ⟨by rw [q.1, hf], Fr.of_grown q.2⟩
theorem bd_0 (w : World) : (Instr.build 23 #[]).run Tryz.prog w = .ok (.agg #[.int .i64 0, .int .i64 0, .int .i64 0, .int .i64 0, .int .i64 0]) w := by simp [go_sem]
theorem bn_eqSame (w : World) (x y : Operand) (a b c d e : Int) : (do eqGuard .eql 23 x y (.agg #[.int .i64 a, .int .i64 b, .int .i64 c, .int .i64 d, .int .i64 e]) (.agg #[.int .i64 a, .int .i64 b, .int .i64 c, .int .i64 d, .int .i64 e]); binOp .eql 23 (.agg #[.int .i64 a, .int .i64 b, .int .i64 c, .int .i64 d, .int .i64 e]) (.agg #[.int .i64 a, .int .i64 b, .int .i64 c, .int .i64 d, .int .i64 e]) : Sem Value).run Tryz.prog w = .ok (.bool true) w := by simp [go_sem]
set_option maxRecDepth 100000 in
theorem walk_reads (s : List UInt8) (w : World) (hL : LsLaid w) : Calls Tryz.prog 4 #[bts s] w fun e w' => e = .returned (.bool true) ∧ Fr (fun _ => False) w w' := by
  have hL0 := hL
  have ff := Fr.refl (fun _ => False) w
  refine calls_tw Tryz.func4 rfl rfl (Nat.le_of_ble_eq_true rfl) ?_
  refine TW.sreg ?_
  refine WL.op rfl rfl rfl (Go.Proofs.YtlagdgkjpnocfaaGreatDoor.W.quiet_assign rfl rfl) ?_
  refine WL.nil ?_
  refine TW.seq ?_
  refine TW.sreg ?_
  refine WL.op rfl rfl rfl (Go.Proofs.YtlagdgkjpnocfaaGreatDoor.W.quiet_move rfl rfl) ?_
  refine O.len rfl rfl rfl rfl rfl (qn_string _ _) ?_
  refine WL.op rfl rfl rfl (Go.Proofs.YtlagdgkjpnocfaaGreatDoor.W.quiet_bin rfl rfl rfl (fun W => qb_gtr_int W _ _ _ _)) ?_
  refine O.split (fun hb => ?_) (fun hb => ?_)
  · skip
    refine WL.nil ?_
    refine TW.cond rfl (fun _ => ?_) (fun hb => by cases hb)
    refine TW.sreg ?_
    refine WL.call (hr := t_awk _ hL) rfl rfl rfl rfl rfl (fun W => qk_rushlightlaw06_awake W _) ?_
    rintro e w9 ⟨rfl, f9⟩
    refine ⟨_, rfl, ?_⟩
    replace ff := ff.trans f9
    replace hL := hL0.fr ff
    refine WL.op rfl rfl rfl (Go.Proofs.YtlagdgkjpnocfaaGreatDoor.W.quiet_assign rfl rfl) ?_
    refine WL.nil ?_
    refine TW.rt ?_
    refine Xw.thn (by simp) ?_
    refine bodyw_ret rfl rfl ?_
    exact ⟨rfl, ff⟩
  · skip
    have KR := t_read s (by have := of_decide_eq_false hb; omega) w hL.er hL.ml hL.tab
    refine WL.nil ?_
    cases hR : readT s
    · rw [hR] at KR
      refine TW.cond rfl (fun hb => by cases hb) (fun _ => ?_)
      refine TW.skip ?_
      refine TW.sreg ?_
      refine WL.op rfl rfl rfl (Go.Proofs.YtlagdgkjpnocfaaGreatDoor.W.quiet_move rfl rfl) ?_
      refine WL.call (hr := KR) rfl rfl rfl rfl rfl (fun W => qk_listing_Read W _) ?_
      rintro e w1 ⟨rfl, f1⟩
      refine ⟨.tuple #[.agg #[.int .i64 0, .int .i64 0, .int .i64 0, .int .i64 0, .int .i64 0], .int .i64 3], rfl, ?_⟩
      replace ff := ff.trans f1
      replace hL := hL0.fr ff
      refine WL.op rfl rfl rfl (Go.Proofs.YtlagdgkjpnocfaaGreatDoor.W.quiet_move rfl rfl) ?_
      refine O.ext rfl rfl rfl rfl rfl rfl ?_
      refine O.ext rfl rfl rfl rfl rfl rfl ?_
      have lw1 := ff.size
      refine O.allocR rfl rfl rfl rfl (qzR_api_Inst w1) ?_
      rintro wa1 ⟨fa1, bx1⟩
      replace ff := ff.trans fa1
      replace hL := hL0.fr ff
      refine O.storeR rfl rfl rfl rfl rfl (qsA_api_Inst wa1 _ _ _ _ _ _ _ _ _ _ _ bx1) ?_
      rintro wa2 ⟨fa2, bx1x⟩
      replace ff := ff.trans' fa2 (fun q hq e => by omega)
      replace hL := hL0.fr ff
      clear bx1
      have bx1 := bx1x
      clear bx1x
      refine WL.op rfl rfl rfl (Go.Proofs.YtlagdgkjpnocfaaGreatDoor.W.quiet_assign rfl rfl) ?_
      refine WL.nil ?_
      refine TW.seq ?_
      refine TW.sreg ?_
      refine WL.op rfl rfl rfl (Go.Proofs.YtlagdgkjpnocfaaGreatDoor.W.quiet_move rfl rfl) ?_
      refine WL.op rfl rfl rfl (Go.Proofs.YtlagdgkjpnocfaaGreatDoor.W.quiet_bin rfl rfl rfl (fun W => qb_neq_api_Errno W _ _ _ _)) ?_
      refine O.split (fun hb => ?_) (fun hb => by exfalso; revert hb; first | (simp; done) | (simp; omega))
      refine WL.nil ?_
      refine TW.cond rfl (fun _ => ?_) (fun hb => by cases hb)
      refine TW.sreg ?_
      refine WL.call (hr := t_awk _ hL) rfl rfl rfl rfl rfl (fun W => qk_rushlightlaw06_awake W _) ?_
      rintro e w9 ⟨rfl, f9⟩
      refine ⟨_, rfl, ?_⟩
      replace bx1 := bx1.fr f9 id
      replace ff := ff.trans f9
      replace hL := hL0.fr ff
      refine O.split (fun hb => ?_) (fun hb => by exfalso; revert hb; first | (simp; done) | (simp; omega))
      refine WL.op rfl rfl rfl (Go.Proofs.YtlagdgkjpnocfaaGreatDoor.W.quiet_move rfl rfl) ?_
      refine WL.op rfl rfl rfl (Go.Proofs.YtlagdgkjpnocfaaGreatDoor.W.quiet_move rfl rfl) ?_
      refine WL.op rfl rfl rfl (Go.Proofs.YtlagdgkjpnocfaaGreatDoor.W.quiet_bin rfl rfl rfl (fun W => qb_eql_api_Errno W _ _ _ _)) ?_
      refine O.split (fun hb => ?_) (fun hb => by exfalso; revert hb; first | (simp; done) | (simp; omega))
      refine WL.op rfl rfl rfl (Go.Proofs.YtlagdgkjpnocfaaGreatDoor.W.quiet_pick rfl rfl rfl) ?_
      refine WL.op rfl rfl rfl (Go.Proofs.YtlagdgkjpnocfaaGreatDoor.W.quiet_move rfl rfl) ?_
      refine WL.ld rfl rfl rfl rfl rfl (qlB_api_Inst _ _ _ _ _ _ _ _ bx1) ?_
      refine O.bld rfl rfl rfl rfl rfl (bd_0 _) ?_
      refine WL.op rfl rfl rfl (Go.Proofs.YtlagdgkjpnocfaaGreatDoor.W.quiet_bin rfl rfl rfl (fun W => bn_eqSame W _ _ _ _ _ _ _)) ?_
      refine O.split (fun hb => ?_) (fun hb => by exfalso; revert hb; first | (simp; done) | (simp; omega))
      refine WL.op rfl rfl rfl (Go.Proofs.YtlagdgkjpnocfaaGreatDoor.W.quiet_pick rfl rfl rfl) ?_
      refine WL.op rfl rfl rfl (Go.Proofs.YtlagdgkjpnocfaaGreatDoor.W.quiet_assign rfl rfl) ?_
      refine WL.nil ?_
      refine TW.rt ?_
      refine Xw.thn (by simp) ?_
      refine bodyw_ret rfl rfl ?_
      exact ⟨rfl, ff⟩
    · rename_i i
      rw [hR] at KR
      obtain ⟨hfit, hline⟩ := read_some hR
      obtain ⟨n1, n2, n3, n4, n5⟩ := fits_N hfit
      refine TW.cond rfl (fun hb => by cases hb) (fun _ => ?_)
      refine TW.skip ?_
      refine TW.sreg ?_
      refine WL.op rfl rfl rfl (Go.Proofs.YtlagdgkjpnocfaaGreatDoor.W.quiet_move rfl rfl) ?_
      refine WL.call (hr := KR) rfl rfl rfl rfl rfl (fun W => qk_listing_Read W _) ?_
      rintro e w1 ⟨rfl, f1⟩
      refine ⟨.tuple #[.agg #[.int .i64 i.op, .int .i64 i.rd, .int .i64 i.r1, .int .i64 i.r2, .int .i64 i.imm], .int .i64 0], rfl, ?_⟩
      replace ff := ff.trans f1
      replace hL := hL0.fr ff
      refine WL.op rfl rfl rfl (Go.Proofs.YtlagdgkjpnocfaaGreatDoor.W.quiet_move rfl rfl) ?_
      refine O.ext rfl rfl rfl rfl rfl rfl ?_
      refine O.ext rfl rfl rfl rfl rfl rfl ?_
      have lw2 := ff.size
      refine O.allocR rfl rfl rfl rfl (qzR_api_Inst w1) ?_
      rintro wa3 ⟨fa3, bx2⟩
      replace ff := ff.trans fa3
      replace hL := hL0.fr ff
      refine O.storeR rfl rfl rfl rfl rfl (qsA_api_Inst wa3 _ _ _ _ _ _ _ _ _ _ _ bx2) ?_
      rintro wa4 ⟨fa4, bx2x⟩
      replace ff := ff.trans' fa4 (fun q hq e => by omega)
      replace hL := hL0.fr ff
      clear bx2
      have bx2 := bx2x
      clear bx2x
      refine WL.op rfl rfl rfl (Go.Proofs.YtlagdgkjpnocfaaGreatDoor.W.quiet_assign rfl rfl) ?_
      refine WL.nil ?_
      refine TW.seq ?_
      refine TW.sreg ?_
      refine WL.op rfl rfl rfl (Go.Proofs.YtlagdgkjpnocfaaGreatDoor.W.quiet_move rfl rfl) ?_
      refine WL.op rfl rfl rfl (Go.Proofs.YtlagdgkjpnocfaaGreatDoor.W.quiet_bin rfl rfl rfl (fun W => qb_neq_api_Errno W _ _ _ _)) ?_
      refine O.split (fun hb => by exfalso; revert hb; first | (simp; done) | (simp; omega)) (fun hb => ?_)
      refine WL.nil ?_
      refine TW.cond rfl (fun hb => by cases hb) (fun _ => ?_)
      refine TW.skip ?_
      refine TW.sreg ?_
      refine WL.call (hr := t_awk _ hL) rfl rfl rfl rfl rfl (fun W => qk_rushlightlaw06_awake W _) ?_
      rintro e w9 ⟨rfl, f9⟩
      refine ⟨_, rfl, ?_⟩
      replace bx2 := bx2.fr f9 id
      replace ff := ff.trans f9
      replace hL := hL0.fr ff
      refine O.split (fun hb => ?_) (fun hb => by exfalso; revert hb; first | (simp; done) | (simp; omega))
      refine WL.op rfl rfl rfl (Go.Proofs.YtlagdgkjpnocfaaGreatDoor.W.quiet_move rfl rfl) ?_
      refine WL.ld rfl rfl rfl rfl rfl (qlB_api_Inst _ _ _ _ _ _ _ _ bx2) ?_
      refine WL.call (hr := t_right i hfit _) rfl rfl rfl rfl rfl (fun W => qk_inst_Right W _) ?_
      rintro e w8 ⟨rfl, f8⟩
      refine ⟨_, rfl, ?_⟩
      replace bx2 := bx2.fr f8 id
      replace ff := ff.trans f8
      replace hL := hL0.fr ff
      refine O.split (fun hb => ?_) (fun hb => by exfalso; revert hb; first | (simp; done) | (simp; omega))
      refine WL.op rfl rfl rfl (Go.Proofs.YtlagdgkjpnocfaaGreatDoor.W.quiet_pick rfl rfl rfl) ?_
      refine WL.op rfl rfl rfl (Go.Proofs.YtlagdgkjpnocfaaGreatDoor.W.quiet_move rfl rfl) ?_
      refine WL.ld rfl rfl rfl rfl rfl (qlB_api_Inst _ _ _ _ _ _ _ _ bx2) ?_
      refine WL.call (hr := t_rline i.op i.rd i.r1 i.r2 i.imm n1 n2 n3 n4 n5 _) rfl rfl rfl rfl rfl (fun W => qk_rushlightref06_Line W _) ?_
      rintro e w7 ⟨rfl, f7⟩
      refine ⟨_, rfl, ?_⟩
      replace bx2 := bx2.fr f7 id
      replace ff := ff.trans f7
      replace hL := hL0.fr ff
      refine WL.op rfl rfl rfl (Go.Proofs.YtlagdgkjpnocfaaGreatDoor.W.quiet_move rfl rfl) ?_
      refine WL.op rfl rfl rfl (Go.Proofs.YtlagdgkjpnocfaaGreatDoor.W.quiet_bin rfl rfl rfl (fun W => bn_eqs W _ _ _ _)) ?_
      refine O.split (fun hb => ?_) (fun hb => by exfalso; rw [hline] at hb; simp at hb)
      refine WL.op rfl rfl rfl (Go.Proofs.YtlagdgkjpnocfaaGreatDoor.W.quiet_pick rfl rfl rfl) ?_
      refine WL.op rfl rfl rfl (Go.Proofs.YtlagdgkjpnocfaaGreatDoor.W.quiet_assign rfl rfl) ?_
      refine WL.nil ?_
      refine TW.rt ?_
      refine bodyw_ret rfl rfl ?_
      exact ⟨rfl, ff⟩
theorem U32s.at {w W : World} {v : Value} {ws : List Nat} (h : U32s w.heap.size W v ws) : ∃ a c, v = .slice a ws.length c ∧ U32At W a ws := by
  obtain ⟨a, c, rfl, hc⟩ := h.form
  refine ⟨a, c, rfl, fun k hk => ?_⟩
  obtain ⟨g, rfl, _, hg⟩ := hc k ws[k] (by simp [hk])
  exact ⟨g, 0, rfl, by rw [Nat.zero_add, hg]; simp [List.getD_eq_getElem?_getD, hk]⟩
theorem U32At.fr {w w' : World} {a : Option Addr} {l : List Nat} (h : U32At w a l) (f : Fr (fun _ => False) w w') : U32At w' a l := fun k hk => by
  obtain ⟨g, o, e, hc⟩ := h k hk
  exact ⟨g, o, e, f.cell hc id⟩
set_option maxRecDepth 100000 in
theorem walk_words (s : List UInt8) (w : World) (hL : LsLaid w) : Calls Tryz.prog 6 #[bts s] w fun e w' => e = .returned (.bool true) ∧ Fr (fun _ => False) w w' := by
  have hL0 := hL
  have ff := Fr.refl (fun _ => False) w
  refine calls_tw Tryz.func6 rfl rfl (Nat.le_of_ble_eq_true rfl) ?_
  refine TW.sreg ?_
  refine WL.op rfl rfl rfl (Go.Proofs.YtlagdgkjpnocfaaGreatDoor.W.quiet_assign rfl rfl) ?_
  refine WL.nil ?_
  refine TW.seq ?_
  refine TW.sreg ?_
  refine WL.op rfl rfl rfl (Go.Proofs.YtlagdgkjpnocfaaGreatDoor.W.quiet_move rfl rfl) ?_
  refine O.len rfl rfl rfl rfl rfl (qn_string _ _) ?_
  refine WL.op rfl rfl rfl (Go.Proofs.YtlagdgkjpnocfaaGreatDoor.W.quiet_bin rfl rfl rfl (fun W => qb_gtr_int W _ _ _ _)) ?_
  refine O.split (fun hb => ?_) (fun hb => ?_)
  · skip
    refine WL.nil ?_
    refine TW.cond rfl (fun _ => ?_) (fun hb => by cases hb)
    refine TW.sreg ?_
    refine WL.call (hr := t_awk _ hL) rfl rfl rfl rfl rfl (fun W => qk_rushlightlaw06_awake W _) ?_
    rintro e w9 ⟨rfl, f9⟩
    refine ⟨_, rfl, ?_⟩
    replace ff := ff.trans f9
    replace hL := hL0.fr ff
    refine WL.op rfl rfl rfl (Go.Proofs.YtlagdgkjpnocfaaGreatDoor.W.quiet_assign rfl rfl) ?_
    refine WL.nil ?_
    refine TW.rt ?_
    refine Xw.thn (by simp) ?_
    refine bodyw_ret rfl rfl ?_
    exact ⟨rfl, ff⟩
  · skip
    have KW := t_words s (by have := of_decide_eq_false hb; omega) w hL.er hL.ml hL.tab hL.db
    unfold WdsP at KW
    refine WL.nil ?_
    cases hR : wdsR s []
    · rw [hR] at KW
      refine TW.cond rfl (fun hb => by cases hb) (fun _ => ?_)
      refine TW.skip ?_
      refine TW.sreg ?_
      refine WL.op rfl rfl rfl (Go.Proofs.YtlagdgkjpnocfaaGreatDoor.W.quiet_move rfl rfl) ?_
      refine WL.call (hr := KW) rfl rfl rfl rfl rfl (fun W => qk_listing_Words W _) ?_
      rintro e w1 ⟨rfl, f1⟩
      refine ⟨.tuple #[.slice none 0 0, .int .i64 3], rfl, ?_⟩
      replace ff := ff.trans f1
      replace hL := hL0.fr ff
      refine WL.op rfl rfl rfl (Go.Proofs.YtlagdgkjpnocfaaGreatDoor.W.quiet_move rfl rfl) ?_
      refine O.ext rfl rfl rfl rfl rfl rfl ?_
      refine O.ext rfl rfl rfl rfl rfl rfl ?_
      refine WL.op rfl rfl rfl (Go.Proofs.YtlagdgkjpnocfaaGreatDoor.W.quiet_assign rfl rfl) ?_
      refine WL.op rfl rfl rfl (Go.Proofs.YtlagdgkjpnocfaaGreatDoor.W.quiet_assign rfl rfl) ?_
      refine WL.nil ?_
      refine TW.seq ?_
      refine TW.sreg ?_
      refine WL.op rfl rfl rfl (Go.Proofs.YtlagdgkjpnocfaaGreatDoor.W.quiet_move rfl rfl) ?_
      refine WL.op rfl rfl rfl (Go.Proofs.YtlagdgkjpnocfaaGreatDoor.W.quiet_bin rfl rfl rfl (fun W => qb_neq_api_Errno W _ _ _ _)) ?_
      refine O.split (fun hb => ?_) (fun hb => by exfalso; revert hb; first | (simp; done) | (simp; omega))
      refine WL.nil ?_
      refine TW.cond rfl (fun _ => ?_) (fun hb => by cases hb)
      refine TW.sreg ?_
      refine WL.call (hr := t_awk _ hL) rfl rfl rfl rfl rfl (fun W => qk_rushlightlaw06_awake W _) ?_
      rintro e w9 ⟨rfl, f9⟩
      refine ⟨_, rfl, ?_⟩
      replace ff := ff.trans f9
      replace hL := hL0.fr ff
      refine O.split (fun hb => ?_) (fun hb => by exfalso; revert hb; first | (simp; done) | (simp; omega))
      refine WL.op rfl rfl rfl (Go.Proofs.YtlagdgkjpnocfaaGreatDoor.W.quiet_move rfl rfl) ?_
      refine WL.op rfl rfl rfl (Go.Proofs.YtlagdgkjpnocfaaGreatDoor.W.quiet_move rfl rfl) ?_
      refine WL.op rfl rfl rfl (Go.Proofs.YtlagdgkjpnocfaaGreatDoor.W.quiet_bin rfl rfl rfl (fun W => qb_eql_api_Errno W _ _ _ _)) ?_
      refine O.split (fun hb => ?_) (fun hb => by exfalso; revert hb; first | (simp; done) | (simp; omega))
      refine WL.op rfl rfl rfl (Go.Proofs.YtlagdgkjpnocfaaGreatDoor.W.quiet_pick rfl rfl rfl) ?_
      refine WL.op rfl rfl rfl (Go.Proofs.YtlagdgkjpnocfaaGreatDoor.W.quiet_move rfl rfl) ?_
      refine WL.op rfl rfl rfl (Go.Proofs.YtlagdgkjpnocfaaGreatDoor.W.quiet_move rfl rfl) ?_
      refine O.len rfl rfl rfl rfl rfl (qn_s_uint32 _ _ _ _) ?_
      refine WL.op rfl rfl rfl (Go.Proofs.YtlagdgkjpnocfaaGreatDoor.W.quiet_bin rfl rfl rfl (fun W => qb_eql_int W _ _ _ _)) ?_
      refine O.split (fun hb => ?_) (fun hb => by exfalso; revert hb; first | (simp; done) | (simp; omega))
      refine WL.op rfl rfl rfl (Go.Proofs.YtlagdgkjpnocfaaGreatDoor.W.quiet_pick rfl rfl rfl) ?_
      refine WL.op rfl rfl rfl (Go.Proofs.YtlagdgkjpnocfaaGreatDoor.W.quiet_assign rfl rfl) ?_
      refine WL.nil ?_
      refine TW.rt ?_
      refine Xw.thn (by simp) ?_
      refine bodyw_ret rfl rfl ?_
      exact ⟨rfl, ff⟩
    · rename_i ws
      rw [hR] at KW
      refine TW.cond rfl (fun hb => by cases hb) (fun _ => ?_)
      refine TW.skip ?_
      refine TW.sreg ?_
      refine WL.op rfl rfl rfl (Go.Proofs.YtlagdgkjpnocfaaGreatDoor.W.quiet_move rfl rfl) ?_
      refine WL.call (hr := KW) rfl rfl rfl rfl rfl (fun W => qk_listing_Words W _) ?_
      rintro e w1 ⟨⟨v, rfl, hU, hwl, htx, hlt⟩, f1⟩
      refine ⟨.tuple #[v, .int .i64 0], rfl, ?_⟩
      replace ff := ff.trans f1
      replace hL := hL0.fr ff
      obtain ⟨ad, c, rfl, hat⟩ := hU.at
      refine WL.op rfl rfl rfl (Go.Proofs.YtlagdgkjpnocfaaGreatDoor.W.quiet_move rfl rfl) ?_
      refine O.ext rfl rfl rfl rfl rfl rfl ?_
      refine O.ext rfl rfl rfl rfl rfl rfl ?_
      refine WL.op rfl rfl rfl (Go.Proofs.YtlagdgkjpnocfaaGreatDoor.W.quiet_assign rfl rfl) ?_
      refine WL.op rfl rfl rfl (Go.Proofs.YtlagdgkjpnocfaaGreatDoor.W.quiet_assign rfl rfl) ?_
      refine WL.nil ?_
      refine TW.seq ?_
      refine TW.sreg ?_
      refine WL.op rfl rfl rfl (Go.Proofs.YtlagdgkjpnocfaaGreatDoor.W.quiet_move rfl rfl) ?_
      refine WL.op rfl rfl rfl (Go.Proofs.YtlagdgkjpnocfaaGreatDoor.W.quiet_bin rfl rfl rfl (fun W => qb_neq_api_Errno W _ _ _ _)) ?_
      refine O.split (fun hb => by exfalso; revert hb; first | (simp; done) | (simp; omega)) (fun hb => ?_)
      refine WL.nil ?_
      refine TW.cond rfl (fun hb => by cases hb) (fun _ => ?_)
      refine TW.skip ?_
      refine TW.sreg ?_
      refine WL.call (hr := t_awk _ hL) rfl rfl rfl rfl rfl (fun W => qk_rushlightlaw06_awake W _) ?_
      rintro e w9 ⟨rfl, f9⟩
      refine ⟨_, rfl, ?_⟩
      replace ff := ff.trans f9
      replace hL := hL0.fr ff
      replace hat := hat.fr f9
      refine O.split (fun hb => ?_) (fun hb => by exfalso; revert hb; first | (simp; done) | (simp; omega))
      refine WL.op rfl rfl rfl (Go.Proofs.YtlagdgkjpnocfaaGreatDoor.W.quiet_move rfl rfl) ?_
      refine WL.op rfl rfl rfl (Go.Proofs.YtlagdgkjpnocfaaGreatDoor.W.quiet_move rfl rfl) ?_
      refine WL.call (hr := t_rtext ad c ws hwl hlt _ hat) rfl rfl rfl rfl rfl (fun W => qk_rushlightref06_Text W _) ?_
      rintro e w7 ⟨rfl, f7⟩
      refine ⟨_, rfl, ?_⟩
      replace ff := ff.trans f7
      replace hL := hL0.fr ff
      refine WL.op rfl rfl rfl (Go.Proofs.YtlagdgkjpnocfaaGreatDoor.W.quiet_move rfl rfl) ?_
      refine WL.op rfl rfl rfl (Go.Proofs.YtlagdgkjpnocfaaGreatDoor.W.quiet_bin rfl rfl rfl (fun W => bn_eqs W _ _ _ _)) ?_
      refine O.split (fun hb => ?_) (fun hb => by exfalso; rw [htx] at hb; simp at hb)
      refine WL.op rfl rfl rfl (Go.Proofs.YtlagdgkjpnocfaaGreatDoor.W.quiet_pick rfl rfl rfl) ?_
      refine WL.op rfl rfl rfl (Go.Proofs.YtlagdgkjpnocfaaGreatDoor.W.quiet_assign rfl rfl) ?_
      refine WL.nil ?_
      refine TW.rt ?_
      refine bodyw_ret rfl rfl ?_
      exact ⟨rfl, ff⟩
theorem dg_nat {r : Nat} (h : r < 10) : (UInt8.ofNat (48 + r)).toNat = 48 + r := by
  have q : ∀ r : Fin 10, (UInt8.ofNat (48 + r.val)).toNat = 48 + r.val := by decide
  exact q ⟨r, h⟩
/-- The digits of a number, read. -/
theorem pu_dec : ∀ (n u : Nat) (r : List UInt8), u < n → u < 100000000000000000 → Lib.parseUint10 0 (Lib.decDigits u ++ r) = Lib.parseUint10 u r
  | 0, u, r, h, _ => absurd h (by omega)
  | n + 1, u, r, h, hu => by
    by_cases h10 : u < 10
    · rw [Lib.decDigits_one h10]
      show Lib.parseUint10 0 (UInt8.ofNat (48 + u) :: r) = _
      rw [Lib.parseUint10, dg_nat h10, if_pos (by omega), if_neg (by omega), if_neg (by omega)]
      congr 1
      omega
    · rw [dec_step (by omega), List.append_assoc, pu_dec n (u / 10) _ (by omega) (by omega)]
      show Lib.parseUint10 (u / 10) (UInt8.ofNat (48 + u % 10) :: r) = _
      rw [Lib.parseUint10, dg_nat (Nat.mod_lt _ (by decide)), if_pos (by omega), if_neg (by omega), if_neg (by omega)]
      congr 1
      omega
theorem dec_ne (u : Nat) : Lib.decDigits u ≠ [] := by
  by_cases h : u < 10
  · rw [Lib.decDigits_one h]; simp
  · rw [dec_step (by omega)]; simp
theorem mag_dec {u : Nat} (hu : u < 100000000000000000) : Lib.parseMag (Lib.decDigits u) = .ok u := by
  unfold Lib.parseMag
  rw [if_neg (dec_ne u)]
  have := pu_dec (u + 1) u [] (by omega) hu
  rw [List.append_nil] at this
  rw [this]
  rfl
/-- The bytes of a number. -/
theorem dec_mem : ∀ (n u : Nat), u < n → ∀ b ∈ Lib.decDigits u, 48 ≤ b.toNat ∧ b.toNat ≤ 57
  | 0, u, h => absurd h (by omega)
  | n + 1, u, h => by
    intro b hb
    by_cases h10 : u < 10
    · rw [Lib.decDigits_one h10] at hb
      simp only [List.mem_singleton] at hb
      subst hb
      rw [dg_nat h10]
      omega
    · rw [dec_step (by omega)] at hb
      rcases List.mem_append.1 hb with hb | hb
      · exact dec_mem n (u / 10) (by omega) b hb
      · simp only [List.mem_singleton] at hb
        subst hb
        rw [dg_nat (Nat.mod_lt _ (by decide))]
        omega
theorem itoa_mem (n : Int) : ∀ b ∈ Lib.itoa n, b = 45 ∨ (48 ≤ b.toNat ∧ b.toNat ≤ 57) := by
  intro b hb
  by_cases h : n < 0
  · obtain ⟨u, rfl⟩ : ∃ u : Nat, n = -(u : Int) := ⟨n.natAbs, by omega⟩
    rw [Lib.itoa_neg u (by omega)] at hb
    rcases List.mem_cons.1 hb with hb | hb
    · exact .inl hb
    · exact .inr (dec_mem (u + 1) u (by omega) b hb)
  · obtain ⟨u, rfl⟩ : ∃ u : Nat, n = (u : Int) := ⟨n.toNat, by omega⟩
    rw [Lib.itoa_nonneg] at hb
    exact .inr (dec_mem (u + 1) u (by omega) b hb)
theorem num_back {n : Int} (h : -4294967296 ≤ n ∧ n ≤ 4294967296) : numR (Lib.itoa n) = (n, true) := by
  unfold numR
  by_cases hn : n < 0
  · obtain ⟨u, rfl⟩ : ∃ u : Nat, n = -(u : Int) := ⟨n.natAbs, by omega⟩
    rw [Lib.itoa_neg u (by omega), Lib.atoiAll_minus, mag_dec (by omega)]
    simp only [Lib.signed]
    rw [if_neg (by omega)]
  · obtain ⟨u, rfl⟩ : ∃ u : Nat, n = (u : Int) := ⟨n.toNat, by omega⟩
    rw [Lib.itoa_nonneg]
    have hm := dec_mem (u + 1) u (by omega)
    have hq := mag_dec (u := u) (by omega)
    cases e : Lib.decDigits u with
    | nil => exact absurd e (dec_ne u)
    | cons c r =>
      have hc := hm c (by rw [e]; simp)
      rw [Lib.atoiAll_plain c r (by omega) (by omega), ← e, hq]
      simp only [Lib.signless]
      rw [if_neg (by omega)]
theorem pre_self (p l : List UInt8) : Lib.hasPrefix (p ++ l) p = true := by
  unfold Lib.hasPrefix
  rw [List.isPrefixOf_iff_prefix]
  exact List.prefix_append p l
theorem trim_self (p l : List UInt8) : Lib.trimPrefix (p ++ l) p = l := by
  unfold Lib.trimPrefix
  rw [if_pos (pre_self p l), List.drop_left]
theorem reg_back {n : Int} (h : -4294967296 ≤ n ∧ n ≤ 4294967296) : regR (regT n) = some (n, true) := by
  have e : regT n = [120] ++ Lib.itoa n := rfl
  unfold regR
  rw [e, pre_self, if_pos rfl, trim_self, num_back h]
theorem occ_no {a b : List UInt8} {c : UInt8} {t : List UInt8} (ha : c ∉ a) {j : Nat} (hj : j < a.length) : Lib.occAt (a ++ b) (c :: t) j = false := by
  cases h : Lib.occAt (a ++ b) (c :: t) j
  · rfl
  · have := Lib.occAt_head rfl h
    rw [List.getElem?_append_left hj] at this
    exact absurd (List.mem_of_getElem? this) ha
theorem occ_yes (a b sep : List UInt8) : Lib.occAt (a ++ (sep ++ b)) sep a.length = true := by
  unfold Lib.occAt
  rw [List.drop_left, List.isPrefixOf_iff_prefix]
  exact List.prefix_append sep b
theorem index_at {a b : List UInt8} {c : UInt8} {t : List UInt8} (ha : c ∉ a) : Lib.index (a ++ ((c :: t) ++ b)) (c :: t) = (a.length : Int) :=
  Lib.index_first (by simp) (occ_yes a b (c :: t)) (fun j hj => occ_no ha hj)
theorem index_no {a : List UInt8} {c : UInt8} {t : List UInt8} (ha : c ∉ a) : Lib.index a (c :: t) = -1 :=
  Lib.index_none fun j hj => by
    cases h : Lib.occAt a (c :: t) j
    · rfl
    · exact absurd (List.mem_of_getElem? (Lib.occAt_head rfl h)) ha
/-- A text cut where a byte stands for the first time. -/
theorem cut_at {a b : List UInt8} {c : UInt8} {t : List UInt8} (ha : c ∉ a) : Lib.cut (a ++ ((c :: t) ++ b)) (c :: t) = (a, b, true) := by
  unfold Lib.cut
  rw [index_at ha, if_pos (by omega)]
  simp only [Int.toNat_natCast]
  rw [List.take_left, show a.length + (c :: t).length = a.length + (c :: t).length from rfl, ← List.drop_drop, List.drop_left, List.drop_left]
theorem splitK_join {c : UInt8} {t : List UInt8} : ∀ (ps : List (List UInt8)) (k : Nat), ps ≠ [] → (∀ p ∈ ps, c ∉ p) → ps.length ≤ k + 1 → Lib.splitK (c :: t) 0 k (Lib.join ps (c :: t)) = ps
  | [], k, h, _, _ => absurd rfl h
  | [p], k, _, hc, _ => by
    rw [Lib.join_one]
    cases k with
    | zero => rfl
    | succ k =>
      unfold Lib.splitK
      rw [index_no (hc p (by simp))]
      rfl
  | p :: q :: ps, k, _, hc, hk => by
    have e : Lib.join (p :: q :: ps) (c :: t) = p ++ ((c :: t) ++ Lib.join (q :: ps) (c :: t)) := by
      simp [Lib.join, List.intercalate]
    cases k with
    | zero => simp at hk
    | succ k =>
      rw [e]
      unfold Lib.splitK
      rw [index_at (hc p (by simp))]
      rw [if_neg (by simp)]
      simp only [Int.toNat_natCast, Nat.add_zero]
      rw [List.take_left, ← List.drop_drop, List.drop_left, List.drop_left, splitK_join (q :: ps) k (by simp) (fun x hx => hc x (by simp [hx])) (by simp at hk ⊢; omega)]
theorem join_long {c : UInt8} {t : List UInt8} : ∀ (ps : List (List UInt8)), ps ≠ [] → (∀ p ∈ ps, p ≠ []) → ps.length ≤ (Lib.join ps (c :: t)).length
  | [], h, _ => absurd rfl h
  | [p], _, h => by
    have := h p (by simp)
    rw [Lib.join_one]
    cases p with
    | nil => exact absurd rfl this
    | cons x l => simp
  | p :: q :: ps, _, h => by
    have e : Lib.join (p :: q :: ps) (c :: t) = p ++ ((c :: t) ++ Lib.join (q :: ps) (c :: t)) := by
      simp [Lib.join, List.intercalate]
    have := join_long (c := c) (t := t) (q :: ps) (by simp) (fun x hx => h x (by simp [hx]))
    rw [e]
    simp at this ⊢
    omega
theorem prts_back (ps : List (List UInt8)) (h0 : ps ≠ []) (hc : ∀ p ∈ ps, (44 : UInt8) ∉ p) (hn : ∀ p ∈ ps, p ≠ []) : prtsR (Lib.join ps [44, 32]) (ps.length + 1) = ps := by
  have hl := join_long (c := 44) (t := [32]) ps h0 hn
  unfold prtsR
  rw [Lib.splitB_data]
  exact splitK_join (c := 44) (t := [32]) ps _ h0 hc (by omega)
theorem nm_fin2 : ∀ k : Fin 46, (32 : UInt8) ∉ nmT (k.val : Int) ∧ (10 : UInt8) ∉ nmT (k.val : Int) ∧ (k.val ≠ 0 → Lib.hasPrefix (nmT (k.val : Int)) [46] = false ∧ 0 < (nmT (k.val : Int)).length) := by decide +kernel
theorem nm_once : ∀ j k : Fin 46, nmT (j.val : Int) = nmT (k.val : Int) → j = k := by decide +kernel
theorem opF_back (op : Nat) (h : op < 46) : ∀ n k : Nat, n = op - k → 1 ≤ k → k ≤ op → opF (nmT (op : Int)) k = (op : Int)
  | 0, k, hn, h1, hk => by
    have : k = op := by omega
    subst this
    rw [opF_step, if_pos h, if_pos rfl]
  | n + 1, k, hn, h1, hk => by
    rw [opF_step, if_pos (by omega), if_neg (fun e => by
      have := nm_once ⟨k, by omega⟩ ⟨op, h⟩ e
      injection this with this
      omega)]
    exact opF_back op h n (k + 1) (by omega) (by omega) (by omega)
theorem suf_self (l p : List UInt8) : Lib.hasSuffix (l ++ p) p = true := by
  unfold Lib.hasSuffix
  rw [List.isSuffixOf_iff_suffix]
  exact List.suffix_append l p
theorem suft_self (l p : List UInt8) : Lib.trimSuffix (l ++ p) p = l := by
  unfold Lib.trimSuffix
  rw [if_pos (suf_self l p), List.length_append, Nat.add_sub_cancel, List.take_left]
theorem itoa_no {n : Int} {c : UInt8} (h : c ≠ 45 ∧ (c.toNat < 48 ∨ 57 < c.toNat)) : c ∉ Lib.itoa n := fun hm => by
  rcases itoa_mem n c hm with e | e
  · exact h.1 e
  · omega
theorem regT_no {n : Int} {c : UInt8} (h : c ≠ 120 ∧ c ≠ 45 ∧ (c.toNat < 48 ∨ 57 < c.toNat)) : c ∉ regT n := fun hm => by
  rcases List.mem_cons.1 hm with e | e
  · exact h.1 e
  · exact itoa_no h.2 e
theorem mem_back {n r : Int} (hn : -4294967296 ≤ n ∧ n ≤ 4294967296) (hr : -4294967296 ≤ r ∧ r ≤ 4294967296) (i : I5) : memR (Lib.itoa n ++ [40] ++ regT r ++ [41]) i = ({ i with imm := n, r1 := r }, true) := by
  have e : Lib.itoa n ++ [40] ++ regT r ++ [41] = Lib.itoa n ++ ([40] ++ (regT r ++ [41])) := by simp
  unfold memR
  rw [e, cut_at (a := Lib.itoa n) (b := regT r ++ [41]) (c := 40) (t := []) (itoa_no (by decide))]
  simp only
  rw [suf_self, if_pos rfl, num_back hn, if_pos rfl, suft_self, reg_back hr]
theorem opd_no {rd r1 r2 imm : Int} {o c : UInt8} (h : c ≠ 120 ∧ c ≠ 45 ∧ c ≠ 40 ∧ c ≠ 41 ∧ (c.toNat < 48 ∨ 57 < c.toNat)) : c ∉ opdT rd r1 r2 imm o := by
  have hr := fun n => regT_no (n := n) ⟨h.1, h.2.1, h.2.2.2.2⟩
  have hi := fun n => itoa_no (n := n) ⟨h.2.1, h.2.2.2.2⟩
  unfold opdT
  split
  · exact hr _
  split
  · exact hr _
  split
  · exact hr _
  split
  · intro hm
    simp only [List.mem_append, List.mem_singleton] at hm
    rcases hm with ((hm | hm) | hm) | hm
    · exact hi _ hm
    · exact h.2.2.1 hm
    · exact hr _ hm
    · exact h.2.2.2.1 hm
  · exact hi _
theorem itoa_ne (n : Int) : Lib.itoa n ≠ [] := by
  by_cases h : n < 0
  · obtain ⟨u, rfl⟩ : ∃ u : Nat, n = -(u : Int) := ⟨n.natAbs, by omega⟩
    rw [Lib.itoa_neg u (by omega)]; simp
  · obtain ⟨u, rfl⟩ : ∃ u : Nat, n = (u : Int) := ⟨n.toNat, by omega⟩
    rw [Lib.itoa_nonneg]; exact dec_ne u
theorem opd_ne {rd r1 r2 imm : Int} {o : UInt8} : opdT rd r1 r2 imm o ≠ [] := by
  unfold opdT
  repeat' split
  all_goals first | (unfold regT; simp; done) | (simp; done) | exact itoa_ne _
/-- A number that an instruction may hold. -/
theorem fits_small {rd r1 r2 imm f : Int} (hf : isForm f) (h : fitsB rd r1 r2 imm f = true) : (-4294967296 ≤ rd ∧ rd ≤ 4294967296) ∧ (-4294967296 ≤ r1 ∧ r1 ≤ 4294967296) ∧ (-4294967296 ≤ r2 ∧ r2 ≤ 4294967296) ∧ (-4294967296 ≤ imm ∧ imm ≤ 4294967296) := by
  obtain ⟨a, b, c⟩ := fits_regs h
  unfold fitsB at h
  simp only [Bool.and_eq_true, bne_iff_ne, ne_eq, beq_iff_eq] at h
  have hi : -4294967296 ≤ gathS f (scat f (imm % 4294967296) 4) ∧ gathS f (scat f (imm % 4294967296) 4) ≤ 4294967296 := by
    have := signF_in (immB f) (gath_in2 f (scat f (imm % 4294967296) 4))
    unfold gathS sg
    split <;> omega
  rw [h.2] at hi
  exact ⟨by omega, by omega, by omega, hi⟩
theorem ld_back {op rd r1 r2 imm : Int} (hf : isForm (fm (ix op))) (h : fitsB rd r1 r2 imm (fm (ix op)) = true) : ldR (layT op) ((layT op).map (opdT rd r1 r2 imm)) ⟨op, 0, 0, 0, 0⟩ = some ⟨op, rd, r1, r2, imm⟩ := by
  obtain ⟨s1, s2, s3, s4⟩ := fits_small hf h
  have B1 := reg_back s1
  have B2 := reg_back s2
  have B3 := reg_back s3
  have B4 := num_back s4
  have BM := fun i => mem_back s4 s2 i
  have h' := h
  unfold fitsB at h'
  simp only [Bool.and_eq_true, bne_iff_ne, ne_eq, beq_iff_eq] at h'
  obtain ⟨⟨⟨⟨hn, g1⟩, g2⟩, g3⟩, g4⟩ := h'
  unfold layT
  generalize fm (ix op) = f at *
  rcases hf with rfl | rfl | rfl | rfl | rfl | rfl | rfl | rfl
  · have z1 : r1 = 0 := by simpa [regB, uRs1] using g2
    have z2 : r2 = 0 := by simpa [regB, uRs2] using g3
    subst z1 z2
    simp [layF, ldR, opR, opdT, B1, B4]
  · have z1 : r1 = 0 := by simpa [regB, uRs1] using g2
    have z2 : r2 = 0 := by simpa [regB, uRs2] using g3
    subst z1 z2
    simp [layF, ldR, opR, opdT, B1, B4]
  · have z2 : r2 = 0 := by simpa [regB, uRs2] using g3
    subst z2
    by_cases hl : op = 4 ∨ loadB op = true
    · simp [layF, hl, ldR, opR, opdT, B1]
      have := BM ⟨op, rd, 0, 0, 0⟩
      simp at this
      simp [this]
    · simp [layF, hl, ldR, opR, opdT, B1, B2, B4]
  · have z2 : r2 = 0 := by simpa [regB, uRs2] using g3
    subst z2
    by_cases hl : op = 4 ∨ loadB op = true
    · simp [layF, hl, ldR, opR, opdT, B1]
      have := BM ⟨op, rd, 0, 0, 0⟩
      simp at this
      simp [this]
    · simp [layF, hl, ldR, opR, opdT, B1, B2, B4]
  · have z1 : rd = 0 := by simpa [regB, uRd] using g1
    subst z1
    simp [layF, ldR, opR, opdT, B3]
    have := BM ⟨op, 0, 0, r2, 0⟩
    simp at this
    simp [this]
  · have z1 : rd = 0 := by simpa [regB, uRd] using g1
    subst z1
    simp [layF, ldR, opR, opdT, B2, B3, B4]
  · have zi : imm = 0 := by
      rw [← g4]
      exact gathS_82 (scat_in _ _).1 (scat_in _ _).2
    subst zi
    simp [layF, ldR, opR, opdT, B1, B2, B3]
  · exact absurd rfl hn
theorem line_parse {op rd r1 r2 imm : Int} (h : fitsB rd r1 r2 imm (fm (ix op)) = true) : parseR (lineT op rd r1 r2 imm) = some ⟨op, rd, r1, r2, imm⟩ := by
  obtain ⟨k0, hop, _⟩ := enc_back h
  have hk := ix_lt op
  have hf := fm_form op
  have hlp := lay_pos hk k0
  rw [hop] at hlp
  obtain ⟨n1, n2, n3⟩ := nm_fin2 ⟨ix op, hk⟩
  simp only [hop] at n1
  have e : lineT op rd r1 r2 imm = nmT op ++ ([32] ++ Lib.join ((layT op).map (opdT rd r1 r2 imm)) [44, 32]) := by
    unfold lineT assT
    simp
  have hO : opF (nmT op) 1 = op := by
    have := opF_back (ix op) hk (ix op - 1) 1 rfl (by omega) (by omega)
    rwa [hop] at this
  have hP := prts_back ((layT op).map (opdT rd r1 r2 imm)) (by intro q; rw [List.map_eq_nil_iff] at q; rw [q] at hlp; simp at hlp) (fun p hp => by
    obtain ⟨o, _, rfl⟩ := List.mem_map.1 hp
    exact opd_no (by decide)) (fun p hp => by
    obtain ⟨o, _, rfl⟩ := List.mem_map.1 hp
    exact opd_ne)
  rw [List.length_map] at hP
  have hL := ld_back hf h
  unfold parseR
  rw [e, cut_at n1]
  simp only [hO, hP, hL]
  rw [if_neg]
  simp
  intro q
  rw [← hop] at q
  omega
/-- What is written is read back. -/
theorem line_read {op rd r1 r2 imm : Int} (h : fitsB rd r1 r2 imm (fm (ix op)) = true) : readT (lineT op rd r1 r2 imm) = some ⟨op, rd, r1, r2, imm⟩ := by
  unfold readT
  rw [line_parse h]
  exact if_pos ⟨h, rfl⟩
end Go.Proofs.YtlagdgkjpnocfaaGreatDoor
