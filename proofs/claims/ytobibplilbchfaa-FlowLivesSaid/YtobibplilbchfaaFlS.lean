/-
  Flow (layer 16): awake.
-/
import Derived.Test.YtobibplilbchfaaLvG
import Derived.Test.YtobibplilbchfaaFlR
namespace Go.Proofs.Ytobibplilbchfaa
open Go.RowKit
set_option linter.unusedVariables false
set_option linter.unusedSimpArgs false
theorem qi_s_2_int (w : World) (b o n c j : Nat) (hj : j < n) : (Instr.indexAt 32 (.slice (some ⟨b, o, none⟩) n c) (.int .i64 (j : Int))).run Try.prog w = .ok (.pointer (some ⟨b, o + j * 2, none⟩)) w := by
  have h : (j : Int) < (n : Int) := by omega
  simp [go_sem, h, hj]
theorem ql_2_int (w : World) (b o : Nat) (u0 u1 : Value) (h0 : w.cell? ⟨b, o, none⟩ = some u0) (h1 : w.cell? ⟨b, o + 1, none⟩ = some u1) : (Instr.loadAt 41 (.pointer (some ⟨b, o, none⟩))).run Try.prog w = .ok (.agg #[u0, u1]) w := by simp [go_sem, h0, h1]
theorem qd_api_Block_1_2_3 (w : World) (p1_m0 : Int) (p2_m0 : Int) (p3_m0 : Int) : (Instr.build 48 #[(1, .int .i64 p1_m0), (2, .int .i64 p2_m0), (3, .int .i64 p3_m0)]).run Try.prog w = .ok (.agg #[.slice none 0 0, .int .i64 p1_m0, .int .i64 p2_m0, .int .i64 p3_m0, .int .i64 0]) w := by simp [go_sem]
theorem qd_api_Block_1_3 (w : World) (p1_m0 : Int) (p3_m0 : Int) : (Instr.build 48 #[(1, .int .i64 p1_m0), (3, .int .i64 p3_m0)]).run Try.prog w = .ok (.agg #[.slice none 0 0, .int .i64 p1_m0, .int .i64 0, .int .i64 p3_m0, .int .i64 0]) w := by simp [go_sem]
theorem qd_api_Block_1 (w : World) (p1_m0 : Int) : (Instr.build 48 #[(1, .int .i64 p1_m0)]).run Try.prog w = .ok (.agg #[.slice none 0 0, .int .i64 p1_m0, .int .i64 0, .int .i64 0, .int .i64 0]) w := by simp [go_sem]
theorem qv_s_api_Block_3 (w : World) (u0_p0 : Option Addr) (u0_k0 u0_l0 : Nat) (u0_m1 : Int) (u0_m2 : Int) (u0_m3 : Int) (u0_m4 : Int) (u1_p0 : Option Addr) (u1_k0 u1_l0 : Nat) (u1_m1 : Int) (u1_m2 : Int) (u1_m3 : Int) (u1_m4 : Int) (u2_p0 : Option Addr) (u2_k0 u2_l0 : Nat) (u2_m1 : Int) (u2_m2 : Int) (u2_m3 : Int) (u2_m4 : Int) : (Instr.buildSlice 23 3 #[(0, .agg #[.slice u0_p0 u0_k0 u0_l0, .int .i64 u0_m1, .int .i64 u0_m2, .int .i64 u0_m3, .int .i64 u0_m4]), (1, .agg #[.slice u1_p0 u1_k0 u1_l0, .int .i64 u1_m1, .int .i64 u1_m2, .int .i64 u1_m3, .int .i64 u1_m4]), (2, .agg #[.slice u2_p0 u2_k0 u2_l0, .int .i64 u2_m1, .int .i64 u2_m2, .int .i64 u2_m3, .int .i64 u2_m4])]).run Try.prog w = .ok (.slice (some ⟨w.heap.size, 0, none⟩) 3 3) (w.alloc (.cells #[.slice u0_p0 u0_k0 u0_l0, .int .i64 u0_m1, .int .i64 u0_m2, .int .i64 u0_m3, .int .i64 u0_m4, .slice u1_p0 u1_k0 u1_l0, .int .i64 u1_m1, .int .i64 u1_m2, .int .i64 u1_m3, .int .i64 u1_m4, .slice u2_p0 u2_k0 u2_l0, .int .i64 u2_m1, .int .i64 u2_m2, .int .i64 u2_m3, .int .i64 u2_m4] 48)) := by simp [go_sem]
theorem qd_api_Proc_3_5 (w : World) (p3_m0 : Int) (p5_p0 : Option Addr) (p5_k0 p5_l0 : Nat) : (Instr.build 25 #[(3, .int .i64 p3_m0), (5, .slice p5_p0 p5_k0 p5_l0)]).run Try.prog w = .ok (.agg #[.string ⟨#[]⟩, .bool false, .int .i64 0, .int .i64 p3_m0, .slice none 0 0, .slice p5_p0 p5_k0 p5_l0]) w := by simp [go_sem]
theorem qzR_api_Proc (w : World) : ∃ w', (Instr.alloc 25 true (.tuple #[])).run Try.prog w = .ok (.pointer (some ⟨w.heap.size, 0, none⟩)) w' ∧ (Fr (fun _ => False) w w' ∧ Bx w' w.heap.size #[.string ⟨#[]⟩, .bool false, .int .i64 0, .int .i64 0, .slice none 0 0, .slice none 0 0] 25) := ⟨w.alloc (.cells #[.string ⟨#[]⟩, .bool false, .int .i64 0, .int .i64 0, .slice none 0 0, .slice none 0 0] 25), by simp [go_sem], fr_al (Fr.refl _ _) _, Bx.new _ _ _⟩
theorem qsA_api_Proc (w : World) (g : Nat) (z0 z1 z2 z3 z4 z5 : Value) (up0 : ByteArray) (up1 : Bool) (um2 : Int) (um3 : Int) (up4 : Option Addr) (uk4 ul4 : Nat) (up5 : Option Addr) (uk5 ul5 : Nat) (h : Bx w g #[z0, z1, z2, z3, z4, z5] 25) : ∃ w', (Instr.storeAt 25 (.pointer (some ⟨g, 0, none⟩)) (.agg #[.string up0, .bool up1, .int .i64 um2, .int .i64 um3, .slice up4 uk4 ul4, .slice up5 uk5 ul5])).run Try.prog w = .ok () w' ∧ (Fr (fun q => q = g) w w' ∧ Bx w' g #[.string up0, .bool up1, .int .i64 um2, .int .i64 um3, .slice up4 uk4 ul4, .slice up5 uk5 ul5] 25) := h.store 25 #[.string up0, .bool up1, .int .i64 um2, .int .i64 um3, .slice up4 uk4 ul4, .slice up5 uk5 ul5] (by kernel_rfl) rfl (by simp [Value.oneCell'])
theorem qk_flow_Order (w : World) (vs : Array Value) : (callFunc 14 vs).run Try.prog w = .ok (.enter 14 vs) w := by simp [go_sem]
theorem qk_flow_Back (w : World) (vs : Array Value) : (callFunc 10 vs).run Try.prog w = .ok (.enter 10 vs) w := by simp [go_sem]
theorem qk_flow_Live (w : World) (vs : Array Value) : (callFunc 18 vs).run Try.prog w = .ok (.enter 18 vs) w := by simp [go_sem]
theorem qn_s_2_int (w : World) (a : Option Addr) (k l : Nat) : (Builtin.len_ #[32] 3 #[.slice a k l]).run Try.prog w = .ok (.int .i64 k) w := by simp [go_sem]
theorem ql_s_bool (w : World) (p : Option Addr) (k l : Nat) (d : Addr) (h : w.cell? d = some (.slice p k l)) : (Instr.loadAt 30 (.pointer (some d))).run Try.prog w = .ok (.slice p k l) w := by simp [go_sem, h]
/-- The page's example. -/
def bsA : List Bk := [⟨[], 1, -1, 1, 0⟩, ⟨[], 2, 0, 2, 0⟩, ⟨[], 3, 0, 0, 0⟩]
theorem bsA_at {w : World} {g : Nat} (h : Bx w g #[.slice none 0 0, .int .i64 1, .int .i64 (-1), .int .i64 1, .int .i64 0, .slice none 0 0, .int .i64 2, .int .i64 0, .int .i64 2, .int .i64 0, .slice none 0 0, .int .i64 3, .int .i64 0, .int .i64 0, .int .i64 0] 48) : BkL w (some ⟨g, 0, none⟩) bsA := fun k hk => by
  have hk : k < 3 := hk
  refine ⟨g, 0, rfl, ?_⟩
  match k, hk with
  | 0, _ => exact ⟨⟨none, 0, h.cell (j := 0) rfl, fun q hq => absurd hq (by simp [bsA])⟩, h.cell (j := 1) rfl, h.cell (j := 2) rfl, h.cell (j := 3) rfl, h.cell (j := 4) rfl⟩
  | 1, _ => exact ⟨⟨none, 0, h.cell (j := 5) rfl, fun q hq => absurd hq (by simp [bsA])⟩, h.cell (j := 6) rfl, h.cell (j := 7) rfl, h.cell (j := 8) rfl, h.cell (j := 9) rfl⟩
  | 2, _ => exact ⟨⟨none, 0, h.cell (j := 10) rfl, fun q hq => absurd hq (by simp [bsA])⟩, h.cell (j := 11) rfl, h.cell (j := 12) rfl, h.cell (j := 13) rfl, h.cell (j := 14) rfl⟩
theorem bsA_left : (walkedF bsA).left.reverse = [0, 1, 2] := by decide
theorem bsA_back : (walkedF bsA).back = [(1, 0)] := by decide
theorem bsA_live : LI 3 1 (predsJ bsA 3 0) (tabG (fun k => setRow (bsA.getD k bk0)) [] 3 3) (tabG (fun k => genRow (bsA.getD k bk0) 1) (List.replicate 1 false) 3 3) 0 0 :=
  .step (s := 1) (by decide) (.gen (by decide) (by decide) (by decide)) (by decide) (by decide) (by
    have h : setRow (bsA.getD 0 bk0) = [] := List.eq_nil_of_length_eq_zero (by rw [setRow_len]; rfl)
    rw [tabG_get 0 (by decide), if_pos (by decide), h]
    simp)
theorem Row.at2 {B : Nat} {w : World} {v : Value} {xs : List (Int × Int)} (h : Row B 41 2 pC w v xs) : ∃ a c, v = .slice a xs.length c ∧ ∀ k, k < xs.length → ∃ g, a = some ⟨g, 0, none⟩ ∧ w.cell? ⟨g, 0 + k * 2, none⟩ = some (.int .i64 (xs.getD k (0, 0)).1) ∧ w.cell? ⟨g, 0 + k * 2 + 1, none⟩ = some (.int .i64 (xs.getD k (0, 0)).2) := by
  by_cases hn : 0 < xs.length
  · obtain ⟨g, cap, rfl, _⟩ := Row.own h hn
    refine ⟨_, _, rfl, fun k hk => ⟨g, rfl, ?_, ?_⟩⟩
    · exact Row.cell pC_len h (k := k) (x := xs[k]) (List.getElem?_eq_getElem hk) (j := 0) (u := .int .i64 (xs.getD k (0, 0)).1) (by simp [pC, List.getD_eq_getElem?_getD, hk]) (by omega)
    · exact Row.cell pC_len h (k := k) (x := xs[k]) (List.getElem?_eq_getElem hk) (j := 1) (u := .int .i64 (xs.getD k (0, 0)).2) (by simp [pC, List.getD_eq_getElem?_getD, hk]) (by omega)
  · obtain ⟨a, cap, rfl⟩ := Row.form h
    exact ⟨a, cap, rfl, fun k hk => absurd hk (by omega)⟩
theorem equal_ar (a b c d : Int) (w : World) : (Op.equalIn 10000 41 (.agg #[.int .i64 a, .int .i64 b]) (.agg #[.int .i64 c, .int .i64 d])).run Try.prog w = .ok (a == c && b == d) w := by
  have u3 := Try.underlying3
  have a3 := Try.isAgg3
  have z3 := Try.sizeOf3
  rw [show (10000 : Nat) = 9999 + 1 from rfl, Op.equalIn]
  simp only [Sem.run_bind, run_underlying Try.underlying41, Result.andThen_ok]
  simp only [Std.Legacy.Range.forIn_eq_forIn_range', Std.Legacy.Range.size, Nat.sub_zero, Nat.add_sub_cancel, Nat.div_one, List.range'_succ, List.range'_zero, List.forIn_cons, List.forIn_nil]
  go_simp
  by_cases h1 : a = c <;> by_cases h2 : b = d <;> simp [h1, h2]
theorem eq_ar (w : World) (x y : Operand) (a b c d : Int) : ((do eqGuard .eql 41 x y (.agg #[.int .i64 a, .int .i64 b]) (.agg #[.int .i64 c, .int .i64 d]); binOp .eql 41 (.agg #[.int .i64 a, .int .i64 b]) (.agg #[.int .i64 c, .int .i64 d]) : Sem Value)).run Try.prog w = .ok (.bool (a == c && b == d)) w := by
  simp [go_sem, equal_ar]
theorem ne_ar (w : World) (x y : Operand) (a b c d : Int) : ((do eqGuard .neq 41 x y (.agg #[.int .i64 a, .int .i64 b]) (.agg #[.int .i64 c, .int .i64 d]); binOp .neq 41 (.agg #[.int .i64 a, .int .i64 b]) (.agg #[.int .i64 c, .int .i64 d]) : Sem Value)).run Try.prog w = .ok (.bool (!(a == c && b == d))) w := by
  simp [go_sem, equal_ar]
theorem bsA_ins : ∀ b ∈ bsA, b.ins.length ≤ 1000 ∧ ∀ i ∈ b.ins, i.args.length ≤ 1000 := fun b hb => by
  have : b.ins = [] := by
    simp [bsA] at hb
    rcases hb with rfl | rfl | rfl <;> rfl
  rw [this]
  exact ⟨by decide, fun i hi => by cases hi⟩
set_option maxRecDepth 100000 in
theorem t_awake (w : World) : Calls Try.prog 7 #[] w fun e w' => e = .returned (.bool true) ∧ Fr (fun _ => False) w w' := by
  have ff := Fr.refl (fun _ => False) w
  refine calls_tw Try.func7 rfl rfl (Nat.le_of_ble_eq_true rfl) ?_
  refine TW.sreg ?_
  refine WL.op rfl rfl rfl (Go.Proofs.Ytobibplilbchfaa.W.quiet_assign rfl rfl) ?_
  refine WL.nil ?_
  refine TW.sreg ?_
  refine O.bld rfl rfl rfl rfl rfl (qd_api_Block_1_2_3 _ _ _ _) ?_
  refine O.bld rfl rfl rfl rfl rfl (qd_api_Block_1_3 _ _ _) ?_
  refine O.bld rfl rfl rfl rfl rfl (qd_api_Block_1 _ _) ?_
  have lw1 := ff.size
  refine O.bslR rfl rfl rfl rfl rfl (qv_s_api_Block_3 w _ _ _ _ _ _ _ _ _ _ _ _ _ _ _ _ _ _ _ _ _) ?_
  rintro wa1 ⟨fa1, bx1⟩
  replace ff := ff.trans fa1
  refine O.bld rfl rfl rfl rfl rfl (qd_api_Proc_3_5 _ _ _ _ _) ?_
  have lt2_bx1 := bx1.lt
  have lw2 := ff.size
  refine O.allocR rfl rfl rfl rfl (qzR_api_Proc wa1) ?_
  rintro wa2 ⟨fa2, bx2⟩
  replace bx1 := bx1.fr fa2 id
  replace ff := ff.trans fa2
  refine O.storeR rfl rfl rfl rfl rfl (qsA_api_Proc wa2 _ _ _ _ _ _ _ _ _ _ _ _ _ _ _ _ _ bx2) ?_
  rintro wa3 ⟨fa3, bx2x⟩
  replace bx1 := bx1.fr fa3 (fun e => by omega)
  replace ff := ff.trans' fa3 (fun q hq e => by omega)
  clear bx2
  have bx2 := bx2x
  clear bx2x
  have hbl := bsA_at bx1
  refine WL.nil ?_
  have b1 := bx2
  refine TW.sregH (fun W => Fr (fun _ => False) wa3 W) (by kernel_rfl) ?_
  have fd : Fr (fun _ => False) wa3 wa3.drew := (Fr.refl _ _).drewN 1
  have HW : Fr (fun _ => False) wa3 wa3.drew := (Fr.refl _ _).drewN 1
  replace bx1 := bx1.fr fd id
  replace bx2 := bx2.fr fd id
  replace hbl := hbl.fr fd
  replace ff := ff.trans fd
  generalize hV : wa3.drew = V1 at *
  clear hV
  refine WH.take 0 rfl (by kernel_rfl) (by kernel_rfl) (by kernel_rfl) (fun _ _ _ _ _ h => h) rfl rfl rfl HW (RH.load rfl rfl (fun W hW => qlB_api_Proc _ _ _ _ _ _ _ _ _ _ _ _ _ (b1.fr hW id))) ?_
  refine WH.take 2 rfl (by kernel_rfl) (by kernel_rfl) (by kernel_rfl) (fun _ _ _ _ _ h => h) rfl rfl rfl HW (RH.load rfl rfl (fun W hW => qlB_api_Proc _ _ _ _ _ _ _ _ _ _ _ _ _ (b1.fr hW id))) ?_
  refine WH.one 1 (by kernel_rfl) rfl ?_ 
  refine WL.call (hr := (t_order _ _ _ _ _ _ _ _ bsA _ (by decide) _ hbl)) rfl rfl rfl rfl rfl (fun W => qk_flow_Order W _) ?_
  rintro e w1 ⟨v1, rfl, h1, f1⟩
  refine ⟨_, rfl, ?_⟩
  replace bx1 := bx1.fr f1 id
  replace bx2 := bx2.fr f1 id
  replace hbl := hbl.fr f1
  replace HW := HW.trans' f1 (fun q hq e => e.elim)
  replace ff := ff.trans f1
  refine WL.fin HW ?_
  refine WH.one 3 (by kernel_rfl) rfl ?_ 
  refine WL.call (hr := (t_back _ _ _ _ _ _ _ _ bsA _ (by decide) _ hbl)) rfl rfl rfl rfl rfl (fun W => qk_flow_Back W _) ?_
  rintro e w2 ⟨v2, rfl, h2, f2⟩
  refine ⟨_, rfl, ?_⟩
  replace bx1 := bx1.fr f2 id
  replace bx2 := bx2.fr f2 id
  replace hbl := hbl.fr f2
  replace HW := HW.trans' f2 (fun q hq e => e.elim)
  replace h1 := Ints.fr h1 f2 (fun _ _ => id)
  replace ff := ff.trans f2
  refine WL.fin HW ?_
  refine WH.take 4 rfl (by kernel_rfl) (by kernel_rfl) (by kernel_rfl) (fun _ _ _ _ _ h => h) rfl rfl rfl HW (RH.assign rfl rfl) ?_
  refine WH.take 5 rfl (by kernel_rfl) (by kernel_rfl) (by kernel_rfl) (fun _ _ _ _ _ h => h) rfl rfl rfl HW (RH.assign rfl rfl) ?_
  refine WH.done (by kernel_rfl) ?_
  refine TW.sreg ?_
  refine WL.ld rfl rfl rfl rfl rfl (qlB_api_Proc _ _ _ _ _ _ _ _ _ _ _ _ _ bx2) ?_
  refine WL.call (hr := (M.t_live _ _ _ _ _ _ _ _ bsA _ (by decide) (by decide) bsA_ins _ hbl)) rfl rfl rfl rfl rfl (fun W => qk_flow_Live W _) ?_
  rintro e wL ⟨Si, So, vi, vo, il, ol, rfl, hI, hO, hli, hlo, hvi, hvo, hdI, hdO, fL⟩
  refine ⟨_, rfl, ?_⟩
  replace bx1 := bx1.fr fL id
  replace bx2 := bx2.fr fL id
  replace hbl := hbl.fr fL
  replace h1 := Ints.fr h1 fL (fun _ _ => id)
  replace h2 := Row.fr h2 fL (fun _ _ => id)
  replace ff := ff.trans fL
  obtain ⟨a1, c1, rfl, hat1⟩ := h1.at
  obtain ⟨a2, c2, rfl, hat2⟩ := Row.at2 h2
  rw [bsA_left] at hat1
  rw [bsA_back] at hat2
  obtain ⟨g1, o1, rfl, hc0⟩ := hat1 0 (by decide)
  obtain ⟨_, _, e1, hc1⟩ := hat1 1 (by decide)
  cases e1
  obtain ⟨_, _, e2, hc2⟩ := hat1 2 (by decide)
  cases e2
  obtain ⟨g2, rfl, hd0, hd1⟩ := hat2 0 (by decide)
  have hl1 : (walkedF bsA).left.reverse.length = 3 := by rw [bsA_left]; rfl
  have hl2 : (walkedF bsA).back.length = 1 := by rw [bsA_back]; rfl
  rw [hl1, hl2]
  have hi0 := hI.cell (k := 0) (by decide)
  obtain ⟨gi, ci, hgi⟩ := hvi 0 (by decide)
  rw [hgi] at hi0
  have hrow := hI.hr 0 (by decide)
  rw [hgi] at hrow
  have hln := hli 0 (by decide)
  have hbit : (il.getD 0 []).getD 0 false = true := (hdI 0 0 (by decide) (by decide)).2 bsA_live
  have hbc := Bools.cell (k := 0) hrow (by rw [hln]; decide)
  rw [hbit] at hbc
  refine WL.op rfl rfl rfl (Go.Proofs.Ytobibplilbchfaa.W.quiet_move rfl rfl) ?_
  refine O.ext rfl rfl rfl rfl rfl rfl ?_
  refine O.ext rfl rfl rfl rfl rfl rfl ?_
  refine WL.op rfl rfl rfl (Go.Proofs.Ytobibplilbchfaa.W.quiet_assign rfl rfl) ?_
  refine WL.op rfl rfl rfl (Go.Proofs.Ytobibplilbchfaa.W.quiet_assign rfl rfl) ?_
  refine WL.nil ?_
  refine TW.sreg ?_
  refine WL.op rfl rfl rfl (Go.Proofs.Ytobibplilbchfaa.W.quiet_move rfl rfl) ?_
  refine O.len rfl rfl rfl rfl rfl (qn_s_int _ _ _ _) ?_
  refine WL.op rfl rfl rfl (Go.Proofs.Ytobibplilbchfaa.W.quiet_bin rfl rfl rfl (fun W => qb_eql_int W _ _ _ _)) ?_
  refine O.split (fun hb => ?_) (fun hb => by simp at hb)
  refine WL.op rfl rfl rfl (Go.Proofs.Ytobibplilbchfaa.W.quiet_move rfl rfl) ?_
  refine WL.op rfl rfl rfl (Go.Proofs.Ytobibplilbchfaa.W.quiet_move rfl rfl) ?_
  refine O.ixa rfl rfl rfl rfl rfl rfl (by exact qi_s_int _ _ _ _ _ 0 (by decide)) ?_
  refine WL.ld rfl rfl rfl rfl rfl (ql_int _ _ _ hc0) ?_
  refine WL.op rfl rfl rfl (Go.Proofs.Ytobibplilbchfaa.W.quiet_bin rfl rfl rfl (fun W => qb_eql_int W _ _ _ _)) ?_
  refine O.split (fun hb => ?_) (fun hb => by simp at hb)
  refine WL.op rfl rfl rfl (Go.Proofs.Ytobibplilbchfaa.W.quiet_pick rfl rfl rfl) ?_
  refine WL.op rfl rfl rfl (Go.Proofs.Ytobibplilbchfaa.W.quiet_move rfl rfl) ?_
  refine WL.op rfl rfl rfl (Go.Proofs.Ytobibplilbchfaa.W.quiet_move rfl rfl) ?_
  refine O.ixa rfl rfl rfl rfl rfl rfl (by exact qi_s_int _ _ _ _ _ 1 (by decide)) ?_
  refine WL.ld rfl rfl rfl rfl rfl (ql_int _ _ _ hc1) ?_
  refine WL.op rfl rfl rfl (Go.Proofs.Ytobibplilbchfaa.W.quiet_bin rfl rfl rfl (fun W => qb_eql_int W _ _ _ _)) ?_
  refine O.split (fun hb => ?_) (fun hb => by simp at hb)
  refine WL.op rfl rfl rfl (Go.Proofs.Ytobibplilbchfaa.W.quiet_pick rfl rfl rfl) ?_
  refine WL.op rfl rfl rfl (Go.Proofs.Ytobibplilbchfaa.W.quiet_move rfl rfl) ?_
  refine WL.op rfl rfl rfl (Go.Proofs.Ytobibplilbchfaa.W.quiet_move rfl rfl) ?_
  refine O.ixa rfl rfl rfl rfl rfl rfl (by exact qi_s_int _ _ _ _ _ 2 (by decide)) ?_
  refine WL.ld rfl rfl rfl rfl rfl (ql_int _ _ _ hc2) ?_
  refine WL.op rfl rfl rfl (Go.Proofs.Ytobibplilbchfaa.W.quiet_bin rfl rfl rfl (fun W => qb_eql_int W _ _ _ _)) ?_
  refine O.split (fun hb => ?_) (fun hb => by simp at hb)
  refine WL.op rfl rfl rfl (Go.Proofs.Ytobibplilbchfaa.W.quiet_pick rfl rfl rfl) ?_
  refine WL.op rfl rfl rfl (Go.Proofs.Ytobibplilbchfaa.W.quiet_move rfl rfl) ?_
  refine WL.op rfl rfl rfl (Go.Proofs.Ytobibplilbchfaa.W.quiet_move rfl rfl) ?_
  refine O.len rfl rfl rfl rfl rfl (qn_s_2_int _ _ _ _) ?_
  refine WL.op rfl rfl rfl (Go.Proofs.Ytobibplilbchfaa.W.quiet_bin rfl rfl rfl (fun W => qb_eql_int W _ _ _ _)) ?_
  refine O.split (fun hb => ?_) (fun hb => by simp at hb)
  refine WL.op rfl rfl rfl (Go.Proofs.Ytobibplilbchfaa.W.quiet_pick rfl rfl rfl) ?_
  refine WL.op rfl rfl rfl (Go.Proofs.Ytobibplilbchfaa.W.quiet_move rfl rfl) ?_
  refine WL.op rfl rfl rfl (Go.Proofs.Ytobibplilbchfaa.W.quiet_move rfl rfl) ?_
  refine O.ixa rfl rfl rfl rfl rfl rfl (by exact qi_s_2_int _ _ _ _ _ 0 (by decide)) ?_
  refine WL.ld rfl rfl rfl rfl rfl (ql_2_int _ _ _ _ _ hd0 hd1) ?_
  refine O.bld rfl rfl rfl rfl rfl (qd_2_int_0_1 _ _ _) ?_
  refine WL.op rfl rfl rfl (Go.Proofs.Ytobibplilbchfaa.W.quiet_bin rfl rfl rfl (fun W => eq_ar W _ _ _ _ _ _)) ?_
  refine O.split (fun hb => ?_) (fun hb => by simp at hb)
  refine WL.op rfl rfl rfl (Go.Proofs.Ytobibplilbchfaa.W.quiet_pick rfl rfl rfl) ?_
  refine WL.op rfl rfl rfl (Go.Proofs.Ytobibplilbchfaa.W.quiet_move rfl rfl) ?_
  refine WL.op rfl rfl rfl (Go.Proofs.Ytobibplilbchfaa.W.quiet_move rfl rfl) ?_
  refine O.len rfl rfl rfl rfl rfl (qn_s_s_bool _ _ _ _) ?_
  refine WL.op rfl rfl rfl (Go.Proofs.Ytobibplilbchfaa.W.quiet_bin rfl rfl rfl (fun W => qb_eql_int W _ _ _ _)) ?_
  refine O.split (fun hb => ?_) (fun hb => by simp [bsA] at hb)
  refine WL.op rfl rfl rfl (Go.Proofs.Ytobibplilbchfaa.W.quiet_pick rfl rfl rfl) ?_
  refine WL.op rfl rfl rfl (Go.Proofs.Ytobibplilbchfaa.W.quiet_move rfl rfl) ?_
  refine WL.op rfl rfl rfl (Go.Proofs.Ytobibplilbchfaa.W.quiet_move rfl rfl) ?_
  refine O.ixa rfl rfl rfl rfl rfl rfl (by exact qi_s_s_bool _ _ _ _ _ 0 (by decide)) ?_
  refine WL.ld rfl rfl rfl rfl rfl (ql_s_bool _ _ _ _ _ hi0) ?_
  refine O.len rfl rfl rfl rfl rfl (qn_s_bool _ _ _ _) ?_
  refine WL.op rfl rfl rfl (Go.Proofs.Ytobibplilbchfaa.W.quiet_bin rfl rfl rfl (fun W => qb_eql_int W _ _ _ _)) ?_
  refine O.split (fun hb => ?_) (fun hb => by simp at hb)
  refine WL.op rfl rfl rfl (Go.Proofs.Ytobibplilbchfaa.W.quiet_pick rfl rfl rfl) ?_
  refine WL.op rfl rfl rfl (Go.Proofs.Ytobibplilbchfaa.W.quiet_move rfl rfl) ?_
  refine WL.op rfl rfl rfl (Go.Proofs.Ytobibplilbchfaa.W.quiet_move rfl rfl) ?_
  refine O.ixa rfl rfl rfl rfl rfl rfl (by exact qi_s_s_bool _ _ _ _ _ 0 (by decide)) ?_
  refine WL.ld rfl rfl rfl rfl rfl (ql_s_bool _ _ _ _ _ hi0) ?_
  refine O.ixa rfl rfl rfl rfl rfl rfl (by exact qi_s_bool _ _ _ _ _ 0 (by decide)) ?_
  refine WL.ld rfl rfl rfl rfl rfl (ql_bool _ _ _ hbc) ?_
  refine WL.op rfl rfl rfl (Go.Proofs.Ytobibplilbchfaa.W.quiet_pick rfl rfl rfl) ?_
  refine WL.op rfl rfl rfl (Go.Proofs.Ytobibplilbchfaa.W.quiet_assign rfl rfl) ?_
  refine WL.nil ?_
  refine TW.rt ?_
  refine bodyw_ret rfl rfl ?_
  exact ⟨rfl, ff⟩
end Go.Proofs.Ytobibplilbchfaa
