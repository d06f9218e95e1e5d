/-
  Flow (layer 16): a block is entered, and left.
-/
import Derived.Test.YtobibplilbchfaaFlD
namespace Go.Proofs.Ytobibplilbchfaa
open Go.RowKit
set_option linter.unusedVariables false
set_option linter.unusedSimpArgs false
theorem qlB_api_Proc (w : World) (g : Nat) (up0 : ByteArray) (up1 : Bool) (um2 : Int) (um3 : Int) (up4 : Option Addr) (uk4 ul4 : Nat) (up5 : Option Addr) (uk5 ul5 : Nat) (tt : TypeId) (h : Bx w g #[.string up0, .bool up1, .int .i64 um2, .int .i64 um3, .slice up4 uk4 ul4, .slice up5 uk5 ul5] tt) : (Instr.loadAt 25 (.pointer (some ⟨g, 0, none⟩))).run Try.prog w = .ok (.agg #[.string up0, .bool up1, .int .i64 um2, .int .i64 um3, .slice up4 uk4 ul4, .slice up5 uk5 ul5]) w := by
  have c0 := h.cell (j := 0) rfl
  have c1 := h.cell (j := 1) rfl
  have c2 := h.cell (j := 2) rfl
  have c3 := h.cell (j := 3) rfl
  have c4 := h.cell (j := 4) rfl
  have c5 := h.cell (j := 5) rfl
  simp [go_sem, c0, c1, c2, c3, c4, c5]
theorem qa_flow_traversal_0 (w : World) (b o : Nat) : (Instr.fieldAt 56 (.pointer (some ⟨b, o, none⟩)) 0).run Try.prog w = .ok (.pointer (some ⟨b, o, none⟩)) w := by simp [go_sem]
theorem ql_s_int (w : World) (p : Option Addr) (k l : Nat) (d : Addr) (h : w.cell? d = some (.slice p k l)) : (Instr.loadAt 34 (.pointer (some d))).run Try.prog w = .ok (.slice p k l) w := by simp [go_sem, h]
theorem qa_flow_traversal_1 (w : World) (b o : Nat) : (Instr.fieldAt 56 (.pointer (some ⟨b, o, none⟩)) 1).run Try.prog w = .ok (.pointer (some ⟨b, o + 1, none⟩)) w := by simp [go_sem]
theorem ql_s_flow_visit (w : World) (p : Option Addr) (k l : Nat) (d : Addr) (h : w.cell? d = some (.slice p k l)) : (Instr.loadAt 54 (.pointer (some d))).run Try.prog w = .ok (.slice p k l) w := by simp [go_sem, h]
theorem qk_flow_outs (w : World) (vs : Array Value) : (callFunc 21 vs).run Try.prog w = .ok (.enter 21 vs) w := by simp [go_sem]
theorem qd_flow_visit_0_1 (w : World) (p0_m0 : Int) (p1_p0 : Option Addr) (p1_k0 p1_l0 : Nat) : (Instr.build 81 #[(0, .int .i64 p0_m0), (1, .slice p1_p0 p1_k0 p1_l0)]).run Try.prog w = .ok (.agg #[.int .i64 p0_m0, .slice p1_p0 p1_k0 p1_l0]) w := by simp [go_sem]
theorem qv_s_flow_visit_1 (w : World) (u0_m0 : Int) (u0_p1 : Option Addr) (u0_k1 u0_l1 : Nat) : (Instr.buildSlice 54 1 #[(0, .agg #[.int .i64 u0_m0, .slice u0_p1 u0_k1 u0_l1])]).run Try.prog w = .ok (.slice (some ⟨w.heap.size, 0, none⟩) 1 1) (w.alloc (.cells #[.int .i64 u0_m0, .slice u0_p1 u0_k1 u0_l1] 81)) := by simp [go_sem]
theorem qsF_s_flow_visit (w : World) (g j : Nat) (z : Array Value) (tt : TypeId) (y : Value) (up0 : Option Addr) (uk0 ul0 : Nat) (h : Bx w g z tt) (hj : z[j]? = some y) : ∃ w', (Instr.storeAt 54 (.pointer (some ⟨g, j, none⟩)) (.slice up0 uk0 ul0)).run Try.prog w = .ok () w' ∧ (Fr (fun q => q = g) w w' ∧ Bx w' g (z.setIfInBounds j (.slice up0 uk0 ul0)) tt) := by
  have c0 := h.cell hj
  have e0 := h.free j
  exact ⟨w.setCell ⟨g, j, none⟩ (.slice up0 uk0 ul0), by simp [go_sem, c0, e0], Fr.setCell _ _ _ rfl, h.set j _⟩
theorem qa_flow_traversal_2 (w : World) (b o : Nat) : (Instr.fieldAt 56 (.pointer (some ⟨b, o, none⟩)) 2).run Try.prog w = .ok (.pointer (some ⟨b, o + 2, none⟩)) w := by simp [go_sem]
theorem qsF_s_int (w : World) (g j : Nat) (z : Array Value) (tt : TypeId) (y : Value) (up0 : Option Addr) (uk0 ul0 : Nat) (h : Bx w g z tt) (hj : z[j]? = some y) : ∃ w', (Instr.storeAt 34 (.pointer (some ⟨g, j, none⟩)) (.slice up0 uk0 ul0)).run Try.prog w = .ok () w' ∧ (Fr (fun q => q = g) w w' ∧ Bx w' g (z.setIfInBounds j (.slice up0 uk0 ul0)) tt) := by
  have c0 := h.cell hj
  have e0 := h.free j
  exact ⟨w.setCell ⟨g, j, none⟩ (.slice up0 uk0 ul0), by simp [go_sem, c0, e0], Fr.setCell _ _ _ rfl, h.set j _⟩
theorem qn_s_flow_visit (w : World) (a : Option Addr) (k l : Nat) : (Builtin.len_ #[54] 3 #[.slice a k l]).run Try.prog w = .ok (.int .i64 k) w := by simp [go_sem]
theorem qb_sub_int (w : World) (x y : Operand) (m n : Int) (h0 : -9223372036854775808 ≤ m - n) (h1 : m - n ≤ 9223372036854775807) : ((do eqGuard .sub 3 x y (.int .i64 m) (.int .i64 n); binOp .sub 3 (.int .i64 m) (.int .i64 n) : Sem Value)).run Try.prog w = .ok (.int .i64 (m - n)) w := by
  have h : IntKind.i64.wrap (m - n) = m - n := IntWalk.i64_in _ (by omega)
  simp [go_sem, h]
theorem sl_toV (w : World) (a : Option Addr) (n c i : Nat) (hi : i ≤ c) (ha : a = none → c = 0) : (Instr.sliceAt 54 (.slice a n c) none (some (.int .i64 (i : Int))) none).run Try.prog w = .ok (.slice a i c) w := by
  cases a with
  | none =>
    have := ha rfl
    subst this
    obtain rfl : i = 0 := by omega
    simp [go_sem]
  | some a => simp [go_sem]; omega
set_option maxRecDepth 100000 in
theorem t_enter (nm : ByteArray) (vd : Bool) (pr R : Int) (oa : Option Addr) (on oc : Nat) (ba : Option Addr) (bs : List Bk) (bc : Nat) (n : Nat) (hn : n < bs.length) (B tb S : Nat) (vp vl vb : Value) (ms : List Vs) (path : List (Int × List Int)) (st left : List Int) (back : List (Int × Int)) (hlen : path.length ≤ 100000) (w0 w : World) (hB : w0.heap.size ≤ B) (f0 : Fr (fun _ => False) w0 w) (hT : Trv B tb S bs.length w vp vl vb ms path st left back) (hbl : BkL w0 ba bs) : Calls Try.prog 40 #[.pointer (some ⟨tb, 0, none⟩), .agg #[.string nm, .bool vd, .int .i64 pr, .int .i64 R, .slice oa on oc, .slice ba bs.length bc], .int .i64 (n : Int)] w fun e w' => e = .returned (.tuple #[]) ∧ (∃ vp' ms', Trv B tb S bs.length w' vp' vl vb ms' (path ++ [((n : Int), outsF bs n)]) (st.set n 1) left back) ∧ Fr (fun _ => False) w0 w' := by
  refine calls_tw Try.func40 rfl rfl (Nat.le_of_ble_eq_true rfl) ?_
  have hA := hT.aps
  obtain ⟨hst, _, _⟩ := Row.capLe hT.hs
  obtain ⟨pa, pcap, rfl⟩ := Row.form hT.hp
  refine TW.sreg ?_
  refine O.boxR rfl rfl rfl rfl rfl (qxR_api_Proc w _ _ _ _ _ _ _ _ _ _) ?_
  rintro wa1 ⟨fa1, bx1⟩
  replace hT := hT.fr fa1
  replace f0 := f0.trans fa1
  refine WL.nil ?_
  refine TW.sreg ?_
  refine WL.op rfl rfl rfl (Go.Proofs.Ytobibplilbchfaa.W.quiet_move rfl rfl) ?_
  refine O.nck rfl rfl rfl rfl rfl ?_
  refine WL.op rfl rfl rfl (Go.Proofs.Ytobibplilbchfaa.W.quiet_field rfl rfl (fun W => (qa_flow_traversal_0 W _ _))) ?_
  refine WL.ld rfl rfl rfl rfl rfl (ql_s_int _ _ _ _ _ (hT.bx.cell (j := 0) rfl)) ?_
  refine WL.op rfl rfl rfl (Go.Proofs.Ytobibplilbchfaa.W.quiet_move rfl rfl) ?_
  refine O.ixa rfl rfl rfl rfl rfl rfl (qi_s_int _ _ _ _ _ _ (by omega)) ?_
  refine O.storeR rfl rfl rfl rfl rfl (hT.hs.store (k := n) (by omega) 1) ?_
  rintro w2 ⟨hI2, hFs⟩
  replace bx1 := bx1.fr hFs (fun e => by have := hA.xS; omega)
  replace hT := hT.setS hI2 hFs
  replace f0 := f0.trans' hFs (fun q hq e => by have := hA.xS; omega)
  have bxq := bx1
  have hws : w.heap.size ≤ w2.heap.size := by have := fa1.size; have := hFs.size; omega
  refine WL.nil ?_
  refine TW.regH (fun W => Fr (fun q => q = tb ∨ (Value.slice pa ms.length pcap).ownBlock = some q) w2 W) (by kernel_rfl) ?_
  have fd : Fr (fun _ => False) w2 w2.drew := (Fr.refl _ _).drewN 1
  have HW : Fr (fun q => q = tb ∨ (Value.slice pa ms.length pcap).ownBlock = some q) w2 w2.drew := (Fr.refl _ _).drewN 1
  replace bx1 := bx1.fr fd id
  replace hT := hT.fr fd
  replace f0 := f0.trans fd
  generalize hV : w2.drew = V1 at *
  clear hV
  refine WH.take 0 rfl (by kernel_rfl) (by kernel_rfl) (by kernel_rfl) (fun _ _ _ _ _ h => h) rfl rfl rfl HW (RH.move rfl rfl) ?_
  refine WH.take 1 rfl (by kernel_rfl) (by kernel_rfl) (by kernel_rfl) (fun _ _ _ _ _ h => h) rfl rfl rfl HW (RH.move rfl rfl) ?_
  refine WH.take 2 rfl (by kernel_rfl) (by kernel_rfl) (by kernel_rfl) (fun _ _ _ _ _ h => h) rfl rfl rfl HW (RH.nck rfl rfl) ?_
  refine WH.take 3 rfl (by kernel_rfl) (by kernel_rfl) (by kernel_rfl) (fun _ _ _ _ _ h => h) rfl rfl rfl HW (RH.field rfl rfl (fun W => qa_flow_traversal_1 W _ _)) ?_
  refine WH.take 5 rfl (by kernel_rfl) (by kernel_rfl) (by kernel_rfl) (fun _ _ _ _ _ h => h) rfl rfl rfl HW (RH.move rfl rfl) ?_
  refine WH.take 6 rfl (by kernel_rfl) (by kernel_rfl) (by kernel_rfl) (fun _ _ _ _ _ h => h) rfl rfl rfl HW (RH.load rfl rfl (fun W hW => qlB_api_Proc _ _ _ _ _ _ _ _ _ _ _ _ _ (bxq.fr hW (fun e => by rcases e with e | e; have := hA.xt; omega; have := (hA.xp _ e).2; omega)))) ?_
  refine WH.take 7 rfl (by kernel_rfl) (by kernel_rfl) (by kernel_rfl) (fun _ _ _ _ _ h => h) rfl rfl rfl HW (RH.move rfl rfl) ?_
  refine WH.two 4 8 (by kernel_rfl) rfl rfl ?_ ?_ 
  · skip
    refine WL.ld rfl rfl rfl rfl rfl (ql_s_flow_visit _ _ _ _ _ (by first | exact hT.bx.cell (j := 1) rfl | exact (hT.bx.fr (fr_al (Fr.refl (fun _ => False) _) _) id).cell (j := 1) rfl)) ?_
    refine WL.fin HW ?_
    refine WH.one 8 (by kernel_rfl) rfl ?_ 
    have hAo := hT.aps
    refine WL.call (hr := t_outs nm vd pr R oa on oc ba bs bc n hn _ (hbl.fr f0)) rfl rfl rfl rfl rfl (fun W => qk_flow_outs W _) ?_
    rintro e wo ⟨vo, rfl, hO, fo⟩
    refine ⟨_, rfl, ?_⟩
    replace bx1 := bx1.fr fo id
    replace hT := hT.fr fo
    replace f0 := f0.trans fo
    replace HW := HW.trans' fo (fun q hq e => e.elim)
    obtain ⟨ra, rc, rfl, hrc, hr⟩ := hO.rest (S := S) (vl := vl) (fun k hk => ⟨fun e => by have := hAo.xS; have := (Row.lt hO k hk).1; omega, fun e => by have := (hAo.xl k e).2; have := (Row.lt hO k hk).1; omega⟩)
    refine WL.fin HW ?_
    refine WH.one 9 (by kernel_rfl) rfl ?_ 
    refine O.bld rfl rfl rfl rfl rfl (qd_flow_visit_0_1 _ _ _ _ _) ?_
    refine WL.fin HW ?_
    refine WH.one 10 (by kernel_rfl) rfl ?_ 
    refine O.bsl rfl rfl rfl rfl rfl (qv_s_flow_visit_1 _ _ _ _ _) ?_
    refine WL.fin (fr_al HW _) ?_
    refine WH.one 11 (by kernel_rfl) rfl ?_ 
    refine WL.append rfl rfl rfl rfl rfl rfl (vs_app ⟨(n : Int), ra, (outsF bs n).length, rc⟩ _ hT.hp (by have := hT.aps.xt; omega) (by have := hT.rel.1; omega)) ?_
    rintro vq wq ⟨hR, hF1, hn1⟩
    -- world wq
    replace bx1 := bx1.fr hF1 (fun e => by have := (hA.xp _ e).2; omega)
    replace HW := HW.trans' hF1 (fun q hq e => by first | exact e | exact Or.inl e | exact Or.inr e | omega)
    refine WL.fin HW ?_
    refine WH.take 12 rfl (by kernel_rfl) (by kernel_rfl) (by kernel_rfl) (fun _ _ _ _ _ h => h) rfl rfl rfl HW (RH.nck rfl rfl) ?_
    refine WH.take 13 rfl (by kernel_rfl) (by kernel_rfl) (by kernel_rfl) (fun _ _ _ _ _ h => h) rfl rfl rfl HW (RH.field rfl rfl (fun W => qa_flow_traversal_1 W _ _)) ?_
    refine WH.one 14 (by kernel_rfl) rfl ?_ 
    obtain ⟨qa, qc, rfl⟩ := Row.form hR
    refine O.storeR rfl rfl rfl rfl rfl (qsF_s_flow_visit _ tb 1 _ _ _ _ _ _ (hT.bx.fr hF1 (fun e => hT.aps.pt e)) rfl) ?_
    rintro w9 ⟨hF2, hbx2⟩
    replace bx1 := bx1.fr hF2 (fun e => by have := hA.xt; omega)
    replace HW := HW.trans' hF2 (fun q hq e => by first | exact e | exact Or.inl e | exact Or.inr e | omega)
    refine WL.fin HW ?_
    refine WH.end (by kernel_rfl) ?_
    refine O.end0 rfl ?_
    exact ⟨rfl, ⟨_, _, hT.push (x := ⟨(n : Int), ra, (outsF bs n).length, rc⟩) (y := ((n : Int), outsF bs n)) rfl rfl hrc hr hR hF1 hbx2 hF2⟩, (f0.trans' hF1 (fun q hq e => by have := (hT.aps.xp q e).1; omega)).trans' hF2 (fun q hq e => by have := hT.aps.xt; omega)⟩
  · skip
    have hAo := hT.aps
    refine WL.call (hr := t_outs nm vd pr R oa on oc ba bs bc n hn _ (hbl.fr f0)) rfl rfl rfl rfl rfl (fun W => qk_flow_outs W _) ?_
    rintro e wo ⟨vo, rfl, hO, fo⟩
    refine ⟨_, rfl, ?_⟩
    replace bx1 := bx1.fr fo id
    replace hT := hT.fr fo
    replace f0 := f0.trans fo
    replace HW := HW.trans' fo (fun q hq e => e.elim)
    obtain ⟨ra, rc, rfl, hrc, hr⟩ := hO.rest (S := S) (vl := vl) (fun k hk => ⟨fun e => by have := hAo.xS; have := (Row.lt hO k hk).1; omega, fun e => by have := (hAo.xl k e).2; have := (Row.lt hO k hk).1; omega⟩)
    refine WL.fin HW ?_
    refine WH.two 4 9 (by kernel_rfl) rfl rfl ?_ ?_ 
    · skip
      refine WL.ld rfl rfl rfl rfl rfl (ql_s_flow_visit _ _ _ _ _ (by first | exact hT.bx.cell (j := 1) rfl | exact (hT.bx.fr (fr_al (Fr.refl (fun _ => False) _) _) id).cell (j := 1) rfl)) ?_
      refine WL.fin HW ?_
      refine WH.one 9 (by kernel_rfl) rfl ?_ 
      refine O.bld rfl rfl rfl rfl rfl (qd_flow_visit_0_1 _ _ _ _ _) ?_
      refine WL.fin HW ?_
      refine WH.one 10 (by kernel_rfl) rfl ?_ 
      refine O.bsl rfl rfl rfl rfl rfl (qv_s_flow_visit_1 _ _ _ _ _) ?_
      refine WL.fin (fr_al HW _) ?_
      refine WH.one 11 (by kernel_rfl) rfl ?_ 
      refine WL.append rfl rfl rfl rfl rfl rfl (vs_app ⟨(n : Int), ra, (outsF bs n).length, rc⟩ _ hT.hp (by have := hT.aps.xt; omega) (by have := hT.rel.1; omega)) ?_
      rintro vq wq ⟨hR, hF1, hn1⟩
      -- world wq
      replace bx1 := bx1.fr hF1 (fun e => by have := (hA.xp _ e).2; omega)
      replace HW := HW.trans' hF1 (fun q hq e => by first | exact e | exact Or.inl e | exact Or.inr e | omega)
      refine WL.fin HW ?_
      refine WH.take 12 rfl (by kernel_rfl) (by kernel_rfl) (by kernel_rfl) (fun _ _ _ _ _ h => h) rfl rfl rfl HW (RH.nck rfl rfl) ?_
      refine WH.take 13 rfl (by kernel_rfl) (by kernel_rfl) (by kernel_rfl) (fun _ _ _ _ _ h => h) rfl rfl rfl HW (RH.field rfl rfl (fun W => qa_flow_traversal_1 W _ _)) ?_
      refine WH.one 14 (by kernel_rfl) rfl ?_ 
      obtain ⟨qa, qc, rfl⟩ := Row.form hR
      refine O.storeR rfl rfl rfl rfl rfl (qsF_s_flow_visit _ tb 1 _ _ _ _ _ _ (hT.bx.fr hF1 (fun e => hT.aps.pt e)) rfl) ?_
      rintro w9 ⟨hF2, hbx2⟩
      replace bx1 := bx1.fr hF2 (fun e => by have := hA.xt; omega)
      replace HW := HW.trans' hF2 (fun q hq e => by first | exact e | exact Or.inl e | exact Or.inr e | omega)
      refine WL.fin HW ?_
      refine WH.end (by kernel_rfl) ?_
      refine O.end0 rfl ?_
      exact ⟨rfl, ⟨_, _, hT.push (x := ⟨(n : Int), ra, (outsF bs n).length, rc⟩) (y := ((n : Int), outsF bs n)) rfl rfl hrc hr hR hF1 hbx2 hF2⟩, (f0.trans' hF1 (fun q hq e => by have := (hT.aps.xp q e).1; omega)).trans' hF2 (fun q hq e => by have := hT.aps.xt; omega)⟩
    · skip
      refine O.bld rfl rfl rfl rfl rfl (qd_flow_visit_0_1 _ _ _ _ _) ?_
      refine WL.fin HW ?_
      refine WH.two 4 10 (by kernel_rfl) rfl rfl ?_ ?_ 
      · skip
        refine WL.ld rfl rfl rfl rfl rfl (ql_s_flow_visit _ _ _ _ _ (by first | exact hT.bx.cell (j := 1) rfl | exact (hT.bx.fr (fr_al (Fr.refl (fun _ => False) _) _) id).cell (j := 1) rfl)) ?_
        refine WL.fin HW ?_
        refine WH.one 10 (by kernel_rfl) rfl ?_ 
        refine O.bsl rfl rfl rfl rfl rfl (qv_s_flow_visit_1 _ _ _ _ _) ?_
        refine WL.fin (fr_al HW _) ?_
        refine WH.one 11 (by kernel_rfl) rfl ?_ 
        refine WL.append rfl rfl rfl rfl rfl rfl (vs_app ⟨(n : Int), ra, (outsF bs n).length, rc⟩ _ hT.hp (by have := hT.aps.xt; omega) (by have := hT.rel.1; omega)) ?_
        rintro vq wq ⟨hR, hF1, hn1⟩
        -- world wq
        replace bx1 := bx1.fr hF1 (fun e => by have := (hA.xp _ e).2; omega)
        replace HW := HW.trans' hF1 (fun q hq e => by first | exact e | exact Or.inl e | exact Or.inr e | omega)
        refine WL.fin HW ?_
        refine WH.take 12 rfl (by kernel_rfl) (by kernel_rfl) (by kernel_rfl) (fun _ _ _ _ _ h => h) rfl rfl rfl HW (RH.nck rfl rfl) ?_
        refine WH.take 13 rfl (by kernel_rfl) (by kernel_rfl) (by kernel_rfl) (fun _ _ _ _ _ h => h) rfl rfl rfl HW (RH.field rfl rfl (fun W => qa_flow_traversal_1 W _ _)) ?_
        refine WH.one 14 (by kernel_rfl) rfl ?_ 
        obtain ⟨qa, qc, rfl⟩ := Row.form hR
        refine O.storeR rfl rfl rfl rfl rfl (qsF_s_flow_visit _ tb 1 _ _ _ _ _ _ (hT.bx.fr hF1 (fun e => hT.aps.pt e)) rfl) ?_
        rintro w9 ⟨hF2, hbx2⟩
        replace bx1 := bx1.fr hF2 (fun e => by have := hA.xt; omega)
        replace HW := HW.trans' hF2 (fun q hq e => by first | exact e | exact Or.inl e | exact Or.inr e | omega)
        refine WL.fin HW ?_
        refine WH.end (by kernel_rfl) ?_
        refine O.end0 rfl ?_
        exact ⟨rfl, ⟨_, _, hT.push (x := ⟨(n : Int), ra, (outsF bs n).length, rc⟩) (y := ((n : Int), outsF bs n)) rfl rfl hrc hr hR hF1 hbx2 hF2⟩, (f0.trans' hF1 (fun q hq e => by have := (hT.aps.xp q e).1; omega)).trans' hF2 (fun q hq e => by have := hT.aps.xt; omega)⟩
      · skip
        refine O.bsl rfl rfl rfl rfl rfl (qv_s_flow_visit_1 _ _ _ _ _) ?_
        refine WL.fin (fr_al HW _) ?_
        refine WH.one 4 (by kernel_rfl) rfl ?_ 
        refine WL.ld rfl rfl rfl rfl rfl (ql_s_flow_visit _ _ _ _ _ (by first | exact hT.bx.cell (j := 1) rfl | exact (hT.bx.fr (fr_al (Fr.refl (fun _ => False) _) _) id).cell (j := 1) rfl)) ?_
        refine WL.fin (fr_al HW _) ?_
        refine WH.one 11 (by kernel_rfl) rfl ?_ 
        refine WL.append rfl rfl rfl rfl rfl rfl (vs_app ⟨(n : Int), ra, (outsF bs n).length, rc⟩ _ hT.hp (by have := hT.aps.xt; omega) (by have := hT.rel.1; omega)) ?_
        rintro vq wq ⟨hR, hF1, hn1⟩
        -- world wq
        replace bx1 := bx1.fr hF1 (fun e => by have := (hA.xp _ e).2; omega)
        replace HW := HW.trans' hF1 (fun q hq e => by first | exact e | exact Or.inl e | exact Or.inr e | omega)
        refine WL.fin HW ?_
        refine WH.take 12 rfl (by kernel_rfl) (by kernel_rfl) (by kernel_rfl) (fun _ _ _ _ _ h => h) rfl rfl rfl HW (RH.nck rfl rfl) ?_
        refine WH.take 13 rfl (by kernel_rfl) (by kernel_rfl) (by kernel_rfl) (fun _ _ _ _ _ h => h) rfl rfl rfl HW (RH.field rfl rfl (fun W => qa_flow_traversal_1 W _ _)) ?_
        refine WH.one 14 (by kernel_rfl) rfl ?_ 
        obtain ⟨qa, qc, rfl⟩ := Row.form hR
        refine O.storeR rfl rfl rfl rfl rfl (qsF_s_flow_visit _ tb 1 _ _ _ _ _ _ (hT.bx.fr hF1 (fun e => hT.aps.pt e)) rfl) ?_
        rintro w9 ⟨hF2, hbx2⟩
        replace bx1 := bx1.fr hF2 (fun e => by have := hA.xt; omega)
        replace HW := HW.trans' hF2 (fun q hq e => by first | exact e | exact Or.inl e | exact Or.inr e | omega)
        refine WL.fin HW ?_
        refine WH.end (by kernel_rfl) ?_
        refine O.end0 rfl ?_
        exact ⟨rfl, ⟨_, _, hT.push (x := ⟨(n : Int), ra, (outsF bs n).length, rc⟩) (y := ((n : Int), outsF bs n)) rfl rfl hrc hr hR hF1 hbx2 hF2⟩, (f0.trans' hF1 (fun q hq e => by have := (hT.aps.xp q e).1; omega)).trans' hF2 (fun q hq e => by have := hT.aps.xt; omega)⟩
set_option maxRecDepth 100000 in
theorem t_leave (nb n : Nat) (hn : n < nb) (B tb S : Nat) (vp vl vb : Value) (ms : List Vs) (path : List (Int × List Int)) (st left : List Int) (back : List (Int × Int)) (hlen : path.length ≤ 100000) (w0 w : World) (hB : w0.heap.size ≤ B) (f0 : Fr (fun _ => False) w0 w) (hT : Trv B tb S nb w vp vl vb ms path st left back) (hll : left.length ≤ 100000) (hp1 : 0 < path.length) : Calls Try.prog 41 #[.pointer (some ⟨tb, 0, none⟩), .int .i64 (n : Int)] w fun e w' => e = .returned (.tuple #[]) ∧ (∃ vp' vl' ms', Trv B tb S nb w' vp' vl' vb ms' (path.take (path.length - 1)) (st.set n 2) (left ++ [(n : Int)]) back) ∧ Fr (fun _ => False) w0 w' := by
  refine calls_tw Try.func41 rfl rfl (Nat.le_of_ble_eq_true rfl) ?_
  have hA := hT.aps
  obtain ⟨hst, _, _⟩ := Row.capLe hT.hs
  obtain ⟨pa, pcap, rfl⟩ := Row.form hT.hp
  obtain ⟨_, hpc, hnone⟩ := Row.capLe hT.hp
  obtain ⟨la, lcap, rfl⟩ := Row.form hT.hl
  have hrl := hT.rel.1
  refine TW.sreg ?_
  refine WL.op rfl rfl rfl (Go.Proofs.Ytobibplilbchfaa.W.quiet_move rfl rfl) ?_
  refine O.nck rfl rfl rfl rfl rfl ?_
  refine WL.op rfl rfl rfl (Go.Proofs.Ytobibplilbchfaa.W.quiet_field rfl rfl (fun W => (qa_flow_traversal_0 W _ _))) ?_
  refine WL.ld rfl rfl rfl rfl rfl (ql_s_int _ _ _ _ _ (by first | exact hT.bx.cell (j := 0) rfl | exact (hT.bx.fr (fr_al (Fr.refl (fun _ => False) _) _) id).cell (j := 0) rfl)) ?_
  refine WL.op rfl rfl rfl (Go.Proofs.Ytobibplilbchfaa.W.quiet_move rfl rfl) ?_
  refine O.ixa rfl rfl rfl rfl rfl rfl (qi_s_int _ _ _ _ _ _ (by omega)) ?_
  refine O.storeR rfl rfl rfl rfl rfl (hT.hs.store (k := n) (by omega) 2) ?_
  rintro w2 ⟨hI2, hFs⟩
  replace hT := hT.setS hI2 hFs
  replace f0 := f0.trans' hFs (fun q hq e => by have := hA.xS; omega)
  have hws : w.heap.size ≤ w2.heap.size := by have := hFs.size; omega
  refine WL.nil ?_
  refine TW.sreg ?_
  refine WL.op rfl rfl rfl (Go.Proofs.Ytobibplilbchfaa.W.quiet_move rfl rfl) ?_
  refine WL.op rfl rfl rfl (Go.Proofs.Ytobibplilbchfaa.W.quiet_move rfl rfl) ?_
  refine O.nck rfl rfl rfl rfl rfl ?_
  refine WL.op rfl rfl rfl (Go.Proofs.Ytobibplilbchfaa.W.quiet_field rfl rfl (fun W => (qa_flow_traversal_2 W _ _))) ?_
  refine WL.ld rfl rfl rfl rfl rfl (ql_s_int _ _ _ _ _ (by first | exact hT.bx.cell (j := 2) rfl | exact (hT.bx.fr (fr_al (Fr.refl (fun _ => False) _) _) id).cell (j := 2) rfl)) ?_
  refine WL.op rfl rfl rfl (Go.Proofs.Ytobibplilbchfaa.W.quiet_move rfl rfl) ?_
  refine O.bsl rfl rfl rfl rfl rfl (qv_s_int_1 _ _) ?_
  refine WL.append rfl rfl rfl rfl rfl rfl (Ints.app (n : Int) _ hT.hl (by have := hT.aps.xt; omega) (by omega)) ?_
  rintro vq wq ⟨hR, hF1, hn1⟩
  obtain ⟨qa, qc, rfl⟩ := Row.form hR
  have hA2 := hT.aps
  -- world wq
  refine O.nck rfl rfl rfl rfl rfl ?_
  refine WL.op rfl rfl rfl (Go.Proofs.Ytobibplilbchfaa.W.quiet_field rfl rfl (fun W => (qa_flow_traversal_2 W _ _))) ?_
  refine O.storeR rfl rfl rfl rfl rfl (qsF_s_int _ tb 2 _ _ _ _ _ _ (hT.bx.fr hF1 (fun e => hT.aps.lt e)) rfl) ?_
  rintro w9 ⟨hF2, hbx2⟩
  replace f0 := (f0.trans' hF1 (fun q hq e => by have := (hA2.xl q e).1; omega)).trans' hF2 (fun q hq e => by have := hA2.xt; omega)
  replace hT := hT.setL hR hF1 hn1 hbx2 hF2
  clear hF2 hbx2 hF1 hR hn1
  have hA3 := hT.aps
  refine WL.nil ?_
  refine TW.regH (fun W => Fr (fun q => q = tb) w9 W) (by kernel_rfl) ?_
  have fd : Fr (fun _ => False) w9 w9.drew := (Fr.refl _ _).drewN 1
  have HW : Fr (fun q => q = tb) w9 w9.drew := (Fr.refl _ _).drewN 1
  replace hT := hT.fr fd
  replace f0 := f0.trans fd
  generalize hV : w9.drew = V1 at *
  clear hV
  refine WH.take 0 rfl (by kernel_rfl) (by kernel_rfl) (by kernel_rfl) (fun _ _ _ _ _ h => h) rfl rfl rfl HW (RH.move rfl rfl) ?_
  refine WH.take 1 rfl (by kernel_rfl) (by kernel_rfl) (by kernel_rfl) (fun _ _ _ _ _ h => h) rfl rfl rfl HW (RH.move rfl rfl) ?_
  refine WH.take 2 rfl (by kernel_rfl) (by kernel_rfl) (by kernel_rfl) (fun _ _ _ _ _ h => h) rfl rfl rfl HW (RH.nck rfl rfl) ?_
  refine WH.take 3 rfl (by kernel_rfl) (by kernel_rfl) (by kernel_rfl) (fun _ _ _ _ _ h => h) rfl rfl rfl HW (RH.field rfl rfl (fun W => qa_flow_traversal_1 W _ _)) ?_
  refine WH.take 5 rfl (by kernel_rfl) (by kernel_rfl) (by kernel_rfl) (fun _ _ _ _ _ h => h) rfl rfl rfl HW (RH.move rfl rfl) ?_
  refine WH.take 6 rfl (by kernel_rfl) (by kernel_rfl) (by kernel_rfl) (fun _ _ _ _ _ h => h) rfl rfl rfl HW (RH.nck rfl rfl) ?_
  refine WH.take 7 rfl (by kernel_rfl) (by kernel_rfl) (by kernel_rfl) (fun _ _ _ _ _ h => h) rfl rfl rfl HW (RH.field rfl rfl (fun W => qa_flow_traversal_1 W _ _)) ?_
  refine WH.two 4 8 (by kernel_rfl) rfl rfl ?_ ?_ 
  · skip
    refine WL.ld rfl rfl rfl rfl rfl (ql_s_flow_visit _ _ _ _ _ (by first | exact hT.bx.cell (j := 1) rfl | exact (hT.bx.fr (fr_al (Fr.refl (fun _ => False) _) _) id).cell (j := 1) rfl)) ?_
    refine WL.fin HW ?_
    refine WH.one 8 (by kernel_rfl) rfl ?_ 
    refine WL.ld rfl rfl rfl rfl rfl (ql_s_flow_visit _ _ _ _ _ (by first | exact hT.bx.cell (j := 1) rfl | exact (hT.bx.fr (fr_al (Fr.refl (fun _ => False) _) _) id).cell (j := 1) rfl)) ?_
    refine WL.fin HW ?_
    refine WH.take 9 rfl (by kernel_rfl) (by kernel_rfl) (by kernel_rfl) (fun _ _ _ _ _ h => h) rfl rfl rfl HW (RH.len rfl rfl (fun W => qn_s_flow_visit _ _ _ _)) ?_
    refine WH.take 10 rfl (by kernel_rfl) (by kernel_rfl) (by kernel_rfl) (fun _ _ _ _ _ h => h) rfl rfl rfl HW (RH.bin rfl rfl rfl (fun W => (qb_sub_int W _ _ _ _ (by omega) (by omega)).trans (by rw [show ((ms.length : Int) - 1) = ((ms.length - 1 : Nat) : Int) by omega]))) ?_
    refine WH.one 11 (by kernel_rfl) rfl ?_ 
    refine O.sl2 rfl rfl rfl rfl rfl rfl (sl_toV _ _ _ _ (ms.length - 1) (by omega) hnone) ?_
    refine WL.fin HW ?_
    refine WH.take 12 rfl (by kernel_rfl) (by kernel_rfl) (by kernel_rfl) (fun _ _ _ _ _ h => h) rfl rfl rfl HW (RH.nck rfl rfl) ?_
    refine WH.take 13 rfl (by kernel_rfl) (by kernel_rfl) (by kernel_rfl) (fun _ _ _ _ _ h => h) rfl rfl rfl HW (RH.field rfl rfl (fun W => qa_flow_traversal_1 W _ _)) ?_
    refine WH.one 14 (by kernel_rfl) rfl ?_ 
    refine O.storeR rfl rfl rfl rfl rfl (qsF_s_flow_visit _ tb 1 _ _ _ _ _ _ hT.bx rfl) ?_
    rintro w9 ⟨hF2, hbx2⟩
    replace HW := HW.trans' hF2 (fun q hq e => by first | exact e | exact Or.inl e | exact Or.inr e | omega)
    refine WL.fin HW ?_
    refine WH.end (by kernel_rfl) ?_
    refine O.end0 rfl ?_
    exact ⟨rfl, ⟨_, _, _, by rw [← hrl]; exact hT.cut (ms.length - 1) (by omega) hbx2 hF2⟩, f0.trans' hF2 (fun q hq e => by have := hA3.xt; omega)⟩
  · skip
    refine WL.ld rfl rfl rfl rfl rfl (ql_s_flow_visit _ _ _ _ _ (by first | exact hT.bx.cell (j := 1) rfl | exact (hT.bx.fr (fr_al (Fr.refl (fun _ => False) _) _) id).cell (j := 1) rfl)) ?_
    refine WL.fin HW ?_
    refine WH.take 9 rfl (by kernel_rfl) (by kernel_rfl) (by kernel_rfl) (fun _ _ _ _ _ h => h) rfl rfl rfl HW (RH.len rfl rfl (fun W => qn_s_flow_visit _ _ _ _)) ?_
    refine WH.take 10 rfl (by kernel_rfl) (by kernel_rfl) (by kernel_rfl) (fun _ _ _ _ _ h => h) rfl rfl rfl HW (RH.bin rfl rfl rfl (fun W => (qb_sub_int W _ _ _ _ (by omega) (by omega)).trans (by rw [show ((ms.length : Int) - 1) = ((ms.length - 1 : Nat) : Int) by omega]))) ?_
    refine WH.one 4 (by kernel_rfl) rfl ?_ 
    refine WL.ld rfl rfl rfl rfl rfl (ql_s_flow_visit _ _ _ _ _ (by first | exact hT.bx.cell (j := 1) rfl | exact (hT.bx.fr (fr_al (Fr.refl (fun _ => False) _) _) id).cell (j := 1) rfl)) ?_
    refine WL.fin HW ?_
    refine WH.one 11 (by kernel_rfl) rfl ?_ 
    refine O.sl2 rfl rfl rfl rfl rfl rfl (sl_toV _ _ _ _ (ms.length - 1) (by omega) hnone) ?_
    refine WL.fin HW ?_
    refine WH.take 12 rfl (by kernel_rfl) (by kernel_rfl) (by kernel_rfl) (fun _ _ _ _ _ h => h) rfl rfl rfl HW (RH.nck rfl rfl) ?_
    refine WH.take 13 rfl (by kernel_rfl) (by kernel_rfl) (by kernel_rfl) (fun _ _ _ _ _ h => h) rfl rfl rfl HW (RH.field rfl rfl (fun W => qa_flow_traversal_1 W _ _)) ?_
    refine WH.one 14 (by kernel_rfl) rfl ?_ 
    refine O.storeR rfl rfl rfl rfl rfl (qsF_s_flow_visit _ tb 1 _ _ _ _ _ _ hT.bx rfl) ?_
    rintro w9 ⟨hF2, hbx2⟩
    replace HW := HW.trans' hF2 (fun q hq e => by first | exact e | exact Or.inl e | exact Or.inr e | omega)
    refine WL.fin HW ?_
    refine WH.end (by kernel_rfl) ?_
    refine O.end0 rfl ?_
    exact ⟨rfl, ⟨_, _, _, by rw [← hrl]; exact hT.cut (ms.length - 1) (by omega) hbx2 hF2⟩, f0.trans' hF2 (fun q hq e => by have := hA3.xt; omega)⟩
end Go.Proofs.Ytobibplilbchfaa
