/-
  Runs (layer 14): the walk of the law on fuel.
-/
import Derived.Test.YthdkmjbeemfbbaaQRnV
import Derived.Test.YthdkmjbeemfbbaaQFewM
namespace Go.Proofs.Ythdkmjbeemfbbaa
open Go.RowKit
set_option linter.unusedVariables false
set_option linter.unusedSimpArgs false
set_option linter.unnecessarySimpa false
theorem qxR_2_int (w : World) (um0 : Int) (um1 : Int) : ∃ w', (Instr.box 28 (.agg #[.int .i64 um0, .int .i64 um1])).run Try.prog w = .ok (.pointer (some ⟨w.heap.size, 0, none⟩)) w' ∧ (Fr (fun _ => False) w w' ∧ Bx w' w.heap.size #[.int .i64 um0, .int .i64 um1] 28) := ⟨w.alloc (.cells #[.int .i64 um0, .int .i64 um1] 28), by simp [go_sem], fr_al (Fr.refl _ _) _, Bx.new _ _ _⟩
theorem qk_rushlightlaw13_Few (w : World) (vs : Array Value) : (callFunc 4 vs).run Try.prog w = .ok (.enter 4 vs) w := by simp [go_sem]
theorem qk_rushlightlaw14_awake (w : World) (vs : Array Value) : (callFunc 5 vs).run Try.prog w = .ok (.enter 5 vs) w := by simp [go_sem]
theorem qk_irrun_Run (w : World) (vs : Array Value) : (callFunc 6 vs).run Try.prog w = .ok (.enter 6 vs) w := by simp [go_sem]
theorem qlB_api_Outcome (w : World) (g : Nat) (up0 : Option Addr) (uk0 ul0 : Nat) (um1 : Int) (um2 : Int) (um3 : Int) (tt : TypeId) (h : Bx w g #[.slice up0 uk0 ul0, .int .i64 um1, .int .u32 um2, .int .i64 um3] tt) : (Instr.loadAt 34 (.pointer (some ⟨g, 0, none⟩))).run Try.prog w = .ok (.agg #[.slice up0 uk0 ul0, .int .i64 um1, .int .u32 um2, .int .i64 um3]) w := by
  have c0 := h.cell (j := 0) rfl
  have c1 := h.cell (j := 1) rfl
  have c2 := h.cell (j := 2) rfl
  have c3 := h.cell (j := 3) rfl
  simp [go_sem, c0, c1, c2, c3]
theorem qk_rushlightlaw12_Same (w : World) (vs : Array Value) : (callFunc 7 vs).run Try.prog w = .ok (.enter 7 vs) w := by simp [go_sem]
theorem qb_leq_int (w : World) (x y : Operand) (m n : Int) : ((do eqGuard .leq 3 x y (.int .i64 m) (.int .i64 n); binOp .leq 3 (.int .i64 m) (.int .i64 n) : Sem Value)).run Try.prog w = .ok (.bool (decide (m ≤ n))) w := by simp [go_sem]
theorem ix_a2_0 (w : World) (b : Nat) : (Instr.indexAt 28 (.pointer (some ⟨b, 0, none⟩)) (.int .i64 0)).run Try.prog w = .ok (.pointer (some ⟨b, 0, none⟩)) w := by simp [go_sem]
theorem ix_a2_1 (w : World) (b : Nat) : (Instr.indexAt 28 (.pointer (some ⟨b, 0, none⟩)) (.int .i64 1)).run Try.prog w = .ok (.pointer (some ⟨b, 1, none⟩)) w := by simp [go_sem]
theorem t_len (m : Mdl) (dat : List (List Int)) (inp : List Int) (f : Nat) (hfew : m.few) (hwd : m.wide) (hinu : ∀ y ∈ inp, U32 y) (hdu : ∀ k j, 0 ≤ (dat.getD k []).getD j 0 ∧ (dat.getD k []).getD j 0 ≤ 255) (hf : f ≤ 9000) : (rFin m dat inp f).out.length ≤ 1000000 := by
  unfold rFin
  split
  · rename_i hm
    have hmp := mdlP_of hfew hm
    have := (RWf.run hmp (mdlU_of hwd) hinu f _ (RWf.beg hmp _ (rMe_in (s := slS m.gl) hdu m.gl.length))).on
    omega
  · simp
set_option maxRecDepth 100000 in
set_option maxHeartbeats 1000000 in
theorem fuel_walk (HA : ∀ W, Calls Try.prog 5 #[] W fun e w' => e = .returned (.bool true) ∧ Fr (fun _ => False) W w') (m : Mdl) (dat : List (List Int)) (inp : List Int) (ga da pa ia : Option Addr) (gc dc pc ic : Nat) (n0 n1 : Int) (hwd : m.wide) (hdm : ∀ y ∈ m.da, y ≤ maxLen) (hdl0 : dat.length = m.da.length) (hdl : ∀ k, k < m.da.length → (dat.getD k []).length = m.da.getD k 0) (hinu : ∀ y ∈ inp, U32 y) (hdu : ∀ k j, 0 ≤ (dat.getD k []).getD j 0 ∧ (dat.getD k []).getD j 0 ≤ 255) (w : World) (hm : MdlAt w ga da pa m) (hdat : DatB w da dat) (hin : InpAt w ia inp) : Calls Try.prog 3 #[.agg #[.slice ga m.gl.length gc, .slice da m.da.length dc, .slice pa m.pr.length pc, .int .i64 m.mn], .slice ia inp.length ic, .agg #[.int .i64 n0, .int .i64 n1]] w fun e w' => e = .returned (.bool true) ∧ Fr (fun _ => False) w w' := by
  have ff := Fr.refl (fun _ => False) w
  refine calls_tw Try.func3 rfl rfl (Nat.le_of_ble_eq_true rfl) ?_
  refine TW.sreg ?_
  have lw1 := ff.size
  refine O.boxR rfl rfl rfl rfl rfl (qxR_api_Module w _ _ _ _ _ _ _ _ _ _) ?_
  rintro wa1 ⟨fa1, bx1⟩
  replace ff := ff.trans fa1
  have lt2_bx1 := bx1.lt
  have lw2 := ff.size
  refine O.boxR rfl rfl rfl rfl rfl (qxR_2_int wa1 _ _) ?_
  rintro wa2 ⟨fa2, bx2⟩
  replace bx1 := bx1.fr fa2 id
  replace ff := ff.trans fa2
  refine WL.op rfl rfl rfl (Go.Proofs.Ythdkmjbeemfbbaa.W.quiet_assign rfl rfl) ?_
  refine WL.nil ?_
  refine TW.seq ?_
  refine TW.sreg ?_
  refine WL.ld rfl rfl rfl rfl rfl (qlB_api_Module _ _ _ _ _ _ _ _ _ _ _ _ _ bx1) ?_
  refine WL.call (hr := (few_mod ga da pa _ _ _ gc dc pc _ m rfl rfl rfl hwd _ (hm.fr ff))) rfl rfl rfl rfl rfl (fun W => qk_rushlightlaw13_Few W _) ?_
  rintro e wF ⟨⟨t, rfl, hft⟩, fF⟩
  refine ⟨_, rfl, ?_⟩
  replace bx1 := bx1.fr fF id
  replace bx2 := bx2.fr fF id
  replace ff := ff.trans fF
  refine O.split (fun hbt => ?_) (fun hbt => ?_)
  · skip
    have hfew := hft (by assumption)
    refine WL.op rfl rfl rfl (Go.Proofs.Ythdkmjbeemfbbaa.W.quiet_not rfl rfl) ?_
    refine WL.op rfl rfl rfl (Go.Proofs.Ythdkmjbeemfbbaa.W.quiet_move rfl rfl) ?_
    refine WL.op rfl rfl rfl (Go.Proofs.Ythdkmjbeemfbbaa.W.quiet_move rfl rfl) ?_
    refine O.len rfl rfl rfl rfl rfl (qn_s_uint32 _ _ _ _) ?_
    refine WL.op rfl rfl rfl (Go.Proofs.Ythdkmjbeemfbbaa.W.quiet_bin rfl rfl rfl (fun W => qb_gtr_int W _ _ _ _)) ?_
    refine O.split (fun hb => ?_) (fun hb => ?_)
    · skip
      refine WL.op rfl rfl rfl (Go.Proofs.Ythdkmjbeemfbbaa.W.quiet_pick rfl rfl rfl) ?_
      refine WL.op rfl rfl rfl (Go.Proofs.Ythdkmjbeemfbbaa.W.quiet_move rfl rfl) ?_
      refine WL.skip rfl rfl rfl ?_
      refine WL.skip rfl rfl rfl ?_
      refine WL.skip rfl rfl rfl ?_
      refine WL.op rfl rfl rfl (Go.Proofs.Ythdkmjbeemfbbaa.W.quiet_pick rfl rfl rfl) ?_
      refine WL.op rfl rfl rfl (Go.Proofs.Ythdkmjbeemfbbaa.W.quiet_move rfl rfl) ?_
      refine WL.skip rfl rfl rfl ?_
      refine WL.skip rfl rfl rfl ?_
      refine WL.skip rfl rfl rfl ?_
      refine WL.op rfl rfl rfl (Go.Proofs.Ythdkmjbeemfbbaa.W.quiet_pick rfl rfl rfl) ?_
      refine WL.op rfl rfl rfl (Go.Proofs.Ythdkmjbeemfbbaa.W.quiet_move rfl rfl) ?_
      refine WL.skip rfl rfl rfl ?_
      refine WL.skip rfl rfl rfl ?_
      refine WL.skip rfl rfl rfl ?_
      refine WL.op rfl rfl rfl (Go.Proofs.Ythdkmjbeemfbbaa.W.quiet_pick rfl rfl rfl) ?_
      refine WL.op rfl rfl rfl (Go.Proofs.Ythdkmjbeemfbbaa.W.quiet_move rfl rfl) ?_
      refine WL.skip rfl rfl rfl ?_
      refine WL.skip rfl rfl rfl ?_
      refine WL.skip rfl rfl rfl ?_
      refine WL.op rfl rfl rfl (Go.Proofs.Ythdkmjbeemfbbaa.W.quiet_pick rfl rfl rfl) ?_
      refine WL.nil ?_
      refine TW.cond rfl (fun _ => ?_) (fun hb => by cases hb)
      refine TW.sreg ?_
      refine WL.call (hr := (HA _)) rfl rfl rfl rfl rfl (fun W => qk_rushlightlaw14_awake W _) ?_
      rintro e wz9 ⟨rfl, fz⟩
      refine ⟨_, rfl, ?_⟩
      replace bx1 := bx1.fr fz id
      replace bx2 := bx2.fr fz id
      replace ff := ff.trans fz
      refine WL.op rfl rfl rfl (Go.Proofs.Ythdkmjbeemfbbaa.W.quiet_assign rfl rfl) ?_
      refine WL.nil ?_
      refine TW.rt ?_
      refine Xw.thn (by simp) ?_
      refine bodyw_ret rfl rfl ?_
      exact ⟨rfl, ff⟩
    · skip
      have hinl : inp.length ≤ 40 := by have := of_decide_eq_false hb; omega
      clear hb
      refine WL.op rfl rfl rfl (Go.Proofs.Ythdkmjbeemfbbaa.W.quiet_pick rfl rfl rfl) ?_
      refine WL.op rfl rfl rfl (Go.Proofs.Ythdkmjbeemfbbaa.W.quiet_move rfl rfl) ?_
      refine O.ixa rfl rfl rfl rfl rfl rfl (ix_a2_0 _ _) ?_
      refine WL.ld rfl rfl rfl rfl rfl (ql_int _ _ _ (bx2.cell (j := 0) rfl)) ?_
      refine WL.op rfl rfl rfl (Go.Proofs.Ythdkmjbeemfbbaa.W.quiet_bin rfl rfl rfl (fun W => qb_lss_int W _ _ _ _)) ?_
      refine O.split (fun hb => ?_) (fun hb => ?_)
      · skip
        refine WL.op rfl rfl rfl (Go.Proofs.Ythdkmjbeemfbbaa.W.quiet_pick rfl rfl rfl) ?_
        refine WL.op rfl rfl rfl (Go.Proofs.Ythdkmjbeemfbbaa.W.quiet_move rfl rfl) ?_
        refine WL.skip rfl rfl rfl ?_
        refine WL.skip rfl rfl rfl ?_
        refine WL.skip rfl rfl rfl ?_
        refine WL.op rfl rfl rfl (Go.Proofs.Ythdkmjbeemfbbaa.W.quiet_pick rfl rfl rfl) ?_
        refine WL.op rfl rfl rfl (Go.Proofs.Ythdkmjbeemfbbaa.W.quiet_move rfl rfl) ?_
        refine WL.skip rfl rfl rfl ?_
        refine WL.skip rfl rfl rfl ?_
        refine WL.skip rfl rfl rfl ?_
        refine WL.op rfl rfl rfl (Go.Proofs.Ythdkmjbeemfbbaa.W.quiet_pick rfl rfl rfl) ?_
        refine WL.op rfl rfl rfl (Go.Proofs.Ythdkmjbeemfbbaa.W.quiet_move rfl rfl) ?_
        refine WL.skip rfl rfl rfl ?_
        refine WL.skip rfl rfl rfl ?_
        refine WL.skip rfl rfl rfl ?_
        refine WL.op rfl rfl rfl (Go.Proofs.Ythdkmjbeemfbbaa.W.quiet_pick rfl rfl rfl) ?_
        refine WL.nil ?_
        refine TW.cond rfl (fun _ => ?_) (fun hb => by cases hb)
        refine TW.sreg ?_
        refine WL.call (hr := (HA _)) rfl rfl rfl rfl rfl (fun W => qk_rushlightlaw14_awake W _) ?_
        rintro e wz9 ⟨rfl, fz⟩
        refine ⟨_, rfl, ?_⟩
        replace bx1 := bx1.fr fz id
        replace bx2 := bx2.fr fz id
        replace ff := ff.trans fz
        refine WL.op rfl rfl rfl (Go.Proofs.Ythdkmjbeemfbbaa.W.quiet_assign rfl rfl) ?_
        refine WL.nil ?_
        refine TW.rt ?_
        refine Xw.thn (by simp) ?_
        refine bodyw_ret rfl rfl ?_
        exact ⟨rfl, ff⟩
      · skip
        have h00 : ¬ n0 < 0 := of_decide_eq_false hb
        clear hb
        refine WL.op rfl rfl rfl (Go.Proofs.Ythdkmjbeemfbbaa.W.quiet_pick rfl rfl rfl) ?_
        refine WL.op rfl rfl rfl (Go.Proofs.Ythdkmjbeemfbbaa.W.quiet_move rfl rfl) ?_
        refine O.ixa rfl rfl rfl rfl rfl rfl (ix_a2_1 _ _) ?_
        refine WL.ld rfl rfl rfl rfl rfl (ql_int _ _ _ (bx2.cell (j := 1) rfl)) ?_
        refine WL.op rfl rfl rfl (Go.Proofs.Ythdkmjbeemfbbaa.W.quiet_bin rfl rfl rfl (fun W => qb_lss_int W _ _ _ _)) ?_
        refine O.split (fun hb => ?_) (fun hb => ?_)
        · skip
          refine WL.op rfl rfl rfl (Go.Proofs.Ythdkmjbeemfbbaa.W.quiet_pick rfl rfl rfl) ?_
          refine WL.op rfl rfl rfl (Go.Proofs.Ythdkmjbeemfbbaa.W.quiet_move rfl rfl) ?_
          refine WL.skip rfl rfl rfl ?_
          refine WL.skip rfl rfl rfl ?_
          refine WL.skip rfl rfl rfl ?_
          refine WL.op rfl rfl rfl (Go.Proofs.Ythdkmjbeemfbbaa.W.quiet_pick rfl rfl rfl) ?_
          refine WL.op rfl rfl rfl (Go.Proofs.Ythdkmjbeemfbbaa.W.quiet_move rfl rfl) ?_
          refine WL.skip rfl rfl rfl ?_
          refine WL.skip rfl rfl rfl ?_
          refine WL.skip rfl rfl rfl ?_
          refine WL.op rfl rfl rfl (Go.Proofs.Ythdkmjbeemfbbaa.W.quiet_pick rfl rfl rfl) ?_
          refine WL.nil ?_
          refine TW.cond rfl (fun _ => ?_) (fun hb => by cases hb)
          refine TW.sreg ?_
          refine WL.call (hr := (HA _)) rfl rfl rfl rfl rfl (fun W => qk_rushlightlaw14_awake W _) ?_
          rintro e wz9 ⟨rfl, fz⟩
          refine ⟨_, rfl, ?_⟩
          replace bx1 := bx1.fr fz id
          replace bx2 := bx2.fr fz id
          replace ff := ff.trans fz
          refine WL.op rfl rfl rfl (Go.Proofs.Ythdkmjbeemfbbaa.W.quiet_assign rfl rfl) ?_
          refine WL.nil ?_
          refine TW.rt ?_
          refine Xw.thn (by simp) ?_
          refine bodyw_ret rfl rfl ?_
          exact ⟨rfl, ff⟩
        · skip
          have h01 : ¬ n1 < 0 := of_decide_eq_false hb
          clear hb
          refine WL.op rfl rfl rfl (Go.Proofs.Ythdkmjbeemfbbaa.W.quiet_pick rfl rfl rfl) ?_
          refine WL.op rfl rfl rfl (Go.Proofs.Ythdkmjbeemfbbaa.W.quiet_move rfl rfl) ?_
          refine O.ixa rfl rfl rfl rfl rfl rfl (ix_a2_0 _ _) ?_
          refine WL.ld rfl rfl rfl rfl rfl (ql_int _ _ _ (bx2.cell (j := 0) rfl)) ?_
          refine WL.op rfl rfl rfl (Go.Proofs.Ythdkmjbeemfbbaa.W.quiet_bin rfl rfl rfl (fun W => qb_gtr_int W _ _ _ _)) ?_
          refine O.split (fun hb => ?_) (fun hb => ?_)
          · skip
            refine WL.op rfl rfl rfl (Go.Proofs.Ythdkmjbeemfbbaa.W.quiet_pick rfl rfl rfl) ?_
            refine WL.op rfl rfl rfl (Go.Proofs.Ythdkmjbeemfbbaa.W.quiet_move rfl rfl) ?_
            refine WL.skip rfl rfl rfl ?_
            refine WL.skip rfl rfl rfl ?_
            refine WL.skip rfl rfl rfl ?_
            refine WL.op rfl rfl rfl (Go.Proofs.Ythdkmjbeemfbbaa.W.quiet_pick rfl rfl rfl) ?_
            refine WL.nil ?_
            refine TW.cond rfl (fun _ => ?_) (fun hb => by cases hb)
            refine TW.sreg ?_
            refine WL.call (hr := (HA _)) rfl rfl rfl rfl rfl (fun W => qk_rushlightlaw14_awake W _) ?_
            rintro e wz9 ⟨rfl, fz⟩
            refine ⟨_, rfl, ?_⟩
            replace bx1 := bx1.fr fz id
            replace bx2 := bx2.fr fz id
            replace ff := ff.trans fz
            refine WL.op rfl rfl rfl (Go.Proofs.Ythdkmjbeemfbbaa.W.quiet_assign rfl rfl) ?_
            refine WL.nil ?_
            refine TW.rt ?_
            refine Xw.thn (by simp) ?_
            refine bodyw_ret rfl rfl ?_
            exact ⟨rfl, ff⟩
          · skip
            have h02 : ¬ 3000 < n0 := of_decide_eq_false hb
            clear hb
            refine WL.op rfl rfl rfl (Go.Proofs.Ythdkmjbeemfbbaa.W.quiet_pick rfl rfl rfl) ?_
            refine WL.op rfl rfl rfl (Go.Proofs.Ythdkmjbeemfbbaa.W.quiet_move rfl rfl) ?_
            refine O.ixa rfl rfl rfl rfl rfl rfl (ix_a2_1 _ _) ?_
            refine WL.ld rfl rfl rfl rfl rfl (ql_int _ _ _ (bx2.cell (j := 1) rfl)) ?_
            refine WL.op rfl rfl rfl (Go.Proofs.Ythdkmjbeemfbbaa.W.quiet_bin rfl rfl rfl (fun W => qb_gtr_int W _ _ _ _)) ?_
            refine O.split (fun hb => ?_) (fun hb => ?_)
            · skip
              refine WL.op rfl rfl rfl (Go.Proofs.Ythdkmjbeemfbbaa.W.quiet_pick rfl rfl rfl) ?_
              refine WL.nil ?_
              refine TW.cond rfl (fun _ => ?_) (fun hb => by cases hb)
              refine TW.sreg ?_
              refine WL.call (hr := (HA _)) rfl rfl rfl rfl rfl (fun W => qk_rushlightlaw14_awake W _) ?_
              rintro e wz9 ⟨rfl, fz⟩
              refine ⟨_, rfl, ?_⟩
              replace bx1 := bx1.fr fz id
              replace bx2 := bx2.fr fz id
              replace ff := ff.trans fz
              refine WL.op rfl rfl rfl (Go.Proofs.Ythdkmjbeemfbbaa.W.quiet_assign rfl rfl) ?_
              refine WL.nil ?_
              refine TW.rt ?_
              refine Xw.thn (by simp) ?_
              refine bodyw_ret rfl rfl ?_
              exact ⟨rfl, ff⟩
            · skip
              have h03 : ¬ 3000 < n1 := of_decide_eq_false hb
              clear hb
              obtain ⟨f0, e0⟩ : ∃ f : Nat, n0 = (f : Int) := ⟨n0.toNat, by omega⟩
              obtain ⟨f1, e1⟩ : ∃ f : Nat, n1 = (f : Int) := ⟨n1.toNat, by omega⟩
              have hf0 : max n0 0 = (f0 : Int) := by omega
              have hf1 : max (n0 + n1) 0 = ((f0 + f1 : Nat) : Int) := by omega
              refine WL.op rfl rfl rfl (Go.Proofs.Ythdkmjbeemfbbaa.W.quiet_pick rfl rfl rfl) ?_
              refine WL.nil ?_
              refine TW.cond rfl (fun hb => by cases hb) (fun _ => ?_)
              refine TW.skip ?_
              refine O.mid (fun a W => ∃ b7 b8 oa oc ob od, Kn Try.f3.ntmps [(3, .pointer (some ⟨w.heap.size, 0, none⟩)), (7, .pointer (some ⟨b7, 0, none⟩)), (8, .pointer (some ⟨b8, 0, none⟩))] a ∧ Fr (fun _ => False) w W ∧ Bx W b7 #[.slice oa (rFin m dat inp f0).out.length oc, .int .i64 (rFin m dat inp f0).ins, .int .u32 (rFin m dat inp f0).ex, .int .i64 (rFin m dat inp f0).e] 34 ∧ Bx W b8 #[.slice ob (rFin m dat inp (f0 + f1)).out.length od, .int .i64 (rFin m dat inp (f0 + f1)).ins, .int .u32 (rFin m dat inp (f0 + f1)).ex, .int .i64 (rFin m dat inp (f0 + f1)).e] 34 ∧ Row w.heap.size 31 1 u32C W (.slice oa (rFin m dat inp f0).out.length oc) (rFin m dat inp f0).out ∧ Row w.heap.size 31 1 u32C W (.slice ob (rFin m dat inp (f0 + f1)).out.length od) (rFin m dat inp (f0 + f1)).out) ?_ ?_
              · skip
                have bx1p := bx1
                have bx2p := bx2
                refine TW.regH (fun W => Fr (fun _ => False) wF W) (by kernel_rfl) ?_
                have fd : Fr (fun _ => False) wF wF.drew := (Fr.refl _ _).drewN 1
                have HW : Fr (fun _ => False) wF wF.drew := (Fr.refl _ _).drewN 1
                replace bx1 := bx1.fr fd id
                replace bx2 := bx2.fr fd id
                replace ff := ff.trans fd
                generalize hV : wF.drew = V1 at *
                clear hV
                refine WH.take 0 rfl (by kernel_rfl) (by kernel_rfl) (by kernel_rfl) (fun _ _ _ _ _ h => h) rfl rfl rfl HW (RH.load rfl rfl (fun W hW => (qlB_api_Module _ _ _ _ _ _ _ _ _ _ _ _ _ (bx1p.fr hW id)))) ?_
                refine WH.take 1 rfl (by kernel_rfl) (by kernel_rfl) (by kernel_rfl) (fun _ _ _ _ _ h => h) rfl rfl rfl HW (RH.move rfl rfl) ?_
                refine WH.take 2 rfl (by kernel_rfl) (by kernel_rfl) (by kernel_rfl) (fun _ _ _ _ _ h => h) rfl rfl rfl HW (RH.index rfl rfl rfl (fun W => (ix_a2_0 W _))) ?_
                refine WH.take 3 rfl (by kernel_rfl) (by kernel_rfl) (by kernel_rfl) (fun _ _ _ _ _ h => h) rfl rfl rfl HW (RH.load rfl rfl (fun W hW => (ql_int _ _ _ ((bx2p.fr hW id).cell (j := 0) rfl)))) ?_
                refine WH.take 5 rfl (by kernel_rfl) (by kernel_rfl) (by kernel_rfl) (fun _ _ _ _ _ h => h) rfl rfl rfl HW (RH.load rfl rfl (fun W hW => (qlB_api_Module _ _ _ _ _ _ _ _ _ _ _ _ _ (bx1p.fr hW id)))) ?_
                refine WH.take 6 rfl (by kernel_rfl) (by kernel_rfl) (by kernel_rfl) (fun _ _ _ _ _ h => h) rfl rfl rfl HW (RH.move rfl rfl) ?_
                refine WH.take 7 rfl (by kernel_rfl) (by kernel_rfl) (by kernel_rfl) (fun _ _ _ _ _ h => h) rfl rfl rfl HW (RH.index rfl rfl rfl (fun W => (ix_a2_0 W _))) ?_
                refine WH.take 8 rfl (by kernel_rfl) (by kernel_rfl) (by kernel_rfl) (fun _ _ _ _ _ h => h) rfl rfl rfl HW (RH.load rfl rfl (fun W hW => (ql_int _ _ _ ((bx2p.fr hW id).cell (j := 0) rfl)))) ?_
                refine WH.take 9 rfl (by kernel_rfl) (by kernel_rfl) (by kernel_rfl) (fun _ _ _ _ _ h => h) rfl rfl rfl HW (RH.index rfl rfl rfl (fun W => (ix_a2_1 W _))) ?_
                refine WH.take 10 rfl (by kernel_rfl) (by kernel_rfl) (by kernel_rfl) (fun _ _ _ _ _ h => h) rfl rfl rfl HW (RH.load rfl rfl (fun W hW => (ql_int _ _ _ ((bx2p.fr hW id).cell (j := 1) rfl)))) ?_
                refine WH.take 11 rfl (by kernel_rfl) (by kernel_rfl) (by kernel_rfl) (fun _ _ _ _ _ h => h) rfl rfl rfl HW (RH.bin rfl rfl rfl (fun W => qb_add_int W _ _ _ _ (by omega) (by omega))) ?_
                refine WH.three 4 13 14 (by kernel_rfl) rfl rfl rfl ?_ ?_ ?_ 
                · skip
                  have hwz := ff.size
                  refine WL.call (hr := (t_Run m dat inp ga da pa ia gc dc pc ic _ f0 hf0 (by omega) hfew hwd hdm hdl0 hdl hinu hinl hdu _ (hm.fr ff) (hdat.fr ff) (hin.fr ff))) rfl rfl rfl rfl rfl (fun W => qk_irrun_Run W _) ?_
                  rintro e wA ⟨oa, oc, rfl, hrA, fA⟩
                  refine ⟨_, rfl, ?_⟩
                  replace bx1 := bx1.fr fA id
                  replace bx2 := bx2.fr fA id
                  replace HW := HW.trans' fA (fun q hq e => e.elim)
                  replace ff := ff.trans fA
                  replace hrA := Row.base (B' := w.heap.size) hrA (fun k hk => Nat.le_trans hwz (Row.lt hrA k hk).1)
                  refine WL.fin HW ?_
                  refine WH.three 12 13 14 (by kernel_rfl) rfl rfl rfl ?_ ?_ ?_ 
                  · skip
                    have hwz := ff.size
                    refine WL.call (hr := (t_Run m dat inp ga da pa ia gc dc pc ic _ (f0 + f1) hf1 (by omega) hfew hwd hdm hdl0 hdl hinu hinl hdu _ (hm.fr ff) (hdat.fr ff) (hin.fr ff))) rfl rfl rfl rfl rfl (fun W => qk_irrun_Run W _) ?_
                    rintro e wB ⟨ob, od, rfl, hrB, fB⟩
                    refine ⟨_, rfl, ?_⟩
                    replace bx1 := bx1.fr fB id
                    replace bx2 := bx2.fr fB id
                    replace HW := HW.trans' fB (fun q hq e => e.elim)
                    replace hrA := Row.fr hrA fB (fun _ _ => id)
                    replace ff := ff.trans fB
                    replace hrB := Row.base (B' := w.heap.size) hrB (fun k hk => Nat.le_trans hwz (Row.lt hrB k hk).1)
                    refine WL.fin HW ?_
                    refine WH.two 13 14 (by kernel_rfl) rfl rfl ?_ ?_ 
                    · skip
                      have hw13 := HW.size
                      have lt3_bx1 := bx1.lt
                      have lt3_bx2 := bx2.lt
                      have lw3 := ff.size
                      refine O.allocR rfl rfl rfl rfl (qzR_api_Outcome wB) ?_
                      rintro wa3 ⟨fa3, bx3⟩
                      replace bx1 := bx1.fr fa3 id
                      replace bx2 := bx2.fr fa3 id
                      replace HW := HW.trans' fa3 (fun q hq e => e.elim)
                      replace hrA := Row.fr hrA fa3 (fun _ _ => id)
                      replace hrB := Row.fr hrB fa3 (fun _ _ => id)
                      replace ff := ff.trans fa3
                      refine WL.fin HW ?_
                      refine WH.one 14 (by kernel_rfl) rfl ?_ 
                      have hw14 := HW.size
                      have lt4_bx1 := bx1.lt
                      have lt4_bx2 := bx2.lt
                      have lt4_bx3 := bx3.lt
                      have lw4 := ff.size
                      refine O.allocR rfl rfl rfl rfl (qzR_api_Outcome wa3) ?_
                      rintro wa4 ⟨fa4, bx4⟩
                      replace bx1 := bx1.fr fa4 id
                      replace bx2 := bx2.fr fa4 id
                      replace bx3 := bx3.fr fa4 id
                      replace HW := HW.trans' fa4 (fun q hq e => e.elim)
                      replace hrA := Row.fr hrA fa4 (fun _ _ => id)
                      replace hrB := Row.fr hrB fa4 (fun _ _ => id)
                      replace ff := ff.trans fa4
                      refine WL.fin HW ?_
                      refine WH.one 15 (by kernel_rfl) rfl ?_ 
                      refine O.storeR rfl rfl rfl rfl rfl (qsA_api_Outcome wa4 _ _ _ _ _ _ _ _ _ _ _ bx3) ?_
                      rintro wa5 ⟨fa5, bx3x⟩
                      replace bx1 := bx1.fr fa5 (fun e => by omega)
                      replace bx2 := bx2.fr fa5 (fun e => by omega)
                      replace bx4 := bx4.fr fa5 (fun e => by omega)
                      replace HW := HW.trans' fa5 (fun q hq e => by first | exact e | exact Or.inl e | exact Or.inr e | omega)
                      replace hrA := Row.fr hrA fa5 (fun k hk e => Row.apart_typ hrA bx3 (by decide) (hk.trans (congrArg some e)))
                      replace hrB := Row.fr hrB fa5 (fun k hk e => Row.apart_typ hrB bx3 (by decide) (hk.trans (congrArg some e)))
                      replace ff := ff.trans' fa5 (fun q hq e => by omega)
                      clear bx3
                      have bx3 := bx3x
                      clear bx3x
                      refine WL.fin HW ?_
                      refine WH.one 16 (by kernel_rfl) rfl ?_ 
                      refine O.storeR rfl rfl rfl rfl rfl (qsA_api_Outcome wa5 _ _ _ _ _ _ _ _ _ _ _ bx4) ?_
                      rintro wa6 ⟨fa6, bx4x⟩
                      replace bx1 := bx1.fr fa6 (fun e => by omega)
                      replace bx2 := bx2.fr fa6 (fun e => by omega)
                      replace bx3 := bx3.fr fa6 (fun e => by omega)
                      replace HW := HW.trans' fa6 (fun q hq e => by first | exact e | exact Or.inl e | exact Or.inr e | omega)
                      replace hrA := Row.fr hrA fa6 (fun k hk e => Row.apart_typ hrA bx4 (by decide) (hk.trans (congrArg some e)))
                      replace hrB := Row.fr hrB fa6 (fun k hk e => Row.apart_typ hrB bx4 (by decide) (hk.trans (congrArg some e)))
                      replace ff := ff.trans' fa6 (fun q hq e => by omega)
                      clear bx4
                      have bx4 := bx4x
                      clear bx4x
                      refine WL.fin HW ?_
                      refine WH.end (by kernel_rfl) ?_
                      refine Xw.any (fun a k => ?_)
                      exact ⟨_, _, oa, oc, ob, od, (by (repeat (refine Kn.cons k rfl ?_)); exact k.base), ff, bx3, bx4, hrA, hrB⟩
                    · skip
                      have hw14 := HW.size
                      have lt5_bx1 := bx1.lt
                      have lt5_bx2 := bx2.lt
                      have lw5 := ff.size
                      refine O.allocR rfl rfl rfl rfl (qzR_api_Outcome wB) ?_
                      rintro wa7 ⟨fa7, bx5⟩
                      replace bx1 := bx1.fr fa7 id
                      replace bx2 := bx2.fr fa7 id
                      replace HW := HW.trans' fa7 (fun q hq e => e.elim)
                      replace hrA := Row.fr hrA fa7 (fun _ _ => id)
                      replace hrB := Row.fr hrB fa7 (fun _ _ => id)
                      replace ff := ff.trans fa7
                      refine WL.fin HW ?_
                      refine WH.one 13 (by kernel_rfl) rfl ?_ 
                      have hw13 := HW.size
                      have lt6_bx1 := bx1.lt
                      have lt6_bx2 := bx2.lt
                      have lt6_bx5 := bx5.lt
                      have lw6 := ff.size
                      refine O.allocR rfl rfl rfl rfl (qzR_api_Outcome wa7) ?_
                      rintro wa8 ⟨fa8, bx6⟩
                      replace bx1 := bx1.fr fa8 id
                      replace bx2 := bx2.fr fa8 id
                      replace bx5 := bx5.fr fa8 id
                      replace HW := HW.trans' fa8 (fun q hq e => e.elim)
                      replace hrA := Row.fr hrA fa8 (fun _ _ => id)
                      replace hrB := Row.fr hrB fa8 (fun _ _ => id)
                      replace ff := ff.trans fa8
                      refine WL.fin HW ?_
                      refine WH.one 15 (by kernel_rfl) rfl ?_ 
                      refine O.storeR rfl rfl rfl rfl rfl (qsA_api_Outcome wa8 _ _ _ _ _ _ _ _ _ _ _ bx6) ?_
                      rintro wa9 ⟨fa9, bx6x⟩
                      replace bx1 := bx1.fr fa9 (fun e => by omega)
                      replace bx2 := bx2.fr fa9 (fun e => by omega)
                      replace bx5 := bx5.fr fa9 (fun e => by omega)
                      replace HW := HW.trans' fa9 (fun q hq e => by first | exact e | exact Or.inl e | exact Or.inr e | omega)
                      replace hrA := Row.fr hrA fa9 (fun k hk e => Row.apart_typ hrA bx6 (by decide) (hk.trans (congrArg some e)))
                      replace hrB := Row.fr hrB fa9 (fun k hk e => Row.apart_typ hrB bx6 (by decide) (hk.trans (congrArg some e)))
                      replace ff := ff.trans' fa9 (fun q hq e => by omega)
                      clear bx6
                      have bx6 := bx6x
                      clear bx6x
                      refine WL.fin HW ?_
                      refine WH.one 16 (by kernel_rfl) rfl ?_ 
                      refine O.storeR rfl rfl rfl rfl rfl (qsA_api_Outcome wa9 _ _ _ _ _ _ _ _ _ _ _ bx5) ?_
                      rintro wa10 ⟨fa10, bx5x⟩
                      replace bx1 := bx1.fr fa10 (fun e => by omega)
                      replace bx2 := bx2.fr fa10 (fun e => by omega)
                      replace bx6 := bx6.fr fa10 (fun e => by omega)
                      replace HW := HW.trans' fa10 (fun q hq e => by first | exact e | exact Or.inl e | exact Or.inr e | omega)
                      replace hrA := Row.fr hrA fa10 (fun k hk e => Row.apart_typ hrA bx5 (by decide) (hk.trans (congrArg some e)))
                      replace hrB := Row.fr hrB fa10 (fun k hk e => Row.apart_typ hrB bx5 (by decide) (hk.trans (congrArg some e)))
                      replace ff := ff.trans' fa10 (fun q hq e => by omega)
                      clear bx5
                      have bx5 := bx5x
                      clear bx5x
                      refine WL.fin HW ?_
                      refine WH.end (by kernel_rfl) ?_
                      refine Xw.any (fun a k => ?_)
                      exact ⟨_, _, oa, oc, ob, od, (by (repeat (refine Kn.cons k rfl ?_)); exact k.base), ff, bx6, bx5, hrA, hrB⟩
                  · skip
                    have hw13 := HW.size
                    have lt7_bx1 := bx1.lt
                    have lt7_bx2 := bx2.lt
                    have lw7 := ff.size
                    refine O.allocR rfl rfl rfl rfl (qzR_api_Outcome wA) ?_
                    rintro wa11 ⟨fa11, bx7⟩
                    replace bx1 := bx1.fr fa11 id
                    replace bx2 := bx2.fr fa11 id
                    replace HW := HW.trans' fa11 (fun q hq e => e.elim)
                    replace hrA := Row.fr hrA fa11 (fun _ _ => id)
                    replace ff := ff.trans fa11
                    refine WL.fin HW ?_
                    refine WH.two 12 14 (by kernel_rfl) rfl rfl ?_ ?_ 
                    · skip
                      have hwz := ff.size
                      refine WL.call (hr := (t_Run m dat inp ga da pa ia gc dc pc ic _ (f0 + f1) hf1 (by omega) hfew hwd hdm hdl0 hdl hinu hinl hdu _ (hm.fr ff) (hdat.fr ff) (hin.fr ff))) rfl rfl rfl rfl rfl (fun W => qk_irrun_Run W _) ?_
                      rintro e wB ⟨ob, od, rfl, hrB, fB⟩
                      refine ⟨_, rfl, ?_⟩
                      replace bx1 := bx1.fr fB id
                      replace bx2 := bx2.fr fB id
                      replace bx7 := bx7.fr fB id
                      replace HW := HW.trans' fB (fun q hq e => e.elim)
                      replace hrA := Row.fr hrA fB (fun _ _ => id)
                      replace ff := ff.trans fB
                      replace hrB := Row.base (B' := w.heap.size) hrB (fun k hk => Nat.le_trans hwz (Row.lt hrB k hk).1)
                      refine WL.fin HW ?_
                      refine WH.one 14 (by kernel_rfl) rfl ?_ 
                      have hw14 := HW.size
                      have lt8_bx1 := bx1.lt
                      have lt8_bx2 := bx2.lt
                      have lt8_bx7 := bx7.lt
                      have lw8 := ff.size
                      refine O.allocR rfl rfl rfl rfl (qzR_api_Outcome wB) ?_
                      rintro wa12 ⟨fa12, bx8⟩
                      replace bx1 := bx1.fr fa12 id
                      replace bx2 := bx2.fr fa12 id
                      replace bx7 := bx7.fr fa12 id
                      replace HW := HW.trans' fa12 (fun q hq e => e.elim)
                      replace hrA := Row.fr hrA fa12 (fun _ _ => id)
                      replace hrB := Row.fr hrB fa12 (fun _ _ => id)
                      replace ff := ff.trans fa12
                      refine WL.fin HW ?_
                      refine WH.one 15 (by kernel_rfl) rfl ?_ 
                      refine O.storeR rfl rfl rfl rfl rfl (qsA_api_Outcome wa12 _ _ _ _ _ _ _ _ _ _ _ bx7) ?_
                      rintro wa13 ⟨fa13, bx7x⟩
                      replace bx1 := bx1.fr fa13 (fun e => by omega)
                      replace bx2 := bx2.fr fa13 (fun e => by omega)
                      replace bx8 := bx8.fr fa13 (fun e => by omega)
                      replace HW := HW.trans' fa13 (fun q hq e => by first | exact e | exact Or.inl e | exact Or.inr e | omega)
                      replace hrA := Row.fr hrA fa13 (fun k hk e => Row.apart_typ hrA bx7 (by decide) (hk.trans (congrArg some e)))
                      replace hrB := Row.fr hrB fa13 (fun k hk e => Row.apart_typ hrB bx7 (by decide) (hk.trans (congrArg some e)))
                      replace ff := ff.trans' fa13 (fun q hq e => by omega)
                      clear bx7
                      have bx7 := bx7x
                      clear bx7x
                      refine WL.fin HW ?_
                      refine WH.one 16 (by kernel_rfl) rfl ?_ 
                      refine O.storeR rfl rfl rfl rfl rfl (qsA_api_Outcome wa13 _ _ _ _ _ _ _ _ _ _ _ bx8) ?_
                      rintro wa14 ⟨fa14, bx8x⟩
                      replace bx1 := bx1.fr fa14 (fun e => by omega)
                      replace bx2 := bx2.fr fa14 (fun e => by omega)
                      replace bx7 := bx7.fr fa14 (fun e => by omega)
                      replace HW := HW.trans' fa14 (fun q hq e => by first | exact e | exact Or.inl e | exact Or.inr e | omega)
                      replace hrA := Row.fr hrA fa14 (fun k hk e => Row.apart_typ hrA bx8 (by decide) (hk.trans (congrArg some e)))
                      replace hrB := Row.fr hrB fa14 (fun k hk e => Row.apart_typ hrB bx8 (by decide) (hk.trans (congrArg some e)))
                      replace ff := ff.trans' fa14 (fun q hq e => by omega)
                      clear bx8
                      have bx8 := bx8x
                      clear bx8x
                      refine WL.fin HW ?_
                      refine WH.end (by kernel_rfl) ?_
                      refine Xw.any (fun a k => ?_)
                      exact ⟨_, _, oa, oc, ob, od, (by (repeat (refine Kn.cons k rfl ?_)); exact k.base), ff, bx7, bx8, hrA, hrB⟩
                    · skip
                      have hw14 := HW.size
                      have lt9_bx1 := bx1.lt
                      have lt9_bx2 := bx2.lt
                      have lt9_bx7 := bx7.lt
                      have lw9 := ff.size
                      refine O.allocR rfl rfl rfl rfl (qzR_api_Outcome wa11) ?_
                      rintro wa15 ⟨fa15, bx9⟩
                      replace bx1 := bx1.fr fa15 id
                      replace bx2 := bx2.fr fa15 id
                      replace bx7 := bx7.fr fa15 id
                      replace HW := HW.trans' fa15 (fun q hq e => e.elim)
                      replace hrA := Row.fr hrA fa15 (fun _ _ => id)
                      replace ff := ff.trans fa15
                      refine WL.fin HW ?_
                      refine WH.one 12 (by kernel_rfl) rfl ?_ 
                      have hwz := ff.size
                      refine WL.call (hr := (t_Run m dat inp ga da pa ia gc dc pc ic _ (f0 + f1) hf1 (by omega) hfew hwd hdm hdl0 hdl hinu hinl hdu _ (hm.fr ff) (hdat.fr ff) (hin.fr ff))) rfl rfl rfl rfl rfl (fun W => qk_irrun_Run W _) ?_
                      rintro e wB ⟨ob, od, rfl, hrB, fB⟩
                      refine ⟨_, rfl, ?_⟩
                      replace bx1 := bx1.fr fB id
                      replace bx2 := bx2.fr fB id
                      replace bx7 := bx7.fr fB id
                      replace bx9 := bx9.fr fB id
                      replace HW := HW.trans' fB (fun q hq e => e.elim)
                      replace hrA := Row.fr hrA fB (fun _ _ => id)
                      replace ff := ff.trans fB
                      replace hrB := Row.base (B' := w.heap.size) hrB (fun k hk => Nat.le_trans hwz (Row.lt hrB k hk).1)
                      refine WL.fin HW ?_
                      refine WH.one 15 (by kernel_rfl) rfl ?_ 
                      refine O.storeR rfl rfl rfl rfl rfl (qsA_api_Outcome wB _ _ _ _ _ _ _ _ _ _ _ bx7) ?_
                      rintro wa16 ⟨fa16, bx7x⟩
                      replace bx1 := bx1.fr fa16 (fun e => by omega)
                      replace bx2 := bx2.fr fa16 (fun e => by omega)
                      replace bx9 := bx9.fr fa16 (fun e => by omega)
                      replace HW := HW.trans' fa16 (fun q hq e => by first | exact e | exact Or.inl e | exact Or.inr e | omega)
                      replace hrA := Row.fr hrA fa16 (fun k hk e => Row.apart_typ hrA bx7 (by decide) (hk.trans (congrArg some e)))
                      replace hrB := Row.fr hrB fa16 (fun k hk e => Row.apart_typ hrB bx7 (by decide) (hk.trans (congrArg some e)))
                      replace ff := ff.trans' fa16 (fun q hq e => by omega)
                      clear bx7
                      have bx7 := bx7x
                      clear bx7x
                      refine WL.fin HW ?_
                      refine WH.one 16 (by kernel_rfl) rfl ?_ 
                      refine O.storeR rfl rfl rfl rfl rfl (qsA_api_Outcome wa16 _ _ _ _ _ _ _ _ _ _ _ bx9) ?_
                      rintro wa17 ⟨fa17, bx9x⟩
                      replace bx1 := bx1.fr fa17 (fun e => by omega)
                      replace bx2 := bx2.fr fa17 (fun e => by omega)
                      replace bx7 := bx7.fr fa17 (fun e => by omega)
                      replace HW := HW.trans' fa17 (fun q hq e => by first | exact e | exact Or.inl e | exact Or.inr e | omega)
                      replace hrA := Row.fr hrA fa17 (fun k hk e => Row.apart_typ hrA bx9 (by decide) (hk.trans (congrArg some e)))
                      replace hrB := Row.fr hrB fa17 (fun k hk e => Row.apart_typ hrB bx9 (by decide) (hk.trans (congrArg some e)))
                      replace ff := ff.trans' fa17 (fun q hq e => by omega)
                      clear bx9
                      have bx9 := bx9x
                      clear bx9x
                      refine WL.fin HW ?_
                      refine WH.end (by kernel_rfl) ?_
                      refine Xw.any (fun a k => ?_)
                      exact ⟨_, _, oa, oc, ob, od, (by (repeat (refine Kn.cons k rfl ?_)); exact k.base), ff, bx7, bx9, hrA, hrB⟩
                  · skip
                    have hw14 := HW.size
                    have lt10_bx1 := bx1.lt
                    have lt10_bx2 := bx2.lt
                    have lw10 := ff.size
                    refine O.allocR rfl rfl rfl rfl (qzR_api_Outcome wA) ?_
                    rintro wa18 ⟨fa18, bx10⟩
                    replace bx1 := bx1.fr fa18 id
                    replace bx2 := bx2.fr fa18 id
                    replace HW := HW.trans' fa18 (fun q hq e => e.elim)
                    replace hrA := Row.fr hrA fa18 (fun _ _ => id)
                    replace ff := ff.trans fa18
                    refine WL.fin HW ?_
                    refine WH.two 12 13 (by kernel_rfl) rfl rfl ?_ ?_ 
                    · skip
                      have hwz := ff.size
                      refine WL.call (hr := (t_Run m dat inp ga da pa ia gc dc pc ic _ (f0 + f1) hf1 (by omega) hfew hwd hdm hdl0 hdl hinu hinl hdu _ (hm.fr ff) (hdat.fr ff) (hin.fr ff))) rfl rfl rfl rfl rfl (fun W => qk_irrun_Run W _) ?_
                      rintro e wB ⟨ob, od, rfl, hrB, fB⟩
                      refine ⟨_, rfl, ?_⟩
                      replace bx1 := bx1.fr fB id
                      replace bx2 := bx2.fr fB id
                      replace bx10 := bx10.fr fB id
                      replace HW := HW.trans' fB (fun q hq e => e.elim)
                      replace hrA := Row.fr hrA fB (fun _ _ => id)
                      replace ff := ff.trans fB
                      replace hrB := Row.base (B' := w.heap.size) hrB (fun k hk => Nat.le_trans hwz (Row.lt hrB k hk).1)
                      refine WL.fin HW ?_
                      refine WH.one 13 (by kernel_rfl) rfl ?_ 
                      have hw13 := HW.size
                      have lt11_bx1 := bx1.lt
                      have lt11_bx2 := bx2.lt
                      have lt11_bx10 := bx10.lt
                      have lw11 := ff.size
                      refine O.allocR rfl rfl rfl rfl (qzR_api_Outcome wB) ?_
                      rintro wa19 ⟨fa19, bx11⟩
                      replace bx1 := bx1.fr fa19 id
                      replace bx2 := bx2.fr fa19 id
                      replace bx10 := bx10.fr fa19 id
                      replace HW := HW.trans' fa19 (fun q hq e => e.elim)
                      replace hrA := Row.fr hrA fa19 (fun _ _ => id)
                      replace hrB := Row.fr hrB fa19 (fun _ _ => id)
                      replace ff := ff.trans fa19
                      refine WL.fin HW ?_
                      refine WH.one 15 (by kernel_rfl) rfl ?_ 
                      refine O.storeR rfl rfl rfl rfl rfl (qsA_api_Outcome wa19 _ _ _ _ _ _ _ _ _ _ _ bx11) ?_
                      rintro wa20 ⟨fa20, bx11x⟩
                      replace bx1 := bx1.fr fa20 (fun e => by omega)
                      replace bx2 := bx2.fr fa20 (fun e => by omega)
                      replace bx10 := bx10.fr fa20 (fun e => by omega)
                      replace HW := HW.trans' fa20 (fun q hq e => by first | exact e | exact Or.inl e | exact Or.inr e | omega)
                      replace hrA := Row.fr hrA fa20 (fun k hk e => Row.apart_typ hrA bx11 (by decide) (hk.trans (congrArg some e)))
                      replace hrB := Row.fr hrB fa20 (fun k hk e => Row.apart_typ hrB bx11 (by decide) (hk.trans (congrArg some e)))
                      replace ff := ff.trans' fa20 (fun q hq e => by omega)
                      clear bx11
                      have bx11 := bx11x
                      clear bx11x
                      refine WL.fin HW ?_
                      refine WH.one 16 (by kernel_rfl) rfl ?_ 
                      refine O.storeR rfl rfl rfl rfl rfl (qsA_api_Outcome wa20 _ _ _ _ _ _ _ _ _ _ _ bx10) ?_
                      rintro wa21 ⟨fa21, bx10x⟩
                      replace bx1 := bx1.fr fa21 (fun e => by omega)
                      replace bx2 := bx2.fr fa21 (fun e => by omega)
                      replace bx11 := bx11.fr fa21 (fun e => by omega)
                      replace HW := HW.trans' fa21 (fun q hq e => by first | exact e | exact Or.inl e | exact Or.inr e | omega)
                      replace hrA := Row.fr hrA fa21 (fun k hk e => Row.apart_typ hrA bx10 (by decide) (hk.trans (congrArg some e)))
                      replace hrB := Row.fr hrB fa21 (fun k hk e => Row.apart_typ hrB bx10 (by decide) (hk.trans (congrArg some e)))
                      replace ff := ff.trans' fa21 (fun q hq e => by omega)
                      clear bx10
                      have bx10 := bx10x
                      clear bx10x
                      refine WL.fin HW ?_
                      refine WH.end (by kernel_rfl) ?_
                      refine Xw.any (fun a k => ?_)
                      exact ⟨_, _, oa, oc, ob, od, (by (repeat (refine Kn.cons k rfl ?_)); exact k.base), ff, bx11, bx10, hrA, hrB⟩
                    · skip
                      have hw13 := HW.size
                      have lt12_bx1 := bx1.lt
                      have lt12_bx2 := bx2.lt
                      have lt12_bx10 := bx10.lt
                      have lw12 := ff.size
                      refine O.allocR rfl rfl rfl rfl (qzR_api_Outcome wa18) ?_
                      rintro wa22 ⟨fa22, bx12⟩
                      replace bx1 := bx1.fr fa22 id
                      replace bx2 := bx2.fr fa22 id
                      replace bx10 := bx10.fr fa22 id
                      replace HW := HW.trans' fa22 (fun q hq e => e.elim)
                      replace hrA := Row.fr hrA fa22 (fun _ _ => id)
                      replace ff := ff.trans fa22
                      refine WL.fin HW ?_
                      refine WH.one 12 (by kernel_rfl) rfl ?_ 
                      have hwz := ff.size
                      refine WL.call (hr := (t_Run m dat inp ga da pa ia gc dc pc ic _ (f0 + f1) hf1 (by omega) hfew hwd hdm hdl0 hdl hinu hinl hdu _ (hm.fr ff) (hdat.fr ff) (hin.fr ff))) rfl rfl rfl rfl rfl (fun W => qk_irrun_Run W _) ?_
                      rintro e wB ⟨ob, od, rfl, hrB, fB⟩
                      refine ⟨_, rfl, ?_⟩
                      replace bx1 := bx1.fr fB id
                      replace bx2 := bx2.fr fB id
                      replace bx10 := bx10.fr fB id
                      replace bx12 := bx12.fr fB id
                      replace HW := HW.trans' fB (fun q hq e => e.elim)
                      replace hrA := Row.fr hrA fB (fun _ _ => id)
                      replace ff := ff.trans fB
                      replace hrB := Row.base (B' := w.heap.size) hrB (fun k hk => Nat.le_trans hwz (Row.lt hrB k hk).1)
                      refine WL.fin HW ?_
                      refine WH.one 15 (by kernel_rfl) rfl ?_ 
                      refine O.storeR rfl rfl rfl rfl rfl (qsA_api_Outcome wB _ _ _ _ _ _ _ _ _ _ _ bx12) ?_
                      rintro wa23 ⟨fa23, bx12x⟩
                      replace bx1 := bx1.fr fa23 (fun e => by omega)
                      replace bx2 := bx2.fr fa23 (fun e => by omega)
                      replace bx10 := bx10.fr fa23 (fun e => by omega)
                      replace HW := HW.trans' fa23 (fun q hq e => by first | exact e | exact Or.inl e | exact Or.inr e | omega)
                      replace hrA := Row.fr hrA fa23 (fun k hk e => Row.apart_typ hrA bx12 (by decide) (hk.trans (congrArg some e)))
                      replace hrB := Row.fr hrB fa23 (fun k hk e => Row.apart_typ hrB bx12 (by decide) (hk.trans (congrArg some e)))
                      replace ff := ff.trans' fa23 (fun q hq e => by omega)
                      clear bx12
                      have bx12 := bx12x
                      clear bx12x
                      refine WL.fin HW ?_
                      refine WH.one 16 (by kernel_rfl) rfl ?_ 
                      refine O.storeR rfl rfl rfl rfl rfl (qsA_api_Outcome wa23 _ _ _ _ _ _ _ _ _ _ _ bx10) ?_
                      rintro wa24 ⟨fa24, bx10x⟩
                      replace bx1 := bx1.fr fa24 (fun e => by omega)
                      replace bx2 := bx2.fr fa24 (fun e => by omega)
                      replace bx12 := bx12.fr fa24 (fun e => by omega)
                      replace HW := HW.trans' fa24 (fun q hq e => by first | exact e | exact Or.inl e | exact Or.inr e | omega)
                      replace hrA := Row.fr hrA fa24 (fun k hk e => Row.apart_typ hrA bx10 (by decide) (hk.trans (congrArg some e)))
                      replace hrB := Row.fr hrB fa24 (fun k hk e => Row.apart_typ hrB bx10 (by decide) (hk.trans (congrArg some e)))
                      replace ff := ff.trans' fa24 (fun q hq e => by omega)
                      clear bx10
                      have bx10 := bx10x
                      clear bx10x
                      refine WL.fin HW ?_
                      refine WH.end (by kernel_rfl) ?_
                      refine Xw.any (fun a k => ?_)
                      exact ⟨_, _, oa, oc, ob, od, (by (repeat (refine Kn.cons k rfl ?_)); exact k.base), ff, bx12, bx10, hrA, hrB⟩
                · skip
                  have hw13 := HW.size
                  have lt13_bx1 := bx1.lt
                  have lt13_bx2 := bx2.lt
                  have lw13 := ff.size
                  refine O.allocR rfl rfl rfl rfl (qzR_api_Outcome V1) ?_
                  rintro wa25 ⟨fa25, bx13⟩
                  replace bx1 := bx1.fr fa25 id
                  replace bx2 := bx2.fr fa25 id
                  replace HW := HW.trans' fa25 (fun q hq e => e.elim)
                  replace ff := ff.trans fa25
                  refine WL.fin HW ?_
                  refine WH.two 4 14 (by kernel_rfl) rfl rfl ?_ ?_ 
                  · skip
                    have hwz := ff.size
                    refine WL.call (hr := (t_Run m dat inp ga da pa ia gc dc pc ic _ f0 hf0 (by omega) hfew hwd hdm hdl0 hdl hinu hinl hdu _ (hm.fr ff) (hdat.fr ff) (hin.fr ff))) rfl rfl rfl rfl rfl (fun W => qk_irrun_Run W _) ?_
                    rintro e wA ⟨oa, oc, rfl, hrA, fA⟩
                    refine ⟨_, rfl, ?_⟩
                    replace bx1 := bx1.fr fA id
                    replace bx2 := bx2.fr fA id
                    replace bx13 := bx13.fr fA id
                    replace HW := HW.trans' fA (fun q hq e => e.elim)
                    replace ff := ff.trans fA
                    replace hrA := Row.base (B' := w.heap.size) hrA (fun k hk => Nat.le_trans hwz (Row.lt hrA k hk).1)
                    refine WL.fin HW ?_
                    refine WH.two 12 14 (by kernel_rfl) rfl rfl ?_ ?_ 
                    · skip
                      have hwz := ff.size
                      refine WL.call (hr := (t_Run m dat inp ga da pa ia gc dc pc ic _ (f0 + f1) hf1 (by omega) hfew hwd hdm hdl0 hdl hinu hinl hdu _ (hm.fr ff) (hdat.fr ff) (hin.fr ff))) rfl rfl rfl rfl rfl (fun W => qk_irrun_Run W _) ?_
                      rintro e wB ⟨ob, od, rfl, hrB, fB⟩
                      refine ⟨_, rfl, ?_⟩
                      replace bx1 := bx1.fr fB id
                      replace bx2 := bx2.fr fB id
                      replace bx13 := bx13.fr fB id
                      replace HW := HW.trans' fB (fun q hq e => e.elim)
                      replace hrA := Row.fr hrA fB (fun _ _ => id)
                      replace ff := ff.trans fB
                      replace hrB := Row.base (B' := w.heap.size) hrB (fun k hk => Nat.le_trans hwz (Row.lt hrB k hk).1)
                      refine WL.fin HW ?_
                      refine WH.one 14 (by kernel_rfl) rfl ?_ 
                      have hw14 := HW.size
                      have lt14_bx1 := bx1.lt
                      have lt14_bx2 := bx2.lt
                      have lt14_bx13 := bx13.lt
                      have lw14 := ff.size
                      refine O.allocR rfl rfl rfl rfl (qzR_api_Outcome wB) ?_
                      rintro wa26 ⟨fa26, bx14⟩
                      replace bx1 := bx1.fr fa26 id
                      replace bx2 := bx2.fr fa26 id
                      replace bx13 := bx13.fr fa26 id
                      replace HW := HW.trans' fa26 (fun q hq e => e.elim)
                      replace hrA := Row.fr hrA fa26 (fun _ _ => id)
                      replace hrB := Row.fr hrB fa26 (fun _ _ => id)
                      replace ff := ff.trans fa26
                      refine WL.fin HW ?_
                      refine WH.one 15 (by kernel_rfl) rfl ?_ 
                      refine O.storeR rfl rfl rfl rfl rfl (qsA_api_Outcome wa26 _ _ _ _ _ _ _ _ _ _ _ bx13) ?_
                      rintro wa27 ⟨fa27, bx13x⟩
                      replace bx1 := bx1.fr fa27 (fun e => by omega)
                      replace bx2 := bx2.fr fa27 (fun e => by omega)
                      replace bx14 := bx14.fr fa27 (fun e => by omega)
                      replace HW := HW.trans' fa27 (fun q hq e => by first | exact e | exact Or.inl e | exact Or.inr e | omega)
                      replace hrA := Row.fr hrA fa27 (fun k hk e => Row.apart_typ hrA bx13 (by decide) (hk.trans (congrArg some e)))
                      replace hrB := Row.fr hrB fa27 (fun k hk e => Row.apart_typ hrB bx13 (by decide) (hk.trans (congrArg some e)))
                      replace ff := ff.trans' fa27 (fun q hq e => by omega)
                      clear bx13
                      have bx13 := bx13x
                      clear bx13x
                      refine WL.fin HW ?_
                      refine WH.one 16 (by kernel_rfl) rfl ?_ 
                      refine O.storeR rfl rfl rfl rfl rfl (qsA_api_Outcome wa27 _ _ _ _ _ _ _ _ _ _ _ bx14) ?_
                      rintro wa28 ⟨fa28, bx14x⟩
                      replace bx1 := bx1.fr fa28 (fun e => by omega)
                      replace bx2 := bx2.fr fa28 (fun e => by omega)
                      replace bx13 := bx13.fr fa28 (fun e => by omega)
                      replace HW := HW.trans' fa28 (fun q hq e => by first | exact e | exact Or.inl e | exact Or.inr e | omega)
                      replace hrA := Row.fr hrA fa28 (fun k hk e => Row.apart_typ hrA bx14 (by decide) (hk.trans (congrArg some e)))
                      replace hrB := Row.fr hrB fa28 (fun k hk e => Row.apart_typ hrB bx14 (by decide) (hk.trans (congrArg some e)))
                      replace ff := ff.trans' fa28 (fun q hq e => by omega)
                      clear bx14
                      have bx14 := bx14x
                      clear bx14x
                      refine WL.fin HW ?_
                      refine WH.end (by kernel_rfl) ?_
                      refine Xw.any (fun a k => ?_)
                      exact ⟨_, _, oa, oc, ob, od, (by (repeat (refine Kn.cons k rfl ?_)); exact k.base), ff, bx13, bx14, hrA, hrB⟩
                    · skip
                      have hw14 := HW.size
                      have lt15_bx1 := bx1.lt
                      have lt15_bx2 := bx2.lt
                      have lt15_bx13 := bx13.lt
                      have lw15 := ff.size
                      refine O.allocR rfl rfl rfl rfl (qzR_api_Outcome wA) ?_
                      rintro wa29 ⟨fa29, bx15⟩
                      replace bx1 := bx1.fr fa29 id
                      replace bx2 := bx2.fr fa29 id
                      replace bx13 := bx13.fr fa29 id
                      replace HW := HW.trans' fa29 (fun q hq e => e.elim)
                      replace hrA := Row.fr hrA fa29 (fun _ _ => id)
                      replace ff := ff.trans fa29
                      refine WL.fin HW ?_
                      refine WH.one 12 (by kernel_rfl) rfl ?_ 
                      have hwz := ff.size
                      refine WL.call (hr := (t_Run m dat inp ga da pa ia gc dc pc ic _ (f0 + f1) hf1 (by omega) hfew hwd hdm hdl0 hdl hinu hinl hdu _ (hm.fr ff) (hdat.fr ff) (hin.fr ff))) rfl rfl rfl rfl rfl (fun W => qk_irrun_Run W _) ?_
                      rintro e wB ⟨ob, od, rfl, hrB, fB⟩
                      refine ⟨_, rfl, ?_⟩
                      replace bx1 := bx1.fr fB id
                      replace bx2 := bx2.fr fB id
                      replace bx13 := bx13.fr fB id
                      replace bx15 := bx15.fr fB id
                      replace HW := HW.trans' fB (fun q hq e => e.elim)
                      replace hrA := Row.fr hrA fB (fun _ _ => id)
                      replace ff := ff.trans fB
                      replace hrB := Row.base (B' := w.heap.size) hrB (fun k hk => Nat.le_trans hwz (Row.lt hrB k hk).1)
                      refine WL.fin HW ?_
                      refine WH.one 15 (by kernel_rfl) rfl ?_ 
                      refine O.storeR rfl rfl rfl rfl rfl (qsA_api_Outcome wB _ _ _ _ _ _ _ _ _ _ _ bx13) ?_
                      rintro wa30 ⟨fa30, bx13x⟩
                      replace bx1 := bx1.fr fa30 (fun e => by omega)
                      replace bx2 := bx2.fr fa30 (fun e => by omega)
                      replace bx15 := bx15.fr fa30 (fun e => by omega)
                      replace HW := HW.trans' fa30 (fun q hq e => by first | exact e | exact Or.inl e | exact Or.inr e | omega)
                      replace hrA := Row.fr hrA fa30 (fun k hk e => Row.apart_typ hrA bx13 (by decide) (hk.trans (congrArg some e)))
                      replace hrB := Row.fr hrB fa30 (fun k hk e => Row.apart_typ hrB bx13 (by decide) (hk.trans (congrArg some e)))
                      replace ff := ff.trans' fa30 (fun q hq e => by omega)
                      clear bx13
                      have bx13 := bx13x
                      clear bx13x
                      refine WL.fin HW ?_
                      refine WH.one 16 (by kernel_rfl) rfl ?_ 
                      refine O.storeR rfl rfl rfl rfl rfl (qsA_api_Outcome wa30 _ _ _ _ _ _ _ _ _ _ _ bx15) ?_
                      rintro wa31 ⟨fa31, bx15x⟩
                      replace bx1 := bx1.fr fa31 (fun e => by omega)
                      replace bx2 := bx2.fr fa31 (fun e => by omega)
                      replace bx13 := bx13.fr fa31 (fun e => by omega)
                      replace HW := HW.trans' fa31 (fun q hq e => by first | exact e | exact Or.inl e | exact Or.inr e | omega)
                      replace hrA := Row.fr hrA fa31 (fun k hk e => Row.apart_typ hrA bx15 (by decide) (hk.trans (congrArg some e)))
                      replace hrB := Row.fr hrB fa31 (fun k hk e => Row.apart_typ hrB bx15 (by decide) (hk.trans (congrArg some e)))
                      replace ff := ff.trans' fa31 (fun q hq e => by omega)
                      clear bx15
                      have bx15 := bx15x
                      clear bx15x
                      refine WL.fin HW ?_
                      refine WH.end (by kernel_rfl) ?_
                      refine Xw.any (fun a k => ?_)
                      exact ⟨_, _, oa, oc, ob, od, (by (repeat (refine Kn.cons k rfl ?_)); exact k.base), ff, bx13, bx15, hrA, hrB⟩
                  · skip
                    have hw14 := HW.size
                    have lt16_bx1 := bx1.lt
                    have lt16_bx2 := bx2.lt
                    have lt16_bx13 := bx13.lt
                    have lw16 := ff.size
                    refine O.allocR rfl rfl rfl rfl (qzR_api_Outcome wa25) ?_
                    rintro wa32 ⟨fa32, bx16⟩
                    replace bx1 := bx1.fr fa32 id
                    replace bx2 := bx2.fr fa32 id
                    replace bx13 := bx13.fr fa32 id
                    replace HW := HW.trans' fa32 (fun q hq e => e.elim)
                    replace ff := ff.trans fa32
                    refine WL.fin HW ?_
                    refine WH.one 4 (by kernel_rfl) rfl ?_ 
                    have hwz := ff.size
                    refine WL.call (hr := (t_Run m dat inp ga da pa ia gc dc pc ic _ f0 hf0 (by omega) hfew hwd hdm hdl0 hdl hinu hinl hdu _ (hm.fr ff) (hdat.fr ff) (hin.fr ff))) rfl rfl rfl rfl rfl (fun W => qk_irrun_Run W _) ?_
                    rintro e wA ⟨oa, oc, rfl, hrA, fA⟩
                    refine ⟨_, rfl, ?_⟩
                    replace bx1 := bx1.fr fA id
                    replace bx2 := bx2.fr fA id
                    replace bx13 := bx13.fr fA id
                    replace bx16 := bx16.fr fA id
                    replace HW := HW.trans' fA (fun q hq e => e.elim)
                    replace ff := ff.trans fA
                    replace hrA := Row.base (B' := w.heap.size) hrA (fun k hk => Nat.le_trans hwz (Row.lt hrA k hk).1)
                    refine WL.fin HW ?_
                    refine WH.one 12 (by kernel_rfl) rfl ?_ 
                    have hwz := ff.size
                    refine WL.call (hr := (t_Run m dat inp ga da pa ia gc dc pc ic _ (f0 + f1) hf1 (by omega) hfew hwd hdm hdl0 hdl hinu hinl hdu _ (hm.fr ff) (hdat.fr ff) (hin.fr ff))) rfl rfl rfl rfl rfl (fun W => qk_irrun_Run W _) ?_
                    rintro e wB ⟨ob, od, rfl, hrB, fB⟩
                    refine ⟨_, rfl, ?_⟩
                    replace bx1 := bx1.fr fB id
                    replace bx2 := bx2.fr fB id
                    replace bx13 := bx13.fr fB id
                    replace bx16 := bx16.fr fB id
                    replace HW := HW.trans' fB (fun q hq e => e.elim)
                    replace hrA := Row.fr hrA fB (fun _ _ => id)
                    replace ff := ff.trans fB
                    replace hrB := Row.base (B' := w.heap.size) hrB (fun k hk => Nat.le_trans hwz (Row.lt hrB k hk).1)
                    refine WL.fin HW ?_
                    refine WH.one 15 (by kernel_rfl) rfl ?_ 
                    refine O.storeR rfl rfl rfl rfl rfl (qsA_api_Outcome wB _ _ _ _ _ _ _ _ _ _ _ bx13) ?_
                    rintro wa33 ⟨fa33, bx13x⟩
                    replace bx1 := bx1.fr fa33 (fun e => by omega)
                    replace bx2 := bx2.fr fa33 (fun e => by omega)
                    replace bx16 := bx16.fr fa33 (fun e => by omega)
                    replace HW := HW.trans' fa33 (fun q hq e => by first | exact e | exact Or.inl e | exact Or.inr e | omega)
                    replace hrA := Row.fr hrA fa33 (fun k hk e => Row.apart_typ hrA bx13 (by decide) (hk.trans (congrArg some e)))
                    replace hrB := Row.fr hrB fa33 (fun k hk e => Row.apart_typ hrB bx13 (by decide) (hk.trans (congrArg some e)))
                    replace ff := ff.trans' fa33 (fun q hq e => by omega)
                    clear bx13
                    have bx13 := bx13x
                    clear bx13x
                    refine WL.fin HW ?_
                    refine WH.one 16 (by kernel_rfl) rfl ?_ 
                    refine O.storeR rfl rfl rfl rfl rfl (qsA_api_Outcome wa33 _ _ _ _ _ _ _ _ _ _ _ bx16) ?_
                    rintro wa34 ⟨fa34, bx16x⟩
                    replace bx1 := bx1.fr fa34 (fun e => by omega)
                    replace bx2 := bx2.fr fa34 (fun e => by omega)
                    replace bx13 := bx13.fr fa34 (fun e => by omega)
                    replace HW := HW.trans' fa34 (fun q hq e => by first | exact e | exact Or.inl e | exact Or.inr e | omega)
                    replace hrA := Row.fr hrA fa34 (fun k hk e => Row.apart_typ hrA bx16 (by decide) (hk.trans (congrArg some e)))
                    replace hrB := Row.fr hrB fa34 (fun k hk e => Row.apart_typ hrB bx16 (by decide) (hk.trans (congrArg some e)))
                    replace ff := ff.trans' fa34 (fun q hq e => by omega)
                    clear bx16
                    have bx16 := bx16x
                    clear bx16x
                    refine WL.fin HW ?_
                    refine WH.end (by kernel_rfl) ?_
                    refine Xw.any (fun a k => ?_)
                    exact ⟨_, _, oa, oc, ob, od, (by (repeat (refine Kn.cons k rfl ?_)); exact k.base), ff, bx13, bx16, hrA, hrB⟩
                · skip
                  have hw14 := HW.size
                  have lt17_bx1 := bx1.lt
                  have lt17_bx2 := bx2.lt
                  have lw17 := ff.size
                  refine O.allocR rfl rfl rfl rfl (qzR_api_Outcome V1) ?_
                  rintro wa35 ⟨fa35, bx17⟩
                  replace bx1 := bx1.fr fa35 id
                  replace bx2 := bx2.fr fa35 id
                  replace HW := HW.trans' fa35 (fun q hq e => e.elim)
                  replace ff := ff.trans fa35
                  refine WL.fin HW ?_
                  refine WH.two 4 13 (by kernel_rfl) rfl rfl ?_ ?_ 
                  · skip
                    have hwz := ff.size
                    refine WL.call (hr := (t_Run m dat inp ga da pa ia gc dc pc ic _ f0 hf0 (by omega) hfew hwd hdm hdl0 hdl hinu hinl hdu _ (hm.fr ff) (hdat.fr ff) (hin.fr ff))) rfl rfl rfl rfl rfl (fun W => qk_irrun_Run W _) ?_
                    rintro e wA ⟨oa, oc, rfl, hrA, fA⟩
                    refine ⟨_, rfl, ?_⟩
                    replace bx1 := bx1.fr fA id
                    replace bx2 := bx2.fr fA id
                    replace bx17 := bx17.fr fA id
                    replace HW := HW.trans' fA (fun q hq e => e.elim)
                    replace ff := ff.trans fA
                    replace hrA := Row.base (B' := w.heap.size) hrA (fun k hk => Nat.le_trans hwz (Row.lt hrA k hk).1)
                    refine WL.fin HW ?_
                    refine WH.two 12 13 (by kernel_rfl) rfl rfl ?_ ?_ 
                    · skip
                      have hwz := ff.size
                      refine WL.call (hr := (t_Run m dat inp ga da pa ia gc dc pc ic _ (f0 + f1) hf1 (by omega) hfew hwd hdm hdl0 hdl hinu hinl hdu _ (hm.fr ff) (hdat.fr ff) (hin.fr ff))) rfl rfl rfl rfl rfl (fun W => qk_irrun_Run W _) ?_
                      rintro e wB ⟨ob, od, rfl, hrB, fB⟩
                      refine ⟨_, rfl, ?_⟩
                      replace bx1 := bx1.fr fB id
                      replace bx2 := bx2.fr fB id
                      replace bx17 := bx17.fr fB id
                      replace HW := HW.trans' fB (fun q hq e => e.elim)
                      replace hrA := Row.fr hrA fB (fun _ _ => id)
                      replace ff := ff.trans fB
                      replace hrB := Row.base (B' := w.heap.size) hrB (fun k hk => Nat.le_trans hwz (Row.lt hrB k hk).1)
                      refine WL.fin HW ?_
                      refine WH.one 13 (by kernel_rfl) rfl ?_ 
                      have hw13 := HW.size
                      have lt18_bx1 := bx1.lt
                      have lt18_bx2 := bx2.lt
                      have lt18_bx17 := bx17.lt
                      have lw18 := ff.size
                      refine O.allocR rfl rfl rfl rfl (qzR_api_Outcome wB) ?_
                      rintro wa36 ⟨fa36, bx18⟩
                      replace bx1 := bx1.fr fa36 id
                      replace bx2 := bx2.fr fa36 id
                      replace bx17 := bx17.fr fa36 id
                      replace HW := HW.trans' fa36 (fun q hq e => e.elim)
                      replace hrA := Row.fr hrA fa36 (fun _ _ => id)
                      replace hrB := Row.fr hrB fa36 (fun _ _ => id)
                      replace ff := ff.trans fa36
                      refine WL.fin HW ?_
                      refine WH.one 15 (by kernel_rfl) rfl ?_ 
                      refine O.storeR rfl rfl rfl rfl rfl (qsA_api_Outcome wa36 _ _ _ _ _ _ _ _ _ _ _ bx18) ?_
                      rintro wa37 ⟨fa37, bx18x⟩
                      replace bx1 := bx1.fr fa37 (fun e => by omega)
                      replace bx2 := bx2.fr fa37 (fun e => by omega)
                      replace bx17 := bx17.fr fa37 (fun e => by omega)
                      replace HW := HW.trans' fa37 (fun q hq e => by first | exact e | exact Or.inl e | exact Or.inr e | omega)
                      replace hrA := Row.fr hrA fa37 (fun k hk e => Row.apart_typ hrA bx18 (by decide) (hk.trans (congrArg some e)))
                      replace hrB := Row.fr hrB fa37 (fun k hk e => Row.apart_typ hrB bx18 (by decide) (hk.trans (congrArg some e)))
                      replace ff := ff.trans' fa37 (fun q hq e => by omega)
                      clear bx18
                      have bx18 := bx18x
                      clear bx18x
                      refine WL.fin HW ?_
                      refine WH.one 16 (by kernel_rfl) rfl ?_ 
                      refine O.storeR rfl rfl rfl rfl rfl (qsA_api_Outcome wa37 _ _ _ _ _ _ _ _ _ _ _ bx17) ?_
                      rintro wa38 ⟨fa38, bx17x⟩
                      replace bx1 := bx1.fr fa38 (fun e => by omega)
                      replace bx2 := bx2.fr fa38 (fun e => by omega)
                      replace bx18 := bx18.fr fa38 (fun e => by omega)
                      replace HW := HW.trans' fa38 (fun q hq e => by first | exact e | exact Or.inl e | exact Or.inr e | omega)
                      replace hrA := Row.fr hrA fa38 (fun k hk e => Row.apart_typ hrA bx17 (by decide) (hk.trans (congrArg some e)))
                      replace hrB := Row.fr hrB fa38 (fun k hk e => Row.apart_typ hrB bx17 (by decide) (hk.trans (congrArg some e)))
                      replace ff := ff.trans' fa38 (fun q hq e => by omega)
                      clear bx17
                      have bx17 := bx17x
                      clear bx17x
                      refine WL.fin HW ?_
                      refine WH.end (by kernel_rfl) ?_
                      refine Xw.any (fun a k => ?_)
                      exact ⟨_, _, oa, oc, ob, od, (by (repeat (refine Kn.cons k rfl ?_)); exact k.base), ff, bx18, bx17, hrA, hrB⟩
                    · skip
                      have hw13 := HW.size
                      have lt19_bx1 := bx1.lt
                      have lt19_bx2 := bx2.lt
                      have lt19_bx17 := bx17.lt
                      have lw19 := ff.size
                      refine O.allocR rfl rfl rfl rfl (qzR_api_Outcome wA) ?_
                      rintro wa39 ⟨fa39, bx19⟩
                      replace bx1 := bx1.fr fa39 id
                      replace bx2 := bx2.fr fa39 id
                      replace bx17 := bx17.fr fa39 id
                      replace HW := HW.trans' fa39 (fun q hq e => e.elim)
                      replace hrA := Row.fr hrA fa39 (fun _ _ => id)
                      replace ff := ff.trans fa39
                      refine WL.fin HW ?_
                      refine WH.one 12 (by kernel_rfl) rfl ?_ 
                      have hwz := ff.size
                      refine WL.call (hr := (t_Run m dat inp ga da pa ia gc dc pc ic _ (f0 + f1) hf1 (by omega) hfew hwd hdm hdl0 hdl hinu hinl hdu _ (hm.fr ff) (hdat.fr ff) (hin.fr ff))) rfl rfl rfl rfl rfl (fun W => qk_irrun_Run W _) ?_
                      rintro e wB ⟨ob, od, rfl, hrB, fB⟩
                      refine ⟨_, rfl, ?_⟩
                      replace bx1 := bx1.fr fB id
                      replace bx2 := bx2.fr fB id
                      replace bx17 := bx17.fr fB id
                      replace bx19 := bx19.fr fB id
                      replace HW := HW.trans' fB (fun q hq e => e.elim)
                      replace hrA := Row.fr hrA fB (fun _ _ => id)
                      replace ff := ff.trans fB
                      replace hrB := Row.base (B' := w.heap.size) hrB (fun k hk => Nat.le_trans hwz (Row.lt hrB k hk).1)
                      refine WL.fin HW ?_
                      refine WH.one 15 (by kernel_rfl) rfl ?_ 
                      refine O.storeR rfl rfl rfl rfl rfl (qsA_api_Outcome wB _ _ _ _ _ _ _ _ _ _ _ bx19) ?_
                      rintro wa40 ⟨fa40, bx19x⟩
                      replace bx1 := bx1.fr fa40 (fun e => by omega)
                      replace bx2 := bx2.fr fa40 (fun e => by omega)
                      replace bx17 := bx17.fr fa40 (fun e => by omega)
                      replace HW := HW.trans' fa40 (fun q hq e => by first | exact e | exact Or.inl e | exact Or.inr e | omega)
                      replace hrA := Row.fr hrA fa40 (fun k hk e => Row.apart_typ hrA bx19 (by decide) (hk.trans (congrArg some e)))
                      replace hrB := Row.fr hrB fa40 (fun k hk e => Row.apart_typ hrB bx19 (by decide) (hk.trans (congrArg some e)))
                      replace ff := ff.trans' fa40 (fun q hq e => by omega)
                      clear bx19
                      have bx19 := bx19x
                      clear bx19x
                      refine WL.fin HW ?_
                      refine WH.one 16 (by kernel_rfl) rfl ?_ 
                      refine O.storeR rfl rfl rfl rfl rfl (qsA_api_Outcome wa40 _ _ _ _ _ _ _ _ _ _ _ bx17) ?_
                      rintro wa41 ⟨fa41, bx17x⟩
                      replace bx1 := bx1.fr fa41 (fun e => by omega)
                      replace bx2 := bx2.fr fa41 (fun e => by omega)
                      replace bx19 := bx19.fr fa41 (fun e => by omega)
                      replace HW := HW.trans' fa41 (fun q hq e => by first | exact e | exact Or.inl e | exact Or.inr e | omega)
                      replace hrA := Row.fr hrA fa41 (fun k hk e => Row.apart_typ hrA bx17 (by decide) (hk.trans (congrArg some e)))
                      replace hrB := Row.fr hrB fa41 (fun k hk e => Row.apart_typ hrB bx17 (by decide) (hk.trans (congrArg some e)))
                      replace ff := ff.trans' fa41 (fun q hq e => by omega)
                      clear bx17
                      have bx17 := bx17x
                      clear bx17x
                      refine WL.fin HW ?_
                      refine WH.end (by kernel_rfl) ?_
                      refine Xw.any (fun a k => ?_)
                      exact ⟨_, _, oa, oc, ob, od, (by (repeat (refine Kn.cons k rfl ?_)); exact k.base), ff, bx19, bx17, hrA, hrB⟩
                  · skip
                    have hw13 := HW.size
                    have lt20_bx1 := bx1.lt
                    have lt20_bx2 := bx2.lt
                    have lt20_bx17 := bx17.lt
                    have lw20 := ff.size
                    refine O.allocR rfl rfl rfl rfl (qzR_api_Outcome wa35) ?_
                    rintro wa42 ⟨fa42, bx20⟩
                    replace bx1 := bx1.fr fa42 id
                    replace bx2 := bx2.fr fa42 id
                    replace bx17 := bx17.fr fa42 id
                    replace HW := HW.trans' fa42 (fun q hq e => e.elim)
                    replace ff := ff.trans fa42
                    refine WL.fin HW ?_
                    refine WH.one 4 (by kernel_rfl) rfl ?_ 
                    have hwz := ff.size
                    refine WL.call (hr := (t_Run m dat inp ga da pa ia gc dc pc ic _ f0 hf0 (by omega) hfew hwd hdm hdl0 hdl hinu hinl hdu _ (hm.fr ff) (hdat.fr ff) (hin.fr ff))) rfl rfl rfl rfl rfl (fun W => qk_irrun_Run W _) ?_
                    rintro e wA ⟨oa, oc, rfl, hrA, fA⟩
                    refine ⟨_, rfl, ?_⟩
                    replace bx1 := bx1.fr fA id
                    replace bx2 := bx2.fr fA id
                    replace bx17 := bx17.fr fA id
                    replace bx20 := bx20.fr fA id
                    replace HW := HW.trans' fA (fun q hq e => e.elim)
                    replace ff := ff.trans fA
                    replace hrA := Row.base (B' := w.heap.size) hrA (fun k hk => Nat.le_trans hwz (Row.lt hrA k hk).1)
                    refine WL.fin HW ?_
                    refine WH.one 12 (by kernel_rfl) rfl ?_ 
                    have hwz := ff.size
                    refine WL.call (hr := (t_Run m dat inp ga da pa ia gc dc pc ic _ (f0 + f1) hf1 (by omega) hfew hwd hdm hdl0 hdl hinu hinl hdu _ (hm.fr ff) (hdat.fr ff) (hin.fr ff))) rfl rfl rfl rfl rfl (fun W => qk_irrun_Run W _) ?_
                    rintro e wB ⟨ob, od, rfl, hrB, fB⟩
                    refine ⟨_, rfl, ?_⟩
                    replace bx1 := bx1.fr fB id
                    replace bx2 := bx2.fr fB id
                    replace bx17 := bx17.fr fB id
                    replace bx20 := bx20.fr fB id
                    replace HW := HW.trans' fB (fun q hq e => e.elim)
                    replace hrA := Row.fr hrA fB (fun _ _ => id)
                    replace ff := ff.trans fB
                    replace hrB := Row.base (B' := w.heap.size) hrB (fun k hk => Nat.le_trans hwz (Row.lt hrB k hk).1)
                    refine WL.fin HW ?_
                    refine WH.one 15 (by kernel_rfl) rfl ?_ 
                    refine O.storeR rfl rfl rfl rfl rfl (qsA_api_Outcome wB _ _ _ _ _ _ _ _ _ _ _ bx20) ?_
                    rintro wa43 ⟨fa43, bx20x⟩
                    replace bx1 := bx1.fr fa43 (fun e => by omega)
                    replace bx2 := bx2.fr fa43 (fun e => by omega)
                    replace bx17 := bx17.fr fa43 (fun e => by omega)
                    replace HW := HW.trans' fa43 (fun q hq e => by first | exact e | exact Or.inl e | exact Or.inr e | omega)
                    replace hrA := Row.fr hrA fa43 (fun k hk e => Row.apart_typ hrA bx20 (by decide) (hk.trans (congrArg some e)))
                    replace hrB := Row.fr hrB fa43 (fun k hk e => Row.apart_typ hrB bx20 (by decide) (hk.trans (congrArg some e)))
                    replace ff := ff.trans' fa43 (fun q hq e => by omega)
                    clear bx20
                    have bx20 := bx20x
                    clear bx20x
                    refine WL.fin HW ?_
                    refine WH.one 16 (by kernel_rfl) rfl ?_ 
                    refine O.storeR rfl rfl rfl rfl rfl (qsA_api_Outcome wa43 _ _ _ _ _ _ _ _ _ _ _ bx17) ?_
                    rintro wa44 ⟨fa44, bx17x⟩
                    replace bx1 := bx1.fr fa44 (fun e => by omega)
                    replace bx2 := bx2.fr fa44 (fun e => by omega)
                    replace bx20 := bx20.fr fa44 (fun e => by omega)
                    replace HW := HW.trans' fa44 (fun q hq e => by first | exact e | exact Or.inl e | exact Or.inr e | omega)
                    replace hrA := Row.fr hrA fa44 (fun k hk e => Row.apart_typ hrA bx17 (by decide) (hk.trans (congrArg some e)))
                    replace hrB := Row.fr hrB fa44 (fun k hk e => Row.apart_typ hrB bx17 (by decide) (hk.trans (congrArg some e)))
                    replace ff := ff.trans' fa44 (fun q hq e => by omega)
                    clear bx17
                    have bx17 := bx17x
                    clear bx17x
                    refine WL.fin HW ?_
                    refine WH.end (by kernel_rfl) ?_
                    refine Xw.any (fun a k => ?_)
                    exact ⟨_, _, oa, oc, ob, od, (by (repeat (refine Kn.cons k rfl ?_)); exact k.base), ff, bx20, bx17, hrA, hrB⟩
              · rintro a wm ⟨b7, b8, oa, oc, ob, od, k, ff, bxa, bxb, hrA, hrB⟩
                have hwm := ff.size
                refine TW.app (s := [(3, .pointer (some ⟨w.heap.size, 0, none⟩)), (7, .pointer (some ⟨b7, 0, none⟩)), (8, .pointer (some ⟨b8, 0, none⟩))]) ?_ k
                refine TW.seq ?_
                refine TW.sreg ?_
                refine WL.op rfl rfl rfl (Go.Proofs.Ythdkmjbeemfbbaa.W.quiet_field rfl rfl (fun W => (qa_api_Outcome_3 W _ _))) ?_
                refine WL.ld rfl rfl rfl rfl rfl (ql_api_Errno _ _ _ (bxa.cell (j := 3) rfl)) ?_
                refine WL.op rfl rfl rfl (Go.Proofs.Ythdkmjbeemfbbaa.W.quiet_bin rfl rfl rfl (fun W => qb_neq_api_Errno W _ _ _ _)) ?_
                refine O.split (fun hb => ?_) (fun hb => ?_)
                · skip
                  have he : (rFin m dat inp f0).e ≠ 16 := by simpa using hb
                  have hs := rFin_same (m := m) (dat := dat) (inp := inp) f0 f1 he
                  rw [hs] at bxb hrB
                  have hlA := t_len m dat inp f0 hfew hwd hinu hdu (by omega)
                  refine WL.nil ?_
                  refine TW.cond rfl (fun _ => ?_) (fun hb => by cases hb)
                  refine TW.sreg ?_
                  refine WL.call (hr := (HA _)) rfl rfl rfl rfl rfl (fun W => qk_rushlightlaw14_awake W _) ?_
                  rintro e wz9 ⟨rfl, fz⟩
                  refine ⟨_, rfl, ?_⟩
                  replace bxa := bxa.fr fz id
                  replace bxb := bxb.fr fz id
                  replace hrA := Row.fr hrA fz (fun _ _ => id)
                  replace hrB := Row.fr hrB fz (fun _ _ => id)
                  replace ff := ff.trans fz
                  refine O.split (fun hb => ?_) (fun hb => by exfalso; revert hb; simp)
                  refine WL.op rfl rfl rfl (Go.Proofs.Ythdkmjbeemfbbaa.W.quiet_move rfl rfl) ?_
                  refine WL.ld rfl rfl rfl rfl rfl (qlB_api_Outcome _ _ _ _ _ _ _ _ _ bxa) ?_
                  refine WL.ld rfl rfl rfl rfl rfl (qlB_api_Outcome _ _ _ _ _ _ _ _ _ bxb) ?_
                  refine WL.call (hr := (t_same oa ob oc od (rFin m dat inp f0) hlA _ (Row.inp hrA) (Row.inp hrB))) rfl rfl rfl rfl rfl (fun W => qk_rushlightlaw12_Same W _) ?_
                  rintro e w9 ⟨rfl, f9⟩
                  refine ⟨_, rfl, ?_⟩
                  replace bxa := bxa.fr f9 id
                  replace bxb := bxb.fr f9 id
                  replace hrA := Row.fr hrA f9 (fun _ _ => id)
                  replace hrB := Row.fr hrB f9 (fun _ _ => id)
                  replace ff := ff.trans f9
                  refine WL.op rfl rfl rfl (Go.Proofs.Ythdkmjbeemfbbaa.W.quiet_pick rfl rfl rfl) ?_
                  refine WL.op rfl rfl rfl (Go.Proofs.Ythdkmjbeemfbbaa.W.quiet_assign rfl rfl) ?_
                  refine WL.nil ?_
                  refine TW.rt ?_
                  refine Xw.thn (by simp) ?_
                  refine bodyw_ret rfl rfl ?_
                  exact ⟨rfl, ff⟩
                · skip
                  have he : (rFin m dat inp f0).e = 16 := by simpa using hb
                  have hs := rFin_more (m := m) (dat := dat) (inp := inp) f0 f1
                  have hx := rFin_exit (m := m) (dat := dat) (inp := inp) f0 he
                  have hlB := t_len m dat inp (f0 + f1) hfew hwd hinu hdu (by omega)
                  refine WL.nil ?_
                  refine TW.cond rfl (fun hb => by cases hb) (fun _ => ?_)
                  refine TW.skip ?_
                  refine TW.sreg ?_
                  refine WL.call (hr := (HA _)) rfl rfl rfl rfl rfl (fun W => qk_rushlightlaw14_awake W _) ?_
                  rintro e wz9 ⟨rfl, fz⟩
                  refine ⟨_, rfl, ?_⟩
                  replace bxa := bxa.fr fz id
                  replace bxb := bxb.fr fz id
                  replace hrA := Row.fr hrA fz (fun _ _ => id)
                  replace hrB := Row.fr hrB fz (fun _ _ => id)
                  replace ff := ff.trans fz
                  refine O.split (fun hb => ?_) (fun hb => by exfalso; revert hb; simp)
                  refine WL.op rfl rfl rfl (Go.Proofs.Ythdkmjbeemfbbaa.W.quiet_move rfl rfl) ?_
                  refine WL.op rfl rfl rfl (Go.Proofs.Ythdkmjbeemfbbaa.W.quiet_field rfl rfl (fun W => (qa_api_Outcome_0 W _ _))) ?_
                  refine WL.ld rfl rfl rfl rfl rfl (ql_s_uint32 _ _ _ _ _ (bxa.cell (j := 0) rfl)) ?_
                  refine WL.op rfl rfl rfl (Go.Proofs.Ythdkmjbeemfbbaa.W.quiet_field rfl rfl (fun W => (qa_api_Outcome_0 W _ _))) ?_
                  refine WL.ld rfl rfl rfl rfl rfl (ql_s_uint32 _ _ _ _ _ (bxb.cell (j := 0) rfl)) ?_
                  refine WL.call (hr := (t_begins oa ob oc od (rFin m dat inp f0).out (rFin m dat inp (f0 + f1)).out hlB hs.1 _ (Row.inp hrA) (Row.inp hrB))) rfl rfl rfl rfl rfl (fun W => qk_rushlightlaw12_Begins W _) ?_
                  rintro e w9 ⟨rfl, f9⟩
                  refine ⟨_, rfl, ?_⟩
                  replace bxa := bxa.fr f9 id
                  replace bxb := bxb.fr f9 id
                  replace hrA := Row.fr hrA f9 (fun _ _ => id)
                  replace hrB := Row.fr hrB f9 (fun _ _ => id)
                  replace ff := ff.trans f9
                  refine O.split (fun hb => ?_) (fun hb => by exfalso; revert hb; simp)
                  refine WL.op rfl rfl rfl (Go.Proofs.Ythdkmjbeemfbbaa.W.quiet_pick rfl rfl rfl) ?_
                  refine WL.op rfl rfl rfl (Go.Proofs.Ythdkmjbeemfbbaa.W.quiet_move rfl rfl) ?_
                  refine WL.op rfl rfl rfl (Go.Proofs.Ythdkmjbeemfbbaa.W.quiet_field rfl rfl (fun W => (qa_api_Outcome_1 W _ _))) ?_
                  refine WL.ld rfl rfl rfl rfl rfl (ql_int _ _ _ (bxa.cell (j := 1) rfl)) ?_
                  refine WL.op rfl rfl rfl (Go.Proofs.Ythdkmjbeemfbbaa.W.quiet_field rfl rfl (fun W => (qa_api_Outcome_1 W _ _))) ?_
                  refine WL.ld rfl rfl rfl rfl rfl (ql_int _ _ _ (bxb.cell (j := 1) rfl)) ?_
                  refine WL.op rfl rfl rfl (Go.Proofs.Ythdkmjbeemfbbaa.W.quiet_bin rfl rfl rfl (fun W => qb_leq_int W _ _ _ _)) ?_
                  refine O.split (fun hb => ?_) (fun hb => absurd (of_decide_eq_false hb) (Classical.not_not.2 hs.2))
                  refine WL.op rfl rfl rfl (Go.Proofs.Ythdkmjbeemfbbaa.W.quiet_pick rfl rfl rfl) ?_
                  refine WL.op rfl rfl rfl (Go.Proofs.Ythdkmjbeemfbbaa.W.quiet_move rfl rfl) ?_
                  refine WL.op rfl rfl rfl (Go.Proofs.Ythdkmjbeemfbbaa.W.quiet_field rfl rfl (fun W => (qa_api_Outcome_2 W _ _))) ?_
                  refine WL.ld rfl rfl rfl rfl rfl (ql_uint32 _ _ _ (bxa.cell (j := 2) rfl)) ?_
                  refine WL.op rfl rfl rfl (Go.Proofs.Ythdkmjbeemfbbaa.W.quiet_bin rfl rfl rfl (fun W => qb_eql_uint32 W _ _ _ _)) ?_
                  refine O.split (fun hb => ?_) (fun hb => by rw [hx] at hb; cases hb)
                  refine WL.op rfl rfl rfl (Go.Proofs.Ythdkmjbeemfbbaa.W.quiet_pick rfl rfl rfl) ?_
                  refine WL.op rfl rfl rfl (Go.Proofs.Ythdkmjbeemfbbaa.W.quiet_assign rfl rfl) ?_
                  refine WL.nil ?_
                  refine TW.rt ?_
                  refine bodyw_ret rfl rfl ?_
                  exact ⟨rfl, ff⟩
  · skip
    refine WL.op rfl rfl rfl (Go.Proofs.Ythdkmjbeemfbbaa.W.quiet_not rfl rfl) ?_
    refine WL.op rfl rfl rfl (Go.Proofs.Ythdkmjbeemfbbaa.W.quiet_move rfl rfl) ?_
    refine WL.skip rfl rfl rfl ?_
    refine WL.skip rfl rfl rfl ?_
    refine WL.skip rfl rfl rfl ?_
    refine WL.op rfl rfl rfl (Go.Proofs.Ythdkmjbeemfbbaa.W.quiet_pick rfl rfl rfl) ?_
    refine WL.op rfl rfl rfl (Go.Proofs.Ythdkmjbeemfbbaa.W.quiet_move rfl rfl) ?_
    refine WL.skip rfl rfl rfl ?_
    refine WL.skip rfl rfl rfl ?_
    refine WL.skip rfl rfl rfl ?_
    refine WL.op rfl rfl rfl (Go.Proofs.Ythdkmjbeemfbbaa.W.quiet_pick rfl rfl rfl) ?_
    refine WL.op rfl rfl rfl (Go.Proofs.Ythdkmjbeemfbbaa.W.quiet_move rfl rfl) ?_
    refine WL.skip rfl rfl rfl ?_
    refine WL.skip rfl rfl rfl ?_
    refine WL.skip rfl rfl rfl ?_
    refine WL.op rfl rfl rfl (Go.Proofs.Ythdkmjbeemfbbaa.W.quiet_pick rfl rfl rfl) ?_
    refine WL.op rfl rfl rfl (Go.Proofs.Ythdkmjbeemfbbaa.W.quiet_move rfl rfl) ?_
    refine WL.skip rfl rfl rfl ?_
    refine WL.skip rfl rfl rfl ?_
    refine WL.skip rfl rfl rfl ?_
    refine WL.op rfl rfl rfl (Go.Proofs.Ythdkmjbeemfbbaa.W.quiet_pick rfl rfl rfl) ?_
    refine WL.op rfl rfl rfl (Go.Proofs.Ythdkmjbeemfbbaa.W.quiet_move rfl rfl) ?_
    refine WL.skip rfl rfl rfl ?_
    refine WL.skip rfl rfl rfl ?_
    refine WL.skip rfl rfl rfl ?_
    refine WL.op rfl rfl rfl (Go.Proofs.Ythdkmjbeemfbbaa.W.quiet_pick rfl rfl rfl) ?_
    refine WL.nil ?_
    refine TW.cond rfl (fun _ => ?_) (fun hb => by cases hb)
    refine TW.sreg ?_
    refine WL.call (hr := (HA _)) rfl rfl rfl rfl rfl (fun W => qk_rushlightlaw14_awake W _) ?_
    rintro e wz9 ⟨rfl, fz⟩
    refine ⟨_, rfl, ?_⟩
    replace bx1 := bx1.fr fz id
    replace bx2 := bx2.fr fz id
    replace ff := ff.trans fz
    refine WL.op rfl rfl rfl (Go.Proofs.Ythdkmjbeemfbbaa.W.quiet_assign rfl rfl) ?_
    refine WL.nil ?_
    refine TW.rt ?_
    refine Xw.thn (by simp) ?_
    refine bodyw_ret rfl rfl ?_
    exact ⟨rfl, ff⟩
end Go.Proofs.Ythdkmjbeemfbbaa
