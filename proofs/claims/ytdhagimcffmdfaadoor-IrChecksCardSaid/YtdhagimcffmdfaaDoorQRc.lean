/-
  Modules (layer 13): the document's own Check of any few module. Which modules and procedures are right (layer 13): the law's walk.
-/
import Derived.Test.YtdhagimcffmdfaaDoorQRp
import Derived.Test.YtdhagimcffmdfaaDoorQChkH
import Derived.Test.YtdhagimcffmdfaaDoorQFewM
namespace Go.Proofs.YtdhagimcffmdfaaDoor
open Go.RowKit
set_option linter.unusedVariables false
set_option linter.unusedSimpArgs false
set_option maxRecDepth 100000 in
set_option maxHeartbeats 16000000 in
theorem rcheck_any (ga da pa : Option Addr) (nG nD nP gc dc pc : Nat) (mn : Int) (m : Mdl) (hnG : nG = m.gl.length) (hnD : nD = m.da.length) (hnP : nP = m.pr.length) (hmn : mn = m.mn) (hfew : m.few) (hwd : m.wide) (w : World) (hm : MdlAt w ga da pa m) : Calls Tryd.prog 9 #[.agg #[.slice ga nG gc, .slice da nD dc, .slice pa nP pc, .int .i64 mn]] w fun e w' => e = .returned (.int .i64 (checkI m)) ∧ Fr (fun _ => False) w w' := by
  have hG20 : nG ≤ 20 := by have := hfew.g; omega
  have hP6 : nP ≤ 6 := by have := hfew.p; omega
  have hD20 : nD ≤ 20 := by have := hfew.d; omega
  refine calls_tw Tryd.func9 rfl rfl (Nat.le_of_ble_eq_true rfl) ?_
  refine TW.sreg ?_
  refine WL.box rfl rfl rfl rfl rfl (bx_mod _ _ rfl) ?_
  refine WL.op rfl rfl rfl (W.quiet_assign rfl rfl) ?_
  refine WL.nil ?_
  have HV := fr_al (Fr.refl (fun _ => False) w) (.cells #[.slice ga nG gc, .slice da nD dc, .slice pa nP pc, .int .i64 mn] 26)
  have CM := fun (j : Nat) (y : Value) (h : (#[.slice ga nG gc, .slice da nD dc, .slice pa nP pc, .int .i64 mn] : Array Value)[j]? = some y) => fcell w #[.slice ga nG gc, .slice da nD dc, .slice pa nP pc, .int .i64 mn] 26 j y h
  generalize (w.alloc (.cells #[.slice ga nG gc, .slice da nD dc, .slice pa nP pc, .int .i64 mn] 26)) = V at *
  generalize w.heap.size = mb at *
  refine TW.to (fun W => Fr (fun _ => False) V W) (Fr.refl _ _) ?_
  refine T.sub (s' := [(1, .pointer (some ⟨mb, 0, none⟩))]) ?_ (fun a h => by (repeat (refine Kn.cons h rfl ?_)); exact h.base)
  have LM : ∀ W, Fr (fun _ => False) V W → (Instr.loadAt 26 (.pointer (some ⟨mb, 0, none⟩))).run Tryd.prog W = .ok (.agg #[.slice ga nG gc, .slice da nD dc, .slice pa nP pc, .int .i64 mn]) W := fun W hW => ld_mod _ _ _ _ _ _ (hW.cell (CM 0 _ rfl) id) (hW.cell (CM 1 _ rfl) id) (hW.cell (CM 2 _ rfl) id) (hW.cell (CM 3 _ rfl) id)
  have LMG : ∀ W, Fr (fun _ => False) V W → (Instr.loadAt 22 (.pointer (some ⟨mb, 0, none⟩))).run Tryd.prog W = .ok (.slice ga nG gc) W := fun W hW => ld_slots _ _ _ _ _ (hW.cell (CM 0 _ rfl) id)
  have LMD : ∀ W, Fr (fun _ => False) V W → (Instr.loadAt 23 (.pointer (some ⟨mb, 1, none⟩))).run Tryd.prog W = .ok (.slice da nD dc) W := fun W hW => ld_data _ _ _ _ _ (hW.cell (CM 1 _ rfl) id)
  have LMP : ∀ W, Fr (fun _ => False) V W → (Instr.loadAt 24 (.pointer (some ⟨mb, 2, none⟩))).run Tryd.prog W = .ok (.slice pa nP pc) W := fun W hW => ld_procs _ _ _ _ _ (hW.cell (CM 2 _ rfl) id)
  have LMN : ∀ W, Fr (fun _ => False) V W → (Instr.loadAt 3 (.pointer (some ⟨mb, 3, none⟩))).run Tryd.prog W = .ok (.int .i64 mn) W := fun W hW => ld_int _ _ _ (hW.cell (CM 3 _ rfl) id)
  clear CM
  obtain ⟨nDG, hnDG⟩ : ∃ b, ((nD : Int) != (nG : Int)) = b := ⟨_, rfl⟩
  have BnDG : ∀ (x y : Operand) (W : World), (do eqGuard .neq 3 x y (.int .i64 (nD : Int)) (.int .i64 (nG : Int)); binOp .neq 3 (.int .i64 (nD : Int)) (.int .i64 (nG : Int)) : Sem Value).run Tryd.prog W = .ok (.bool nDG) W := fun x y W => by rw [← hnDG]; exact bn_ne (nD : Int) (nG : Int) x y W
  obtain ⟨lP, hlP⟩ : ∃ b, (decide ((nP : Int) < 1)) = b := ⟨_, rfl⟩
  have BlP : ∀ (x y : Operand) (W : World), (do eqGuard .lss 3 x y (.int .i64 (nP : Int)) (.int .i64 1); binOp .lss 3 (.int .i64 (nP : Int)) (.int .i64 1) : Sem Value).run Tryd.prog W = .ok (.bool lP) W := fun x y W => by rw [← hlP]; exact bn_lt (nP : Int) 1 x y W
  obtain ⟨gP, hgP⟩ : ∃ b, (decide (200 < (nP : Int))) = b := ⟨_, rfl⟩
  have BgP : ∀ (x y : Operand) (W : World), (do eqGuard .gtr 3 x y (.int .i64 (nP : Int)) (.int .i64 200); binOp .gtr 3 (.int .i64 (nP : Int)) (.int .i64 200) : Sem Value).run Tryd.prog W = .ok (.bool gP) W := fun x y W => by rw [← hgP]; exact bn_gt (nP : Int) 200 x y W
  obtain ⟨lM, hlM⟩ : ∃ b, (decide (mn < 0)) = b := ⟨_, rfl⟩
  have BlM : ∀ (x y : Operand) (W : World), (do eqGuard .lss 3 x y (.int .i64 mn) (.int .i64 0); binOp .lss 3 (.int .i64 mn) (.int .i64 0) : Sem Value).run Tryd.prog W = .ok (.bool lM) W := fun x y W => by rw [← hlM]; exact bn_lt mn 0 x y W
  obtain ⟨hM, hhM⟩ : ∃ b, (decide ((nP : Int) ≤ mn)) = b := ⟨_, rfl⟩
  have BhM : ∀ (x y : Operand) (W : World), (do eqGuard .geq 3 x y (.int .i64 mn) (.int .i64 (nP : Int)); binOp .geq 3 (.int .i64 mn) (.int .i64 (nP : Int)) : Sem Value).run Tryd.prog W = .ok (.bool hM) W := fun x y W => by rw [← hhM]; exact bn_ge mn (nP : Int) x y W
  obtain ⟨bS, hS⟩ := bool_ex (SltsP m.gl)
  have KS : ∀ W, Fr (fun _ => False) V W → Calls Tryd.prog 25 #[.slice ga nG gc, .int .i64 200] W fun e w' => e = .returned (.bool bS) ∧ Fr (fun _ => False) V w' := fun W hW => (rslts m.gl ga nG gc 200 hnG (by omega) (by omega) (by omega) W (hm.g.fr (HV.trans hW))).mono fun e w' q => ⟨isR_eq q.1 hS, by rw [← q.2]; exact hW⟩
  obtain ⟨c1, hc1⟩ : ∃ b, (nDG || !bS || lP || gP || lM || hM) = b := ⟨_, rfl⟩
  have hOV : c1 = false ↔ nD = nG ∧ SltsP m.gl ∧ 1 ≤ nP ∧ (0 ≤ mn ∧ mn < nP) := by
    rw [← hc1, ← hnDG, ← hlP, ← hgP, ← hlM, ← hhM, ← hS]
    cases bS <;> simp <;> omega
  clear hnDG hlP hgP hlM hhM
  have HMV : MdlV m ↔ nD = nG ∧ SltsP m.gl ∧ 1 ≤ nP ∧ (0 ≤ mn ∧ mn < nP) ∧ (m.pr.getD mn.toNat prc0).pa = 0 ∧ (m.pr.getD mn.toNat prc0).vd = false ∧ DatP m := by
    unfold MdlV
    rw [← hmn, ← hnD, ← hnG, ← hnP]
    constructor
    · rintro ⟨a1, a2, a3, a4, a5, a6, a7⟩; exact ⟨a1, a6, a2, a3, a4, a5, a7⟩
    · rintro ⟨a1, a2, a3, a4, a5, a6, a7⟩; exact ⟨a1, a3, a4, a5, a6, a2, a7⟩
  refine T.seq ?_
  refine T.sreg ((42, .bool (nDG || !bS || lP || gP || lM || hM)) :: [(1, .pointer (some ⟨mb, 0, none⟩))]) ?_ ?_
  ·
    refine W.cut 8 ((12, .bool (nDG)) :: [(1, .pointer (some ⟨mb, 0, none⟩))]) ?_ ?_
    · cases nDG
      all_goals
        refine W.op rfl rfl rfl (W.quiet_field rfl rfl (fun W => fm1 W _)) ?_
        refine W.op rfl rfl rfl (W.quiet_load rfl rfl (by first | exact LMG | exact LMD | exact LMP | exact LMN)) ?_
        refine W.op rfl rfl rfl (W.quiet_len rfl rfl (fun W => ln_d W _ _ _)) ?_
        refine W.op rfl rfl rfl (W.quiet_field rfl rfl (fun W => fm0 _ W)) ?_
        refine W.op rfl rfl rfl (W.quiet_load rfl rfl (by first | exact LMG | exact LMD | exact LMP | exact LMN)) ?_
        refine W.op rfl rfl rfl (W.quiet_len rfl rfl (fun W => ln_s W _ _ _)) ?_
        refine W.op rfl rfl rfl (W.quiet_bin rfl rfl rfl (by first | exact BnDG _ _ | exact BlP _ _ | exact BgP _ _ | exact BlM _ _ | exact BhM _ _)) ?_
        refine W.op rfl rfl rfl (W.quiet_move rfl rfl) ?_
        exact W.nil (fun a h => by (repeat (refine Kn.cons h rfl ?_)); exact h.base)
    refine W.cut 6 ((18, .bool (nDG || !bS)) :: [(1, .pointer (some ⟨mb, 0, none⟩))]) ?_ ?_
    · generalize (nDG) = p at *
      cases p <;> cases bS
      all_goals
        first
        | refine W.skip rfl rfl rfl ?_
        | refine W.op rfl rfl rfl (W.quiet_field rfl rfl (fun W => fm0 _ W)) ?_
        first
        | refine W.skip rfl rfl rfl ?_
        | refine W.op rfl rfl rfl (W.quiet_load rfl rfl (by first | exact LMG | exact LMD | exact LMP | exact LMN)) ?_
        first
        | refine W.skip rfl rfl rfl ?_
        | refine W.op rfl rfl rfl (W.quiet_call (hr := KS) rfl rfl (fun W => cf_slots W _)) ?_
        first
        | refine W.skip rfl rfl rfl ?_
        | refine W.op rfl rfl rfl (W.quiet_not rfl rfl) ?_
        refine W.op rfl rfl rfl (W.quiet_pick rfl rfl rfl) ?_
        refine W.op rfl rfl rfl (W.quiet_move rfl rfl) ?_
        exact W.nil (fun a h => by (repeat (refine Kn.cons h rfl ?_)); exact h.base)
    refine W.cut 6 ((24, .bool (nDG || !bS || lP)) :: [(1, .pointer (some ⟨mb, 0, none⟩))]) ?_ ?_
    · generalize (nDG || !bS) = p at *
      cases p <;> cases lP
      all_goals
        first
        | refine W.skip rfl rfl rfl ?_
        | refine W.op rfl rfl rfl (W.quiet_field rfl rfl (fun W => fm2 _ W)) ?_
        first
        | refine W.skip rfl rfl rfl ?_
        | refine W.op rfl rfl rfl (W.quiet_load rfl rfl (by first | exact LMG | exact LMD | exact LMP | exact LMN)) ?_
        first
        | refine W.skip rfl rfl rfl ?_
        | refine W.op rfl rfl rfl (W.quiet_len rfl rfl (fun W => ln_p W _ _ _)) ?_
        first
        | refine W.skip rfl rfl rfl ?_
        | refine W.op rfl rfl rfl (W.quiet_bin rfl rfl rfl (by first | exact BnDG _ _ | exact BlP _ _ | exact BgP _ _ | exact BlM _ _ | exact BhM _ _)) ?_
        refine W.op rfl rfl rfl (W.quiet_pick rfl rfl rfl) ?_
        refine W.op rfl rfl rfl (W.quiet_move rfl rfl) ?_
        exact W.nil (fun a h => by (repeat (refine Kn.cons h rfl ?_)); exact h.base)
    refine W.cut 6 ((30, .bool (nDG || !bS || lP || gP)) :: [(1, .pointer (some ⟨mb, 0, none⟩))]) ?_ ?_
    · generalize (nDG || !bS || lP) = p at *
      cases p <;> cases gP
      all_goals
        first
        | refine W.skip rfl rfl rfl ?_
        | refine W.op rfl rfl rfl (W.quiet_field rfl rfl (fun W => fm2 _ W)) ?_
        first
        | refine W.skip rfl rfl rfl ?_
        | refine W.op rfl rfl rfl (W.quiet_load rfl rfl (by first | exact LMG | exact LMD | exact LMP | exact LMN)) ?_
        first
        | refine W.skip rfl rfl rfl ?_
        | refine W.op rfl rfl rfl (W.quiet_len rfl rfl (fun W => ln_p W _ _ _)) ?_
        first
        | refine W.skip rfl rfl rfl ?_
        | refine W.op rfl rfl rfl (W.quiet_bin rfl rfl rfl (by first | exact BnDG _ _ | exact BlP _ _ | exact BgP _ _ | exact BlM _ _ | exact BhM _ _)) ?_
        refine W.op rfl rfl rfl (W.quiet_pick rfl rfl rfl) ?_
        refine W.op rfl rfl rfl (W.quiet_move rfl rfl) ?_
        exact W.nil (fun a h => by (repeat (refine Kn.cons h rfl ?_)); exact h.base)
    refine W.cut 5 ((35, .bool (nDG || !bS || lP || gP || lM)) :: [(1, .pointer (some ⟨mb, 0, none⟩))]) ?_ ?_
    · generalize (nDG || !bS || lP || gP) = p at *
      cases p <;> cases lM
      all_goals
        first
        | refine W.skip rfl rfl rfl ?_
        | refine W.op rfl rfl rfl (W.quiet_field rfl rfl (fun W => fm3 W _)) ?_
        first
        | refine W.skip rfl rfl rfl ?_
        | refine W.op rfl rfl rfl (W.quiet_load rfl rfl (by first | exact LMG | exact LMD | exact LMP | exact LMN)) ?_
        first
        | refine W.skip rfl rfl rfl ?_
        | refine W.op rfl rfl rfl (W.quiet_bin rfl rfl rfl (by first | exact BnDG _ _ | exact BlP _ _ | exact BgP _ _ | exact BlM _ _ | exact BhM _ _)) ?_
        refine W.op rfl rfl rfl (W.quiet_pick rfl rfl rfl) ?_
        refine W.op rfl rfl rfl (W.quiet_move rfl rfl) ?_
        exact W.nil (fun a h => by (repeat (refine Kn.cons h rfl ?_)); exact h.base)
    generalize (nDG || !bS || lP || gP || lM) = p at *
    cases p <;> cases hM
    all_goals
      first
      | refine W.skip rfl rfl rfl ?_
      | refine W.op rfl rfl rfl (W.quiet_field rfl rfl (fun W => fm3 W _)) ?_
      first
      | refine W.skip rfl rfl rfl ?_
      | refine W.op rfl rfl rfl (W.quiet_load rfl rfl (by first | exact LMG | exact LMD | exact LMP | exact LMN)) ?_
      first
      | refine W.skip rfl rfl rfl ?_
      | refine W.op rfl rfl rfl (W.quiet_field rfl rfl (fun W => fm2 _ W)) ?_
      first
      | refine W.skip rfl rfl rfl ?_
      | refine W.op rfl rfl rfl (W.quiet_load rfl rfl (by first | exact LMG | exact LMD | exact LMP | exact LMN)) ?_
      first
      | refine W.skip rfl rfl rfl ?_
      | refine W.op rfl rfl rfl (W.quiet_len rfl rfl (fun W => ln_p W _ _ _)) ?_
      first
      | refine W.skip rfl rfl rfl ?_
      | refine W.op rfl rfl rfl (W.quiet_bin rfl rfl rfl (by first | exact BnDG _ _ | exact BlP _ _ | exact BgP _ _ | exact BlM _ _ | exact BhM _ _)) ?_
      refine W.op rfl rfl rfl (W.quiet_pick rfl rfl rfl) ?_
      exact W.nil (fun a h => by (repeat (refine Kn.cons h rfl ?_)); exact h.base)
  rw [hc1]
  clear hc1
  refine T.cond rfl (fun hb => ?_) (fun hb => ?_)
  ·
    refine T.sreg [(2, .int .i64 3)] ?_ (T.ret ?_)
    · refine W.op rfl rfl rfl (W.quiet_assign rfl rfl) ?_
      exact W.nil (fun a h => by (repeat (refine Kn.cons h rfl ?_)); exact h.base)
    · repeat (with_reducible first | refine Rt.thn ?_ | refine Rt.blk ?_)
      refine body_ret rfl rfl ?_
      exact fun W hW => ⟨by rw [checkI_bad (fun q => by have q1 := HMV.1 q.1; rw [hOV.2 ⟨q1.1, q1.2.1, q1.2.2.1, q1.2.2.2.1⟩] at hb; cases hb)], HV.trans hW⟩
  refine T.skip ?_
  obtain ⟨hDG, hSl, h1P, hmnr⟩ := hOV.1 hb
  clear hOV hb KS hS BnDG BlP BgP BlM BhM
  refine T.seq ?_
  refine T.sreg ((3, .int .i64 ((0 : Nat) : Int)) :: [(1, .pointer (some ⟨mb, 0, none⟩))]) ?_ ?_
  ·
    refine W.op rfl rfl rfl (W.quiet_assign rfl rfl) ?_
    exact W.nil (fun a h => by (repeat (refine Kn.cons h rfl ?_)); exact h.base)
  refine T.block ?_
  refine T.loop (t := 3) (n := nD) (fun i => (3, .int .i64 ((i : Nat) : Int)) :: [(1, .pointer (some ⟨mb, 0, none⟩))]) (fun i => ∀ k, k < i → (m.da.getD k 0 : Int) = (m.gl.getD k slt0).sz) (fun i => rfl) (fun a h => h) (fun k hk => absurd hk (by omega)) ?_
  intro i hi hJ
  have Bli := fun x y W => bn_lt (i : Int) (nD : Int) x y W
  refine T.seq ?_
  refine T.sreg ((47, .bool (decide ((i : Int) < (nD : Int)))) :: (3, .int .i64 ((i : Nat) : Int)) :: [(1, .pointer (some ⟨mb, 0, none⟩))]) ?_ ?_
  ·
    refine W.op rfl rfl rfl (W.quiet_move rfl rfl) ?_
    refine W.op rfl rfl rfl (W.quiet_field rfl rfl (fun W => fm1 W _)) ?_
    refine W.op rfl rfl rfl (W.quiet_load rfl rfl (by first | exact LMD)) ?_
    refine W.op rfl rfl rfl (W.quiet_len rfl rfl (fun W => ln_d W _ _ _)) ?_
    refine W.op rfl rfl rfl (W.quiet_bin rfl rfl rfl (by first | exact Bli _ _)) ?_
    exact W.nil (fun a h => by (repeat (refine Kn.cons h rfl ?_)); exact h.base)
  refine T.cond rfl (fun hlt => ?_) (fun hge => ?_)
  · have hlt' : i < nD := by have := of_decide_eq_true hlt; omega
    refine T.skip ?_
    refine T.seq ?_
    refine T.block ?_
    obtain ⟨dg, dof, a', c', rfl, d0⟩ := hm.d i (by omega)
    obtain ⟨sg, so, rfl, _, s1, _, _⟩ := hm.g i (by omega)
    obtain ⟨ln, hln⟩ : ∃ x, m.da.getD i 0 = x := ⟨_, rfl⟩
    obtain ⟨sz, hsz⟩ : ∃ x, (m.gl.getD i slt0).sz = x := ⟨_, rfl⟩
    rw [hln] at d0
    rw [hsz] at s1
    have IXD := fun W => ixd W dg dof nD dc i hlt'
    have IXS := fun W => ixs W sg so nG gc i (by omega)
    have LD1 : ∀ W, Fr (fun _ => False) V W → (Instr.loadAt 55 (.pointer (some ⟨dg, dof + i, none⟩))).run Tryd.prog W = .ok (.slice a' ln c') W := fun W hW => ld_bytes _ _ _ _ _ (hW.cell (HV.cell d0 id) id)
    have LS1 : ∀ W, Fr (fun _ => False) V W → (Instr.loadAt 3 (.pointer (some ⟨sg, so + i * 4 + 1, none⟩))).run Tryd.prog W = .ok (.int .i64 sz) W := fun W hW => ld_int _ _ _ (hW.cell (HV.cell s1 id) id)
    have Bne := fun x y W => bn_ne (ln : Int) sz x y W
    refine T.sregD (by kernel_rfl) (by kernel_rfl) (fun W hW => hW.drewN 1) ((62, .bool ((ln : Int) != sz)) :: (3, .int .i64 ((i : Nat) : Int)) :: [(1, .pointer (some ⟨mb, 0, none⟩))]) ?_ ?_
    ·
      refine W.op rfl rfl rfl (W.quiet_field rfl rfl (fun W => fm1 W _)) ?_
      refine W.op rfl rfl rfl (W.quiet_load rfl rfl (by first | exact LMG | exact LMD | exact LD1 | exact LS1)) ?_
      refine W.op rfl rfl rfl (W.quiet_move rfl rfl) ?_
      refine W.op rfl rfl rfl (W.quiet_index rfl rfl rfl (by first | exact IXD)) ?_
      refine W.op rfl rfl rfl (W.quiet_load rfl rfl (by first | exact LMG | exact LMD | exact LD1 | exact LS1)) ?_
      refine W.op rfl rfl rfl (W.quiet_len rfl rfl (fun W => ln_y W _ _ _)) ?_
      refine W.op rfl rfl rfl (W.quiet_field rfl rfl (fun W => fm0 _ W)) ?_
      refine W.op rfl rfl rfl (W.quiet_load rfl rfl (by first | exact LMG | exact LMD | exact LD1 | exact LS1)) ?_
      refine W.op rfl rfl rfl (W.quiet_move rfl rfl) ?_
      refine W.op rfl rfl rfl (W.quiet_index rfl rfl rfl (by first | exact IXS)) ?_
      refine W.op rfl rfl rfl (W.quiet_field rfl rfl (fun W => fs1 W _ _)) ?_
      refine W.op rfl rfl rfl (W.quiet_load rfl rfl (by first | exact LMG | exact LMD | exact LD1 | exact LS1)) ?_
      refine W.op rfl rfl rfl (W.quiet_bin rfl rfl rfl (by first | exact Bne _ _)) ?_
      exact W.nil (fun a h => by (repeat (refine Kn.cons h rfl ?_)); exact h.base)
    refine T.cond rfl (fun hb => ?_) (fun hb => ?_)
    ·
      refine T.sreg [(2, .int .i64 3)] ?_ (T.ret ?_)
      · refine W.op rfl rfl rfl (W.quiet_assign rfl rfl) ?_
        exact W.nil (fun a h => by (repeat (refine Kn.cons h rfl ?_)); exact h.base)
      · repeat (with_reducible first | refine Rt.thn ?_ | refine Rt.blk ?_)
        refine body_ret rfl rfl ?_
        exact fun W hW => ⟨by rw [checkI_bad (fun q => by have q1 := (HMV.1 q.1).2.2.2.2.2.2 i (by omega); rw [hln, hsz] at q1; simp [q1] at hb)], HV.trans hW⟩
    refine T.skipx ?_
    repeat (with_reducible refine Xt.nblk ?_)
    refine Xt.nrm ?_
    have BJ := fun x y W => bn_addn W 1 x y i (by omega)
    refine T.reg ?_
    refine W.op rfl rfl rfl (W.quiet_move rfl rfl) ?_
    refine W.op rfl rfl rfl (W.quiet_bin rfl rfl rfl (by first | exact BJ _ _)) ?_
    refine W.op rfl rfl rfl (W.quiet_assign rfl rfl) ?_
    refine W.nil (fun a h w hw => ⟨i + 1, by omega, by omega, fun k hk => ?_, ?_, hw⟩)
    · by_cases hki : k < i
      · exact hJ k hki
      · obtain rfl : k = i := by omega
        rw [hln, hsz]
        simpa using hb
    · (repeat (refine Kn.cons h rfl ?_)); exact h.base
  have hiD : i = nD := by have := of_decide_eq_false hge; omega
  have hDat : DatP m := fun k hk => hJ k (by omega)
  clear hJ Bli hge
  refine T.exit ?_
  repeat (with_reducible refine Xt.thn ?_)
  refine Xt.hit ?_
  refine Xt.nrm ?_
  obtain ⟨k, rfl⟩ := Int.eq_ofNat_of_zero_le hmnr.1
  have hk : k < nP := by omega
  obtain ⟨pg, po, rfl, _, q1, q2, _⟩ := hm.p k (by omega)
  rw [Int.toNat_natCast] at HMV
  obtain ⟨pp, hpp⟩ : ∃ x, (m.pr.getD k prc0).pa = x := ⟨_, rfl⟩
  obtain ⟨vv, hvv⟩ : ∃ x, (m.pr.getD k prc0).vd = x := ⟨_, rfl⟩
  rw [hpp] at q2
  rw [hvv] at q1
  have IXP := fun W => ixp W pg po nP pc k hk
  have LPA : ∀ W, Fr (fun _ => False) V W → (Instr.loadAt 3 (.pointer (some ⟨pg, po + k * 6 + 2, none⟩))).run Tryd.prog W = .ok (.int .i64 pp) W := fun W hW => ld_int _ _ _ (hW.cell (HV.cell q2 id) id)
  have LPV : ∀ W, Fr (fun _ => False) V W → (Instr.loadAt 4 (.pointer (some ⟨pg, po + k * 6 + 1, none⟩))).run Tryd.prog W = .ok (.bool vv) W := fun W hW => ld_bool _ _ _ (hW.cell (HV.cell q1 id) id)
  obtain ⟨np, hnp⟩ : ∃ b, (pp != 0) = b := ⟨_, rfl⟩
  have Bnp : ∀ (x y : Operand) (W : World), (do eqGuard .neq 3 x y (.int .i64 pp) (.int .i64 0); binOp .neq 3 (.int .i64 pp) (.int .i64 0) : Sem Value).run Tryd.prog W = .ok (.bool np) W := fun x y W => by rw [← hnp]; exact bn_ne pp 0 x y W
  refine T.seq ?_
  refine T.sreg ((79, .bool (np || vv)) :: [(1, .pointer (some ⟨mb, 0, none⟩))]) ?_ ?_
  · refine W.cut 9 ((71, .bool np) :: [(1, .pointer (some ⟨mb, 0, none⟩))]) ?_ ?_
    ·
      refine W.op rfl rfl rfl (W.quiet_field rfl rfl (fun W => fm2 _ W)) ?_
      refine W.op rfl rfl rfl (W.quiet_load rfl rfl (by first | exact LMP | exact LMN | exact LPA | exact LPV)) ?_
      refine W.op rfl rfl rfl (W.quiet_field rfl rfl (fun W => fm3 W _)) ?_
      refine W.op rfl rfl rfl (W.quiet_load rfl rfl (by first | exact LMP | exact LMN | exact LPA | exact LPV)) ?_
      refine W.op rfl rfl rfl (W.quiet_index rfl rfl rfl (by first | exact IXP)) ?_
      refine W.op rfl rfl rfl (W.quiet_field rfl rfl (fun W => fp2 _ _ W)) ?_
      refine W.op rfl rfl rfl (W.quiet_load rfl rfl (by first | exact LMP | exact LMN | exact LPA | exact LPV)) ?_
      refine W.op rfl rfl rfl (W.quiet_bin rfl rfl rfl (by first | exact Bnp _ _)) ?_
      refine W.op rfl rfl rfl (W.quiet_move rfl rfl) ?_
      exact W.nil (fun a h => by (repeat (refine Kn.cons h rfl ?_)); exact h.base)
    cases np <;> cases vv
    all_goals
      first
      | refine W.skip rfl rfl rfl ?_
      | refine W.op rfl rfl rfl (W.quiet_field rfl rfl (fun W => fm2 _ W)) ?_
      first
      | refine W.skip rfl rfl rfl ?_
      | refine W.op rfl rfl rfl (W.quiet_load rfl rfl (by first | exact LMP | exact LMN | exact LPA | exact LPV)) ?_
      first
      | refine W.skip rfl rfl rfl ?_
      | refine W.op rfl rfl rfl (W.quiet_field rfl rfl (fun W => fm3 W _)) ?_
      first
      | refine W.skip rfl rfl rfl ?_
      | refine W.op rfl rfl rfl (W.quiet_load rfl rfl (by first | exact LMP | exact LMN | exact LPA | exact LPV)) ?_
      first
      | refine W.skip rfl rfl rfl ?_
      | refine W.op rfl rfl rfl (W.quiet_index rfl rfl rfl (by first | exact IXP)) ?_
      first
      | refine W.skip rfl rfl rfl ?_
      | refine W.op rfl rfl rfl (W.quiet_field rfl rfl (fun W => fp1 _ _ W)) ?_
      first
      | refine W.skip rfl rfl rfl ?_
      | refine W.op rfl rfl rfl (W.quiet_load rfl rfl (by first | exact LMP | exact LMN | exact LPA | exact LPV)) ?_
      refine W.op rfl rfl rfl (W.quiet_pick rfl rfl rfl) ?_
      exact W.nil (fun a h => by (repeat (refine Kn.cons h rfl ?_)); exact h.base)
  refine T.cond rfl (fun hb => ?_) (fun hb => ?_)
  ·
    refine T.sreg [(2, .int .i64 3)] ?_ (T.ret ?_)
    · refine W.op rfl rfl rfl (W.quiet_assign rfl rfl) ?_
      exact W.nil (fun a h => by (repeat (refine Kn.cons h rfl ?_)); exact h.base)
    · repeat (with_reducible first | refine Rt.thn ?_ | refine Rt.blk ?_)
      refine body_ret rfl rfl ?_
      exact fun W hW => ⟨by rw [checkI_bad (fun q => by have y := HMV.1 q.1; have y1 := y.2.2.2.2.1; have y2 := y.2.2.2.2.2.1; rw [hpp] at y1; rw [hvv] at y2; rw [← hnp, y1, y2] at hb; simp at hb)], HV.trans hW⟩
  refine T.skip ?_
  have hMV : MdlV m := HMV.2 ⟨hDG, hSl, h1P, hmnr, by rw [hpp]; simp at hb; rw [hb.1] at hnp; simpa using hnp, by rw [hvv]; simp at hb; exact hb.2, hDat⟩
  clear hb hnp Bnp LPA LPV IXP q1 q2
  refine T.seq ?_
  refine T.sreg ((4, .int .i64 ((0 : Nat) : Int)) :: [(1, .pointer (some ⟨mb, 0, none⟩))]) ?_ ?_
  ·
    refine W.op rfl rfl rfl (W.quiet_assign rfl rfl) ?_
    exact W.nil (fun a h => by (repeat (refine Kn.cons h rfl ?_)); exact h.base)
  refine T.block ?_
  clear hi hiD
  refine T.loop (t := 4) (n := nP) (fun i => (4, .int .i64 ((i : Nat) : Int)) :: [(1, .pointer (some ⟨mb, 0, none⟩))]) (fun i => ∀ k, k < i → PrcF m (m.pr.getD k prc0)) (fun i => rfl) (fun a h => h) (fun k hk => absurd hk (by omega)) ?_
  intro i hi hJ
  have Bli := fun x y W => bn_lt (i : Int) (nP : Int) x y W
  refine T.seq ?_
  refine T.sreg ((84, .bool (decide ((i : Int) < (nP : Int)))) :: (4, .int .i64 ((i : Nat) : Int)) :: [(1, .pointer (some ⟨mb, 0, none⟩))]) ?_ ?_
  ·
    refine W.op rfl rfl rfl (W.quiet_move rfl rfl) ?_
    refine W.op rfl rfl rfl (W.quiet_field rfl rfl (fun W => fm2 _ W)) ?_
    refine W.op rfl rfl rfl (W.quiet_load rfl rfl (by first | exact LMP)) ?_
    refine W.op rfl rfl rfl (W.quiet_len rfl rfl (fun W => ln_p W _ _ _)) ?_
    refine W.op rfl rfl rfl (W.quiet_bin rfl rfl rfl (by first | exact Bli _ _)) ?_
    exact W.nil (fun a h => by (repeat (refine Kn.cons h rfl ?_)); exact h.base)
  refine T.cond rfl (fun hlt => ?_) (fun hge => ?_)
  rotate_left
  · have hin : i = nP := by have := of_decide_eq_false hge; omega
    refine T.exit ?_
    repeat (with_reducible refine Xt.thn ?_)
    refine Xt.hit ?_
    refine Xt.nrm ?_
    refine T.sreg [(2, .int .i64 0)] ?_ (T.ret ?_)
    · refine W.op rfl rfl rfl (W.quiet_assign rfl rfl) ?_
      exact W.nil (fun a h => by (repeat (refine Kn.cons h rfl ?_)); exact h.base)
    · repeat (with_reducible first | refine Rt.thn ?_ | refine Rt.blk ?_)
      refine body_ret rfl rfl ?_
      exact fun W hW => ⟨by rw [checkI_ok ⟨hMV, fun k hk => hJ k (by omega)⟩], HV.trans hW⟩
  have hlt' : i < nP := by have := of_decide_eq_true hlt; omega
  have hil : i < m.pr.length := by omega
  refine T.skip ?_
  refine T.seq ?_
  refine T.block ?_
  have KP : ∀ W, Fr (fun _ => False) V W → Calls Tryd.prog 11 #[.agg #[.slice ga nG gc, .slice da nD dc, .slice (some ⟨pg, po, none⟩) nP pc, .int .i64 (k : Int)], .int .i64 (i : Int)] W fun e w' => e = .returned (.int .i64 (procI m (i : Int))) ∧ Fr (fun _ => False) V w' := fun W hW => callQ hW (rproc_any ga da _ nG nD nP gc dc pc (k : Int) (i : Int) m hnG hnP hfew hwd W (hm.p.fr (HV.trans hW)))
  obtain ⟨pv, hpv⟩ : ∃ x, procI m (i : Int) = x := ⟨_, rfl⟩
  rw [hpv] at KP
  have Bpv := fun x y W => bn_ne pv 0 x y W
  refine T.sreg ((90, .bool (pv != 0)) :: (4, .int .i64 ((i : Nat) : Int)) :: [(1, .pointer (some ⟨mb, 0, none⟩))]) ?_ ?_
  ·
    refine W.op rfl rfl rfl (W.quiet_load rfl rfl (by first | exact LM)) ?_
    refine W.op rfl rfl rfl (W.quiet_move rfl rfl) ?_
    refine W.op rfl rfl rfl (W.quiet_call (hr := KP) rfl rfl (fun W => cf_proc W _)) ?_
    refine W.op rfl rfl rfl (W.quiet_bin rfl rfl rfl (by first | exact Bpv _ _)) ?_
    exact W.nil (fun a h => by (repeat (refine Kn.cons h rfl ?_)); exact h.base)
  refine T.cond rfl (fun hb => ?_) (fun hb => ?_)
  ·
    refine T.sreg [(2, .int .i64 3)] ?_ (T.ret ?_)
    · refine W.op rfl rfl rfl (W.quiet_assign rfl rfl) ?_
      exact W.nil (fun a h => by (repeat (refine Kn.cons h rfl ?_)); exact h.base)
    · repeat (with_reducible first | refine Rt.thn ?_ | refine Rt.blk ?_)
      refine body_ret rfl rfl ?_
      exact fun W hW => ⟨by rw [checkI_bad (fun q => by have y := procI_ok hil (q.2 i hil); rw [← hpv, y] at hb; simp at hb)], HV.trans hW⟩
  refine T.skipx ?_
  repeat (with_reducible refine Xt.nblk ?_)
  refine Xt.nrm ?_
  have BJ := fun x y W => bn_addn W 1 x y i (by omega)
  refine T.reg ?_
  refine W.op rfl rfl rfl (W.quiet_move rfl rfl) ?_
  refine W.op rfl rfl rfl (W.quiet_bin rfl rfl rfl (by first | exact BJ _ _)) ?_
  refine W.op rfl rfl rfl (W.quiet_assign rfl rfl) ?_
  refine W.nil (fun a h w hw => ⟨i + 1, by omega, by omega, fun k hk => ?_, ?_, hw⟩)
  · by_cases hki : k < i
    · exact hJ k hki
    · obtain rfl : k = i := by omega
      refine Classical.byContradiction fun hn => ?_
      have y := procI_bad hil hn
      rw [← hpv, y] at hb
      simp at hb
  · (repeat (refine Kn.cons h rfl ?_)); exact h.base
section
variable (w : World) (vs : Array Value)
theorem cf_few : (callFunc 6 vs).run Tryd.prog w = .ok (.enter 6 vs) w := by simp [go_sem]
theorem cf_awk : (callFunc 7 vs).run Tryd.prog w = .ok (.enter 7 vs) w := by simp [go_sem]
theorem cf_chk : (callFunc 8 vs).run Tryd.prog w = .ok (.enter 8 vs) w := by simp [go_sem]
theorem cf_prc : (callFunc 10 vs).run Tryd.prog w = .ok (.enter 10 vs) w := by simp [go_sem]
theorem cf_rchk : (callFunc 9 vs).run Tryd.prog w = .ok (.enter 9 vs) w := by simp [go_sem]
end
set_option maxRecDepth 100000 in
set_option maxHeartbeats 16000000 in
theorem checks_walk (ga da pa : Option Addr) (nG nD nP gc dc pc : Nat) (mn n : Int) (m : Mdl) (hnG : nG = m.gl.length) (hnD : nD = m.da.length) (hnP : nP = m.pr.length) (hmn : mn = m.mn) (hwd : m.wide) (hdm : ∀ y ∈ m.da, y ≤ maxLen) (w : World) (hm : MdlAt w ga da pa m) (ht : TabW w) :
    Calls Tryd.prog 3 #[.agg #[.slice ga nG gc, .slice da nD dc, .slice pa nP pc, .int .i64 mn], .int .i64 n] w fun e w' => e = .returned (.bool true) ∧ Fr (fun _ => False) w w' := by
  refine calls_tw Tryd.func3 rfl rfl (Nat.le_of_ble_eq_true rfl) ?_
  refine TW.sreg ?_
  refine WL.box rfl rfl rfl rfl rfl (bx_mod _ _ rfl) ?_
  refine WL.op rfl rfl rfl (W.quiet_assign rfl rfl) ?_
  refine WL.nil ?_
  have F0 := fr_al (Fr.refl (fun _ => False) w) (.cells #[.slice ga nG gc, .slice da nD dc, .slice pa nP pc, .int .i64 mn] 26)
  have CM := fun (j : Nat) (y : Value) (h : (#[.slice ga nG gc, .slice da nD dc, .slice pa nP pc, .int .i64 mn] : Array Value)[j]? = some y) => fcell w #[.slice ga nG gc, .slice da nD dc, .slice pa nP pc, .int .i64 mn] 26 j y h
  generalize (w.alloc (.cells #[.slice ga nG gc, .slice da nD dc, .slice pa nP pc, .int .i64 mn] 26)) = V0 at *
  generalize w.heap.size = mb at *
  refine TW.seq ?_
  refine TW.sreg ?_
  refine WL.op rfl rfl rfl (W.quiet_load rfl rfl (fun W hW => by rw [hW]; exact ld_mod _ _ _ _ _ _ (CM 0 _ rfl) (CM 1 _ rfl) (CM 2 _ rfl) (CM 3 _ rfl))) ?_
  refine WL.call (hr := few_mod ga da pa nG nD nP gc dc pc mn m hnG hnD hnP hwd V0 (hm.fr F0)) rfl rfl rfl rfl rfl (fun W => cf_few W _) ?_
  rintro e V ⟨⟨t, rfl, hfew⟩, hf⟩
  refine ⟨_, rfl, ?_⟩
  refine WL.op rfl rfl rfl (W.quiet_not rfl rfl) ?_
  refine WL.nil ?_
  have HV := F0.trans hf
  have LM : ∀ W, Fr (fun _ => False) V W → (Instr.loadAt 26 (.pointer (some ⟨mb, 0, none⟩))).run Tryd.prog W = .ok (.agg #[.slice ga nG gc, .slice da nD dc, .slice pa nP pc, .int .i64 mn]) W := fun W hW => ld_mod _ _ _ _ _ _ (hW.cell (hf.cell (CM 0 _ rfl) id) id) (hW.cell (hf.cell (CM 1 _ rfl) id) id) (hW.cell (hf.cell (CM 2 _ rfl) id) id) (hW.cell (hf.cell (CM 3 _ rfl) id) id)
  have KW : ∀ W, Fr (fun _ => False) V W → Calls Tryd.prog 7 #[] W fun e w' => e = .returned (.bool true) ∧ Fr (fun _ => False) V w' := fun W hW => callQ hW (awake_of W (ht.fr (HV.trans hW) id))
  clear CM hf F0
  refine TW.to (fun W => Fr (fun _ => False) V W) (Fr.refl _ _) ?_
  refine T.sub (s' := (7, .bool (!t)) :: [(2, .pointer (some ⟨mb, 0, none⟩)), (1, .int .i64 n)]) ?_ (fun a h => by (repeat (refine Kn.cons h rfl ?_)); exact h.base)
  refine T.cond rfl (fun hb => ?_) (fun hb => ?_)
  · refine T.sreg [(4, .bool true)] ?_ (T.ret ?_)
    · refine W.op rfl rfl rfl (W.quiet_call (hr := KW) rfl rfl (fun W => cf_awk W _)) ?_
      refine W.op rfl rfl rfl (W.quiet_assign rfl rfl) ?_
      exact W.nil (fun a h => by (repeat (refine Kn.cons h rfl ?_)); exact h.base)
    · repeat (with_reducible first | refine Rt.thn ?_ | refine Rt.blk ?_)
      refine body_ret rfl rfl ?_
      exact fun W hW => ⟨rfl, HV.trans hW⟩
  refine T.skip ?_
  have hfm : m.few := hfew (by cases t <;> simp_all)
  have KC : ∀ W, Fr (fun _ => False) V W → Calls Tryd.prog 8 #[.agg #[.slice ga nG gc, .slice da nD dc, .slice pa nP pc, .int .i64 mn]] W fun e w' => e = .returned (.int .i64 (checkI m)) ∧ Fr (fun _ => False) V w' := fun W hW => callQ hW (check_any ga da pa nG nD nP gc dc pc mn m hnG hnD hnP hmn hfm hwd hdm W (hm.fr (HV.trans hW)))
  have KR : ∀ W, Fr (fun _ => False) V W → Calls Tryd.prog 9 #[.agg #[.slice ga nG gc, .slice da nD dc, .slice pa nP pc, .int .i64 mn]] W fun e w' => e = .returned (.int .i64 (checkI m)) ∧ Fr (fun _ => False) V w' := fun W hW => callQ hW (rcheck_any ga da pa nG nD nP gc dc pc mn m hnG hnD hnP hmn hfm hwd W (hm.fr (HV.trans hW)))
  have KP : ∀ W, Fr (fun _ => False) V W → Calls Tryd.prog 10 #[.agg #[.slice ga nG gc, .slice da nD dc, .slice pa nP pc, .int .i64 mn], .int .i64 n] W fun e w' => e = .returned (.int .i64 (procI m n)) ∧ Fr (fun _ => False) V w' := fun W hW => callQ hW (proc_any ga da pa nG nD nP gc dc pc mn n m hnG hnP hfm hwd W (hm.p.fr (HV.trans hW)))
  have KQ : ∀ W, Fr (fun _ => False) V W → Calls Tryd.prog 11 #[.agg #[.slice ga nG gc, .slice da nD dc, .slice pa nP pc, .int .i64 mn], .int .i64 n] W fun e w' => e = .returned (.int .i64 (procI m n)) ∧ Fr (fun _ => False) V w' := fun W hW => callQ hW (rproc_any ga da pa nG nD nP gc dc pc mn n m hnG hnP hfm hwd W (hm.p.fr (HV.trans hW)))
  generalize checkI m = ci at *
  generalize procI m n = pi at *
  have Bc : ∀ (x y : Operand) (W : World), (do eqGuard .eql 3 x y (.int .i64 ci) (.int .i64 ci); binOp .eql 3 (.int .i64 ci) (.int .i64 ci) : Sem Value).run Tryd.prog W = .ok (.bool true) W := fun x y W => by rw [bn_eq]; simp
  have Bp : ∀ (x y : Operand) (W : World), (do eqGuard .eql 3 x y (.int .i64 pi) (.int .i64 pi); binOp .eql 3 (.int .i64 pi) (.int .i64 pi) : Sem Value).run Tryd.prog W = .ok (.bool true) W := fun x y W => by rw [bn_eq]; simp
  refine T.sregD (by kernel_rfl) (by kernel_rfl) (fun W hW => hW.drewN 1) [(4, .bool true)] ?_ (T.ret ?_)
  ·
    refine W.op rfl rfl rfl (W.quiet_call (hr := KW) rfl rfl (fun W => cf_awk W _)) ?_
    refine W.op rfl rfl rfl (W.quiet_move rfl rfl) ?_
    first
    | refine W.skip rfl rfl rfl ?_
    | refine W.op rfl rfl rfl (W.quiet_load rfl rfl (by first | exact LM)) ?_
    first
    | refine W.skip rfl rfl rfl ?_
    | refine W.op rfl rfl rfl (W.quiet_call (hr := KC) rfl rfl (fun W => cf_chk W _)) ?_
    first
    | refine W.skip rfl rfl rfl ?_
    | refine W.op rfl rfl rfl (W.quiet_load rfl rfl (by first | exact LM)) ?_
    first
    | refine W.skip rfl rfl rfl ?_
    | refine W.op rfl rfl rfl (W.quiet_call (hr := KR) rfl rfl (fun W => cf_rchk W _)) ?_
    first
    | refine W.skip rfl rfl rfl ?_
    | refine W.op rfl rfl rfl (W.quiet_bin rfl rfl rfl (by first | exact Bc _ _ | exact Bp _ _)) ?_
    refine W.op rfl rfl rfl (W.quiet_pick rfl rfl rfl) ?_
    refine W.op rfl rfl rfl (W.quiet_move rfl rfl) ?_
    first
    | refine W.skip rfl rfl rfl ?_
    | refine W.op rfl rfl rfl (W.quiet_load rfl rfl (by first | exact LM)) ?_
    first
    | refine W.skip rfl rfl rfl ?_
    | refine W.op rfl rfl rfl (W.quiet_move rfl rfl) ?_
    first
    | refine W.skip rfl rfl rfl ?_
    | refine W.op rfl rfl rfl (W.quiet_call (hr := KP) rfl rfl (fun W => cf_prc W _)) ?_
    first
    | refine W.skip rfl rfl rfl ?_
    | refine W.op rfl rfl rfl (W.quiet_load rfl rfl (by first | exact LM)) ?_
    first
    | refine W.skip rfl rfl rfl ?_
    | refine W.op rfl rfl rfl (W.quiet_move rfl rfl) ?_
    first
    | refine W.skip rfl rfl rfl ?_
    | refine W.op rfl rfl rfl (W.quiet_call (hr := KQ) rfl rfl (fun W => cf_proc W _)) ?_
    first
    | refine W.skip rfl rfl rfl ?_
    | refine W.op rfl rfl rfl (W.quiet_bin rfl rfl rfl (by first | exact Bc _ _ | exact Bp _ _)) ?_
    refine W.op rfl rfl rfl (W.quiet_pick rfl rfl rfl) ?_
    refine W.op rfl rfl rfl (W.quiet_assign rfl rfl) ?_
    exact W.nil (fun a h => by (repeat (refine Kn.cons h rfl ?_)); exact h.base)
  · repeat (with_reducible first | refine Rt.thn ?_ | refine Rt.blk ?_)
    refine body_ret rfl rfl ?_
    exact fun W hW => ⟨rfl, HV.trans hW⟩
end Go.Proofs.YtdhagimcffmdfaaDoor
