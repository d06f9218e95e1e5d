/-
  Modules (layer 13): the document's own Proc of any few module.
-/
import Derived.Test.YtdhagimcffmdfaaDoorQRins
import Derived.Test.YtdhagimcffmdfaaDoorQFr
import Derived.Test.YtdhagimcffmdfaaDoorQChkG
namespace Go.Proofs.YtdhagimcffmdfaaDoor
open Go.RowKit
set_option linter.unusedVariables false
set_option linter.unusedSimpArgs false
theorem isR_eq {P : Prop} {e : Ending} {b : Bool} (h : IsR P e) (hb : b = true ↔ P) : e = .returned (.bool b) := by
  obtain ⟨t, rfl, ht⟩ := h
  have : t = b := by cases t <;> cases b <;> simp_all
  rw [this]
theorem T.tw {P : Program} {C : World → Prop} {N : Nat} {Q : Exit → Act → World → Prop} {s : List (Nat × Value)} {c : Code} (h : ∀ w, C w → TW P N Q s c w) : T P C N Q s c := fun a w k hw => h w hw a k
theorem rvins_any (ga pa oa : Option Addr) (nG nP nO gc pc oc : Nat) (da mn nm vd pr bl : Value) (R : Int) (hR : 0 ≤ R ∧ R ≤ 8000) (m : Mdl) (hnP : nP = m.pr.length) (x0 x1 x2 x3 x4 x5 x6 x7 u : Int) (aa : Option Addr) (na ac : Nat) (args : List Int) (lg : Bool) (hna : na = args.length) (hnb : na ≤ 9223372036854775807) (w : World) (hp : PrcL w pa m.pr) (hat : IntsAt w aa args) : Calls Tryd.prog 32 #[.agg #[.slice ga nG gc, da, .slice pa nP pc, mn], .agg #[nm, vd, pr, .int .i64 R, .slice oa nO oc, bl], .agg #[.int .i64 x0, .int .i64 x1, .int .i64 x2, .int .i64 x3, .int .i64 x4, .int .i64 x5, .int .i64 x6, .int .i64 x7, .int .u32 u, .slice aa na ac, .bool lg]] w fun e w' => IsR (InsV m R nO nG nP ⟨x0, x1, x2, x3, x4, x5, x6, x7, u, args, lg⟩) e ∧ Fr (fun _ => False) w w' := by
  refine rins_any ga pa oa nG nP nO gc pc oc da mn nm vd pr bl R hR _ _ x0 x1 x2 x3 x4 x5 x6 x7 u aa na ac args hna lg w hnb hat (fun h => ?_)
  obtain ⟨k, rfl⟩ := Int.eq_ofNat_of_zero_le h.1
  have hk : k < nP := by omega
  obtain ⟨g, ofs, e, _, q1, q2, _⟩ := hp k (by omega)
  exact ⟨g, ofs, k, rfl, hk, e, by simpa [calV] using q1, by simpa [calP] using q2⟩
set_option maxRecDepth 100000 in
set_option maxHeartbeats 16000000 in
theorem rproc_any (ga da pa : Option Addr) (nG nD nP gc dc pc : Nat) (mn n : Int) (m : Mdl) (hnG : nG = m.gl.length) (hnP : nP = m.pr.length) (hfew : m.few) (hwd : m.wide) (w : World) (hp : PrcL w pa m.pr) : Calls Tryd.prog 11 #[.agg #[.slice ga nG gc, .slice da nD dc, .slice pa nP pc, .int .i64 mn], .int .i64 n] w fun e w' => e = .returned (.int .i64 (procI m n)) ∧ Fr (fun _ => False) w w' := by
  obtain ⟨lo, hlo⟩ : ∃ b, decide (n < 0) = b := ⟨_, rfl⟩
  obtain ⟨hi, hhi⟩ : ∃ b, decide ((nP : Int) ≤ n) = b := ⟨_, rfl⟩
  have Blo : ∀ (x y : Operand) (W : World), (do eqGuard .lss 3 x y (.int .i64 n) (.int .i64 0); binOp .lss 3 (.int .i64 n) (.int .i64 0) : Sem Value).run Tryd.prog W = .ok (.bool lo) W := fun x y W => by rw [← hlo]; exact bn_lt n 0 x y W
  have Bhi : ∀ (x y : Operand) (W : World), (do eqGuard .geq 3 x y (.int .i64 n) (.int .i64 (nP : Int)); binOp .geq 3 (.int .i64 n) (.int .i64 (nP : Int)) : Sem Value).run Tryd.prog W = .ok (.bool hi) W := fun x y W => by rw [← hhi]; exact bn_ge n (nP : Int) x y W
  have hin : (lo || hi) = false ↔ 0 ≤ n ∧ n < nP := by rw [← hlo, ← hhi]; simp <;> omega
  clear hlo hhi
  refine calls_tw Tryd.func11 rfl rfl (Nat.le_of_ble_eq_true rfl) ?_
  refine TW.sreg ?_
  refine WL.box rfl rfl rfl rfl rfl (bx_mod _ _ rfl) ?_
  refine WL.op rfl rfl rfl (W.quiet_assign rfl rfl) ?_
  refine WL.nil ?_
  have F0 := fr_al (Fr.refl (fun _ => False) w) (.cells #[.slice ga nG gc, .slice da nD dc, .slice pa nP pc, .int .i64 mn] 26)
  have CM := fun (j : Nat) (y : Value) (h : (#[.slice ga nG gc, .slice da nD dc, .slice pa nP pc, .int .i64 mn] : Array Value)[j]? = some y) => fcell w #[.slice ga nG gc, .slice da nD dc, .slice pa nP pc, .int .i64 mn] 26 j y h
  generalize (w.alloc (.cells #[.slice ga nG gc, .slice da nD dc, .slice pa nP pc, .int .i64 mn] 26)) = V at *
  generalize w.heap.size = mb at *
  have LMP : ∀ W, Fr (fun _ => False) V W → (Instr.loadAt 24 (.pointer (some ⟨mb, 2, none⟩))).run Tryd.prog W = .ok (.slice pa nP pc) W := fun W hW => ld_procs _ _ _ _ _ (hW.cell (CM 2 _ rfl) id)
  refine TW.to (fun W => Fr (fun _ => False) V W) (Fr.refl _ _) ?_
  refine T.sub (s' := [(2, .pointer (some ⟨mb, 0, none⟩)), (1, .int .i64 n)]) ?_ (fun a h => by (repeat (refine Kn.cons h rfl ?_)); exact h.base)
  refine T.seq ?_
  refine T.sreg ((17, .bool (lo || hi)) :: [(2, .pointer (some ⟨mb, 0, none⟩)), (1, .int .i64 n)]) ?_ ?_
  · cases lo <;> cases hi
    all_goals
      refine W.op rfl rfl rfl (W.quiet_move rfl rfl) ?_
      refine W.op rfl rfl rfl (W.quiet_bin rfl rfl rfl (by first | exact Blo _ _ | exact Bhi _ _)) ?_
      refine W.op rfl rfl rfl (W.quiet_move rfl rfl) ?_
      first
      | refine W.skip rfl rfl rfl ?_
      | refine W.op rfl rfl rfl (W.quiet_move rfl rfl) ?_
      first
      | refine W.skip rfl rfl rfl ?_
      | refine W.op rfl rfl rfl (W.quiet_field rfl rfl (fun W => fm2 _ W)) ?_
      first
      | refine W.skip rfl rfl rfl ?_
      | refine W.op rfl rfl rfl (W.quiet_load rfl rfl (by first | exact LMP)) ?_
      first
      | refine W.skip rfl rfl rfl ?_
      | refine W.op rfl rfl rfl (W.quiet_len rfl rfl (fun W => ln_p W _ _ _)) ?_
      first
      | refine W.skip rfl rfl rfl ?_
      | refine W.op rfl rfl rfl (W.quiet_bin rfl rfl rfl (by first | exact Blo _ _ | exact Bhi _ _)) ?_
      refine W.op rfl rfl rfl (W.quiet_pick rfl rfl rfl) ?_
      exact W.nil (fun a h => by (repeat (refine Kn.cons h rfl ?_)); exact h.base)
  generalize (lo || hi) = p at *
  refine T.cond rfl (fun hb => ?_) (fun hb => ?_)
  ·
    refine T.sreg [(4, .int .i64 4)] ?_ (T.ret ?_)
    · refine W.op rfl rfl rfl (W.quiet_assign rfl rfl) ?_
      exact W.nil (fun a h => by (repeat (refine Kn.cons h rfl ?_)); exact h.base)
    · repeat (with_reducible first | refine Rt.thn ?_ | refine Rt.blk ?_)
      refine body_ret rfl rfl ?_
      exact fun W hW => ⟨by rw [procI_no (m := m) (n := n) (by rw [← hnP]; intro q; rw [hin.2 q] at hb; cases hb)], F0.trans hW⟩
  refine T.skip ?_
  have hin' := hin.1 hb
  clear hin hb Blo Bhi
  obtain ⟨k, rfl⟩ := Int.eq_ofNat_of_zero_le hin'.1
  have hk : k < nP := by omega
  have hkl : k < m.pr.length := by omega
  clear hin'
  obtain ⟨g, ofs, rfl, c0, c1, c2, c3, ⟨oa, oc, c4, hs⟩, ⟨ab, bc, c5, hb⟩⟩ := hp k hkl
  have hpf := hfew.f k hkl
  have hpw := hwd.w _ (getD_memP hkl)
  have HPI := Lib.hid (And.intro (fun q => procI_ok hkl q) (fun q => procI_bad hkl q))
  obtain ⟨p, hpe⟩ : ∃ p, m.pr.getD k prc0 = p := ⟨_, rfl⟩
  rw [hpe] at c0 c1 c2 c3 c4 c5 hs hb hpf hpw HPI
  obtain ⟨nm, vd, pr, R, ol, bl⟩ := p
  have hB := hpf.b
  have hO := hpf.o
  have hfb := hpf.f
  have hwb := hpw.w
  simp only at c0 c1 c2 c3 c4 c5 hs hb hB hO hfb hwb
  obtain ⟨nO, hnO⟩ : ∃ nO, nO = ol.length := ⟨_, rfl⟩
  obtain ⟨nB, hnB⟩ : ∃ nB, nB = bl.length := ⟨_, rfl⟩
  rw [← hnO] at c4
  rw [← hnB] at c5
  have LPK : ∀ W, Fr (fun _ => False) V W → (Instr.loadAt 50 (.pointer (some ⟨g, ofs + k * 6, none⟩))).run Tryd.prog W = .ok (.agg #[.string nm, .bool vd, .int .i64 pr, .int .i64 R, .slice oa nO oc, .slice ab nB bc]) W := fun W hW => ld_prc _ _ _ _ _ _ _ _ _ (hW.cell (F0.cell c0 id) id) (hW.cell (F0.cell c1 id) id) (hW.cell (F0.cell c2 id) id) (hW.cell (F0.cell c3 id) id) (hW.cell (F0.cell c4 id) id) (hW.cell (F0.cell c5 id) id)
  have IXP := fun W => ixp W g ofs nP pc k hk
  refine T.tw fun w2 hw2 => ?_
  refine TW.sreg ?_
  refine WL.op rfl rfl rfl (W.quiet_field rfl rfl (fun W => fm2 _ W)) ?_
  refine WL.op rfl rfl rfl (W.quiet_load rfl rfl (fun W hW => by rw [hW]; exact LMP w2 hw2)) ?_
  refine WL.op rfl rfl rfl (W.quiet_move rfl rfl) ?_
  refine WL.op rfl rfl rfl (W.quiet_index rfl rfl rfl IXP) ?_
  refine WL.op rfl rfl rfl (W.quiet_load rfl rfl (fun W hW => by rw [hW]; exact LPK w2 hw2)) ?_
  refine WL.alloc rfl rfl rfl rfl (al_prc _) ?_
  refine WL.store rfl rfl rfl rfl rfl (st_prc _ _ _ _ _ _ _ _ _ _ _) ?_
  refine WL.nil ?_
  have HV := F0.trans (hw2.trans (fr_al (Fr.refl (fun _ => False) w2) (.cells #[.string nm, .bool vd, .int .i64 pr, .int .i64 R, .slice oa nO oc, .slice ab nB bc] 50)))
  have CM3 := fun (j : Nat) (y : Value) (h : (#[.slice ga nG gc, .slice da nD dc, .slice (some ⟨g, ofs, none⟩) nP pc, .int .i64 mn] : Array Value)[j]? = some y) => (hw2.trans (fr_al (Fr.refl (fun _ => False) w2) (.cells #[.string nm, .bool vd, .int .i64 pr, .int .i64 R, .slice oa nO oc, .slice ab nB bc] 50))).cell (CM j y h) id
  have CP := fun (j : Nat) (y : Value) (h : (#[.string nm, .bool vd, .int .i64 pr, .int .i64 R, .slice oa nO oc, .slice ab nB bc] : Array Value)[j]? = some y) => fcell w2 #[.string nm, .bool vd, .int .i64 pr, .int .i64 R, .slice oa nO oc, .slice ab nB bc] 50 j y h
  generalize (w2.alloc (.cells #[.string nm, .bool vd, .int .i64 pr, .int .i64 R, .slice oa nO oc, .slice ab nB bc] 50)) = w3 at *
  generalize w2.heap.size = b5 at *
  refine TW.to (fun W => Fr (fun _ => False) w3 W) (Fr.refl _ _) ?_
  refine T.sub (s' := [(2, .pointer (some ⟨mb, 0, none⟩)), (5, .pointer (some ⟨b5, 0, none⟩))]) ?_ (fun a h => by (repeat (refine Kn.cons h rfl ?_)); exact h.base)
  clear F0 CM hw2 LMP LPK IXP V c0 c1 c2 c3 c4 c5
  have LM : ∀ W, Fr (fun _ => False) w3 W → (Instr.loadAt 26 (.pointer (some ⟨mb, 0, none⟩))).run Tryd.prog W = .ok (.agg #[.slice ga nG gc, .slice da nD dc, .slice (some ⟨g, ofs, none⟩) nP pc, .int .i64 mn]) W := fun W hW => ld_mod _ _ _ _ _ _ (hW.cell (CM3 0 _ rfl) id) (hW.cell (CM3 1 _ rfl) id) (hW.cell (CM3 2 _ rfl) id) (hW.cell (CM3 3 _ rfl) id)
  have LP : ∀ W, Fr (fun _ => False) w3 W → (Instr.loadAt 50 (.pointer (some ⟨b5, 0, none⟩))).run Tryd.prog W = .ok (.agg #[.string nm, .bool vd, .int .i64 pr, .int .i64 R, .slice oa nO oc, .slice ab nB bc]) W := fun W hW => ld_proc _ _ _ _ _ _ _ _ (hW.cell (CP 0 _ rfl) id) (hW.cell (CP 1 _ rfl) id) (hW.cell (CP 2 _ rfl) id) (hW.cell (CP 3 _ rfl) id) (hW.cell (CP 4 _ rfl) id) (hW.cell (CP 5 _ rfl) id)
  have LPA : ∀ W, Fr (fun _ => False) w3 W → (Instr.loadAt 3 (.pointer (some ⟨b5, 0 + 2, none⟩))).run Tryd.prog W = .ok (.int .i64 pr) W := fun W hW => ld_int _ _ _ (hW.cell (CP 2 _ rfl) id)
  have LPR : ∀ W, Fr (fun _ => False) w3 W → (Instr.loadAt 3 (.pointer (some ⟨b5, 0 + 3, none⟩))).run Tryd.prog W = .ok (.int .i64 R) W := fun W hW => ld_int _ _ _ (hW.cell (CP 3 _ rfl) id)
  have LPO : ∀ W, Fr (fun _ => False) w3 W → (Instr.loadAt 22 (.pointer (some ⟨b5, 0 + 4, none⟩))).run Tryd.prog W = .ok (.slice oa nO oc) W := fun W hW => ld_slots _ _ _ _ _ (hW.cell (CP 4 _ rfl) id)
  have LPB : ∀ W, Fr (fun _ => False) w3 W → (Instr.loadAt 48 (.pointer (some ⟨b5, 0 + 5, none⟩))).run Tryd.prog W = .ok (.slice ab nB bc) W := fun W hW => ld_blks _ _ _ _ _ (hW.cell (CP 5 _ rfl) id)
  clear CM3 CP
  obtain ⟨l0, hl0⟩ : ∃ b, (decide (pr < 0)) = b := ⟨_, rfl⟩
  have Bl0 : ∀ (x y : Operand) (W : World), (do eqGuard .lss 3 x y (.int .i64 pr) (.int .i64 0); binOp .lss 3 (.int .i64 pr) (.int .i64 0) : Sem Value).run Tryd.prog W = .ok (.bool l0) W := fun x y W => by rw [← hl0]; exact bn_lt pr 0 x y W
  obtain ⟨g6, hg6⟩ : ∃ b, (decide (6 < pr)) = b := ⟨_, rfl⟩
  have Bg6 : ∀ (x y : Operand) (W : World), (do eqGuard .gtr 3 x y (.int .i64 pr) (.int .i64 6); binOp .gtr 3 (.int .i64 pr) (.int .i64 6) : Sem Value).run Tryd.prog W = .ok (.bool g6) W := fun x y W => by rw [← hg6]; exact bn_gt pr 6 x y W
  obtain ⟨lR, hlR⟩ : ∃ b, (decide (R < pr)) = b := ⟨_, rfl⟩
  have BlR : ∀ (x y : Operand) (W : World), (do eqGuard .lss 3 x y (.int .i64 R) (.int .i64 pr); binOp .lss 3 (.int .i64 R) (.int .i64 pr) : Sem Value).run Tryd.prog W = .ok (.bool lR) W := fun x y W => by rw [← hlR]; exact bn_lt R pr x y W
  obtain ⟨g8, hg8⟩ : ∃ b, (decide (8000 < R)) = b := ⟨_, rfl⟩
  have Bg8 : ∀ (x y : Operand) (W : World), (do eqGuard .gtr 3 x y (.int .i64 R) (.int .i64 8000); binOp .gtr 3 (.int .i64 R) (.int .i64 8000) : Sem Value).run Tryd.prog W = .ok (.bool g8) W := fun x y W => by rw [← hg8]; exact bn_gt R 8000 x y W
  obtain ⟨lB, hlB⟩ : ∃ b, (decide ((nB : Int) < 1)) = b := ⟨_, rfl⟩
  have BlB : ∀ (x y : Operand) (W : World), (do eqGuard .lss 3 x y (.int .i64 (nB : Int)) (.int .i64 1); binOp .lss 3 (.int .i64 (nB : Int)) (.int .i64 1) : Sem Value).run Tryd.prog W = .ok (.bool lB) W := fun x y W => by rw [← hlB]; exact bn_lt (nB : Int) 1 x y W
  obtain ⟨gB, hgB⟩ : ∃ b, (decide (4000 < (nB : Int))) = b := ⟨_, rfl⟩
  have BgB : ∀ (x y : Operand) (W : World), (do eqGuard .gtr 3 x y (.int .i64 (nB : Int)) (.int .i64 4000); binOp .gtr 3 (.int .i64 (nB : Int)) (.int .i64 4000) : Sem Value).run Tryd.prog W = .ok (.bool gB) W := fun x y W => by rw [← hgB]; exact bn_gt (nB : Int) 4000 x y W
  obtain ⟨bS, hS⟩ := bool_ex (SltsP ol)
  have KS : ∀ W, Fr (fun _ => False) w3 W → Calls Tryd.prog 25 #[.slice oa nO oc, .int .i64 400] W fun e w' => e = .returned (.bool bS) ∧ Fr (fun _ => False) w3 w' := fun W hW => (rslts ol oa nO oc 400 hnO (by omega) (by omega) (by omega) W (hs.fr (HV.trans hW))).mono fun e w' q => ⟨isR_eq q.1 hS, by rw [← q.2]; exact hW⟩
  obtain ⟨c4, hc4⟩ : ∃ b, (l0 || g6 || lR || g8 || !bS || lB || gB) = b := ⟨_, rfl⟩
  have hOV : c4 = false ↔ OutV pr R nB ol := by
    unfold OutV
    rw [← hc4, ← hl0, ← hg6, ← hlR, ← hg8, ← hlB, ← hgB, ← hS]
    cases bS <;> simp <;> omega
  have HPF : PrcF m ⟨nm, vd, pr, R, ol, bl⟩ ↔ OutV pr R nB ol ∧ BlksP m vd R nO nG nP nB bl := by subst hnO hnB hnG hnP; exact Iff.rfl
  clear hl0 hg6 hlR hg8 hlB hgB
  refine T.seq ?_
  refine T.sreg ((60, .bool (l0 || g6 || lR || g8 || !bS || lB || gB)) :: [(2, .pointer (some ⟨mb, 0, none⟩)), (5, .pointer (some ⟨b5, 0, none⟩))]) ?_ ?_
  ·
    refine W.cut 4 ((26, .bool (l0)) :: [(2, .pointer (some ⟨mb, 0, none⟩)), (5, .pointer (some ⟨b5, 0, none⟩))]) ?_ ?_
    · cases l0
      all_goals
        refine W.op rfl rfl rfl (W.quiet_field rfl rfl (fun W => fp2 _ _ W)) ?_
        refine W.op rfl rfl rfl (W.quiet_load rfl rfl (by first | exact LPA | exact LPR | exact LPO | exact LPB | exact LP | exact LM)) ?_
        refine W.op rfl rfl rfl (W.quiet_bin rfl rfl rfl (by first | exact Bl0 _ _ | exact Bg6 _ _ | exact BlR _ _ | exact Bg8 _ _ | exact BlB _ _ | exact BgB _ _)) ?_
        refine W.op rfl rfl rfl (W.quiet_move rfl rfl) ?_
        exact W.nil (fun a h => by (repeat (refine Kn.cons h rfl ?_)); exact h.base)
    refine W.cut 5 ((31, .bool (l0 || g6)) :: [(2, .pointer (some ⟨mb, 0, none⟩)), (5, .pointer (some ⟨b5, 0, none⟩))]) ?_ ?_
    · generalize (l0) = p at *
      cases p <;> cases g6
      all_goals
        first
        | refine W.skip rfl rfl rfl ?_
        | refine W.op rfl rfl rfl (W.quiet_field rfl rfl (fun W => fp2 _ _ W)) ?_
        first
        | refine W.skip rfl rfl rfl ?_
        | refine W.op rfl rfl rfl (W.quiet_load rfl rfl (by first | exact LPA | exact LPR | exact LPO | exact LPB | exact LP | exact LM)) ?_
        first
        | refine W.skip rfl rfl rfl ?_
        | refine W.op rfl rfl rfl (W.quiet_bin rfl rfl rfl (by first | exact Bl0 _ _ | exact Bg6 _ _ | exact BlR _ _ | exact Bg8 _ _ | exact BlB _ _ | exact BgB _ _)) ?_
        refine W.op rfl rfl rfl (W.quiet_pick rfl rfl rfl) ?_
        refine W.op rfl rfl rfl (W.quiet_move rfl rfl) ?_
        exact W.nil (fun a h => by (repeat (refine Kn.cons h rfl ?_)); exact h.base)
    refine W.cut 7 ((38, .bool (l0 || g6 || lR)) :: [(2, .pointer (some ⟨mb, 0, none⟩)), (5, .pointer (some ⟨b5, 0, none⟩))]) ?_ ?_
    · generalize (l0 || g6) = p at *
      cases p <;> cases lR
      all_goals
        first
        | refine W.skip rfl rfl rfl ?_
        | refine W.op rfl rfl rfl (W.quiet_field rfl rfl (fun W => fp3 W _ _)) ?_
        first
        | refine W.skip rfl rfl rfl ?_
        | refine W.op rfl rfl rfl (W.quiet_load rfl rfl (by first | exact LPA | exact LPR | exact LPO | exact LPB | exact LP | exact LM)) ?_
        first
        | refine W.skip rfl rfl rfl ?_
        | refine W.op rfl rfl rfl (W.quiet_field rfl rfl (fun W => fp2 _ _ W)) ?_
        first
        | refine W.skip rfl rfl rfl ?_
        | refine W.op rfl rfl rfl (W.quiet_load rfl rfl (by first | exact LPA | exact LPR | exact LPO | exact LPB | exact LP | exact LM)) ?_
        first
        | refine W.skip rfl rfl rfl ?_
        | refine W.op rfl rfl rfl (W.quiet_bin rfl rfl rfl (by first | exact Bl0 _ _ | exact Bg6 _ _ | exact BlR _ _ | exact Bg8 _ _ | exact BlB _ _ | exact BgB _ _)) ?_
        refine W.op rfl rfl rfl (W.quiet_pick rfl rfl rfl) ?_
        refine W.op rfl rfl rfl (W.quiet_move rfl rfl) ?_
        exact W.nil (fun a h => by (repeat (refine Kn.cons h rfl ?_)); exact h.base)
    refine W.cut 5 ((43, .bool (l0 || g6 || lR || g8)) :: [(2, .pointer (some ⟨mb, 0, none⟩)), (5, .pointer (some ⟨b5, 0, none⟩))]) ?_ ?_
    · generalize (l0 || g6 || lR) = p at *
      cases p <;> cases g8
      all_goals
        first
        | refine W.skip rfl rfl rfl ?_
        | refine W.op rfl rfl rfl (W.quiet_field rfl rfl (fun W => fp3 W _ _)) ?_
        first
        | refine W.skip rfl rfl rfl ?_
        | refine W.op rfl rfl rfl (W.quiet_load rfl rfl (by first | exact LPA | exact LPR | exact LPO | exact LPB | exact LP | exact LM)) ?_
        first
        | refine W.skip rfl rfl rfl ?_
        | refine W.op rfl rfl rfl (W.quiet_bin rfl rfl rfl (by first | exact Bl0 _ _ | exact Bg6 _ _ | exact BlR _ _ | exact Bg8 _ _ | exact BlB _ _ | exact BgB _ _)) ?_
        refine W.op rfl rfl rfl (W.quiet_pick rfl rfl rfl) ?_
        refine W.op rfl rfl rfl (W.quiet_move rfl rfl) ?_
        exact W.nil (fun a h => by (repeat (refine Kn.cons h rfl ?_)); exact h.base)
    refine W.cut 6 ((49, .bool (l0 || g6 || lR || g8 || !bS)) :: [(2, .pointer (some ⟨mb, 0, none⟩)), (5, .pointer (some ⟨b5, 0, none⟩))]) ?_ ?_
    · generalize (l0 || g6 || lR || g8) = p at *
      cases p <;> cases bS
      all_goals
        first
        | refine W.skip rfl rfl rfl ?_
        | refine W.op rfl rfl rfl (W.quiet_field rfl rfl (fun W => fp4 _ _ W)) ?_
        first
        | refine W.skip rfl rfl rfl ?_
        | refine W.op rfl rfl rfl (W.quiet_load rfl rfl (by first | exact LPA | exact LPR | exact LPO | exact LPB | exact LP | exact LM)) ?_
        first
        | refine W.skip rfl rfl rfl ?_
        | refine W.op rfl rfl rfl (W.quiet_call (hr := KS) rfl rfl (fun W => cf_slots W _)) ?_
        first
        | refine W.skip rfl rfl rfl ?_
        | refine W.op rfl rfl rfl (W.quiet_not rfl rfl) ?_
        refine W.op rfl rfl rfl (W.quiet_pick rfl rfl rfl) ?_
        refine W.op rfl rfl rfl (W.quiet_move rfl rfl) ?_
        exact W.nil (fun a h => by (repeat (refine Kn.cons h rfl ?_)); exact h.base)
    refine W.cut 6 ((55, .bool (l0 || g6 || lR || g8 || !bS || lB)) :: [(2, .pointer (some ⟨mb, 0, none⟩)), (5, .pointer (some ⟨b5, 0, none⟩))]) ?_ ?_
    · generalize (l0 || g6 || lR || g8 || !bS) = p at *
      cases p <;> cases lB
      all_goals
        first
        | refine W.skip rfl rfl rfl ?_
        | refine W.op rfl rfl rfl (W.quiet_field rfl rfl (fun W => fp5 W _ _)) ?_
        first
        | refine W.skip rfl rfl rfl ?_
        | refine W.op rfl rfl rfl (W.quiet_load rfl rfl (by first | exact LPA | exact LPR | exact LPO | exact LPB | exact LP | exact LM)) ?_
        first
        | refine W.skip rfl rfl rfl ?_
        | refine W.op rfl rfl rfl (W.quiet_len rfl rfl (fun W => ln_b W _ _ _)) ?_
        first
        | refine W.skip rfl rfl rfl ?_
        | refine W.op rfl rfl rfl (W.quiet_bin rfl rfl rfl (by first | exact Bl0 _ _ | exact Bg6 _ _ | exact BlR _ _ | exact Bg8 _ _ | exact BlB _ _ | exact BgB _ _)) ?_
        refine W.op rfl rfl rfl (W.quiet_pick rfl rfl rfl) ?_
        refine W.op rfl rfl rfl (W.quiet_move rfl rfl) ?_
        exact W.nil (fun a h => by (repeat (refine Kn.cons h rfl ?_)); exact h.base)
    generalize (l0 || g6 || lR || g8 || !bS || lB) = p at *
    cases p <;> cases gB
    all_goals
      first
      | refine W.skip rfl rfl rfl ?_
      | refine W.op rfl rfl rfl (W.quiet_field rfl rfl (fun W => fp5 W _ _)) ?_
      first
      | refine W.skip rfl rfl rfl ?_
      | refine W.op rfl rfl rfl (W.quiet_load rfl rfl (by first | exact LPA | exact LPR | exact LPO | exact LPB | exact LP | exact LM)) ?_
      first
      | refine W.skip rfl rfl rfl ?_
      | refine W.op rfl rfl rfl (W.quiet_len rfl rfl (fun W => ln_b W _ _ _)) ?_
      first
      | refine W.skip rfl rfl rfl ?_
      | refine W.op rfl rfl rfl (W.quiet_bin rfl rfl rfl (by first | exact Bl0 _ _ | exact Bg6 _ _ | exact BlR _ _ | exact Bg8 _ _ | exact BlB _ _ | exact BgB _ _)) ?_
      refine W.op rfl rfl rfl (W.quiet_pick rfl rfl rfl) ?_
      exact W.nil (fun a h => by (repeat (refine Kn.cons h rfl ?_)); exact h.base)
  rw [hc4]
  clear hc4
  refine T.cond rfl (fun hb => ?_) (fun hb => ?_)
  ·
    refine T.sreg [(4, .int .i64 3)] ?_ (T.ret ?_)
    · refine W.op rfl rfl rfl (W.quiet_assign rfl rfl) ?_
      exact W.nil (fun a h => by (repeat (refine Kn.cons h rfl ?_)); exact h.base)
    · repeat (with_reducible first | refine Rt.thn ?_ | refine Rt.blk ?_)
      refine body_ret rfl rfl ?_
      exact fun W hW => ⟨by rw [HPI.out.2 (fun q => by rw [hOV.2 (HPF.1 q).1] at hb; cases hb)], HV.trans hW⟩
  refine T.skip ?_
  have hOK := hOV.1 hb
  have hR : 0 ≤ R ∧ R ≤ 8000 := ⟨by have := hOK.1; have := hOK.2.1; omega, by have := hOK.2.1; omega⟩
  have hcnt : ∀ k, k ≤ bl.length → cntL bl k ≤ 60 * k := fun k hk => cnt60 bl hfb k hk
  clear hOV hb hpf hpw hpe hkl Bl0 Bg6 BlR Bg8 BlB BgB KS hS
  refine T.sreg ((6, .int .i64 ((cntL bl 0 : Nat) : Int)) :: [(2, .pointer (some ⟨mb, 0, none⟩)), (5, .pointer (some ⟨b5, 0, none⟩))]) ?_ ?_
  ·
    refine W.op rfl rfl rfl (W.quiet_assign rfl rfl) ?_
    exact W.nil (fun a h => by (repeat (refine Kn.cons h rfl ?_)); exact h.base)
  refine T.seq ?_
  refine T.sreg ((7, .int .i64 ((0 : Nat) : Int)) :: (6, .int .i64 ((cntL bl 0 : Nat) : Int)) :: [(2, .pointer (some ⟨mb, 0, none⟩)), (5, .pointer (some ⟨b5, 0, none⟩))]) ?_ ?_
  ·
    refine W.op rfl rfl rfl (W.quiet_assign rfl rfl) ?_
    exact W.nil (fun a h => by (repeat (refine Kn.cons h rfl ?_)); exact h.base)
  refine T.block ?_
  refine T.loop (t := 7) (n := nB) (fun i => (7, .int .i64 ((i : Nat) : Int)) :: (6, .int .i64 ((cntL bl i : Nat) : Int)) :: [(2, .pointer (some ⟨mb, 0, none⟩)), (5, .pointer (some ⟨b5, 0, none⟩))]) (fun i => ∀ k, k < i → BlkV m vd R nO nG nP nB (bl.getD k bk0)) (fun i => rfl) (fun a h => h) (fun k hk => absurd hk (by omega)) ?_
  intro i hi hJ
  have Bli := fun x y W => bn_lt (i : Int) (nB : Int) x y W
  refine T.seq ?_
  refine T.sreg ((65, .bool (decide ((i : Int) < (nB : Int)))) :: (7, .int .i64 ((i : Nat) : Int)) :: (6, .int .i64 ((cntL bl i : Nat) : Int)) :: [(2, .pointer (some ⟨mb, 0, none⟩)), (5, .pointer (some ⟨b5, 0, none⟩))]) ?_ ?_
  ·
    refine W.op rfl rfl rfl (W.quiet_move rfl rfl) ?_
    refine W.op rfl rfl rfl (W.quiet_field rfl rfl (fun W => fp5 W _ _)) ?_
    refine W.op rfl rfl rfl (W.quiet_load rfl rfl (by first | exact LPB)) ?_
    refine W.op rfl rfl rfl (W.quiet_len rfl rfl (fun W => ln_b W _ _ _)) ?_
    refine W.op rfl rfl rfl (W.quiet_bin rfl rfl rfl (by first | exact Bli _ _)) ?_
    exact W.nil (fun a h => by (repeat (refine Kn.cons h rfl ?_)); exact h.base)
  refine T.cond rfl (fun hlt => ?_) (fun hge => ?_)
  rotate_left
  · have hin : i = nB := by have := of_decide_eq_false hge; omega
    have hc := hcnt nB (by omega)
    have Bg : ∀ (x y : Operand) (W : World), (do eqGuard .gtr 3 x y (.int .i64 ((cntL bl i : Nat) : Int)) (.int .i64 20000); binOp .gtr 3 (.int .i64 ((cntL bl i : Nat) : Int)) (.int .i64 20000) : Sem Value).run Tryd.prog W = .ok (.bool false) W := fun x y W => by rw [bn_gt]; rw [decide_eq_false]; rw [hin]; omega
    refine T.exit ?_
    repeat (with_reducible refine Xt.thn ?_)
    refine Xt.hit ?_
    refine Xt.nrm ?_
    refine T.seq ?_
    refine T.sreg [(110, .bool false)] ?_ ?_
    ·
      refine W.op rfl rfl rfl (W.quiet_move rfl rfl) ?_
      refine W.op rfl rfl rfl (W.quiet_bin rfl rfl rfl (by first | exact Bg _ _)) ?_
      exact W.nil (fun a h => by (repeat (refine Kn.cons h rfl ?_)); exact h.base)
    refine T.cond rfl (fun e => by cases e) (fun _ => ?_)
    refine T.skip ?_
    refine T.sreg [(4, .int .i64 0)] ?_ (T.ret ?_)
    · refine W.op rfl rfl rfl (W.quiet_assign rfl rfl) ?_
      exact W.nil (fun a h => by (repeat (refine Kn.cons h rfl ?_)); exact h.base)
    · repeat (with_reducible first | refine Rt.thn ?_ | refine Rt.blk ?_)
      refine body_ret rfl rfl ?_
      exact fun W hW => ⟨by rw [HPI.out.1 (HPF.2 ⟨hOK, fun k hk => hJ k (by omega)⟩)], HV.trans hW⟩
  have hlt' : i < nB := by have := of_decide_eq_true hlt; omega
  refine T.skip ?_
  refine T.seq ?_
  refine T.block ?_
  obtain ⟨bg, bo, rfl, ⟨ia, ic, d0, hil⟩, d1, d2, d3, d4⟩ := hb i (by omega)
  have hfbi := hfb i (by omega)
  have hwbi := hwb _ (getD_mem (l := bl) (k := i) (by omega))
  have hci := hcnt i (by omega)
  have hcs : cntL bl (i + 1) = cntL bl i + (bl.getD i bk0).ins.length := rfl
  have HBV : BlkV m vd R nO nG nP nB (bl.getD i bk0) ↔ EndQ vd R nB (bl.getD i bk0).en (bl.getD i bk0).a (bl.getD i bk0).t (bl.getD i bk0).el ∧ InssP m R nO nG nP (bl.getD i bk0).ins := Iff.rfl
  obtain ⟨B, hBe⟩ : ∃ B, bl.getD i bk0 = B := ⟨_, rfl⟩
  rw [hBe] at d0 d1 d2 d3 d4 hil hfbi hwbi hcs HBV
  obtain ⟨il, en, ea, et, el⟩ := B
  simp only at d0 d1 d2 d3 d4 hil hcs HBV
  obtain ⟨nI, hnI⟩ : ∃ nI, nI = il.length := ⟨_, rfl⟩
  have hI60 : nI ≤ 60 := by have := hfbi.1; simp only at this; omega
  have hwil := hwbi.i
  simp only at hwil
  rw [← hnI] at d0 hcs
  have IXB := fun W => ixb W bg bo nB bc i hlt'
  have LBI : ∀ W, Fr (fun _ => False) w3 W → (Instr.loadAt 39 (.pointer (some ⟨bg, bo + i * 5, none⟩))).run Tryd.prog W = .ok (.slice ia nI ic) W := fun W hW => ld_inss _ _ _ _ _ (hW.cell (HV.cell d0 id) id)
  have LBK : ∀ W, Fr (fun _ => False) w3 W → (Instr.loadAt 41 (.pointer (some ⟨bg, bo + i * 5, none⟩))).run Tryd.prog W = .ok (.agg #[.slice ia nI ic, .int .i64 en, .int .i64 ea, .int .i64 et, .int .i64 el]) W := fun W hW => ld_blk _ _ _ _ _ _ _ _ (hW.cell (HV.cell d0 id) id) (hW.cell (HV.cell d1 id) id) (hW.cell (HV.cell d2 id) id) (hW.cell (HV.cell d3 id) id) (hW.cell (HV.cell d4 id) id)
  have BA : ∀ (x y : Operand) (W : World), (do eqGuard .add 3 x y (.int .i64 ((cntL bl i : Nat) : Int)) (.int .i64 (nI : Int)); binOp .add 3 (.int .i64 ((cntL bl i : Nat) : Int)) (.int .i64 (nI : Int)) : Sem Value).run Tryd.prog W = .ok (.int .i64 ((cntL bl (i + 1) : Nat) : Int)) W := fun x y W => by rw [hcs]; exact bn_addn W nI x y (cntL bl i) (by omega)
  obtain ⟨bE, hE⟩ := bool_ex (EndQ vd R nB en ea et el)
  have KE : ∀ W, Fr (fun _ => False) w3 W → Calls Tryd.prog 31 #[.agg #[.string nm, .bool vd, .int .i64 pr, .int .i64 R, .slice oa nO oc, .slice (some ⟨bg, bo, none⟩) nB bc], .agg #[.slice ia nI ic, .int .i64 en, .int .i64 ea, .int .i64 et, .int .i64 el]] W fun e w' => e = .returned (.bool bE) ∧ Fr (fun _ => False) w3 w' := fun W hW => callQ hW ((rend_any nm vd pr R hR oa _ nO nB oc bc (by omega) (.slice ia nI ic) en ea et el W).mono fun e w' q => ⟨isR_eq q.1 hE, q.2⟩)
  refine T.sreg ((7, .int .i64 ((i : Nat) : Int)) :: (6, .int .i64 ((cntL bl (i + 1) : Nat) : Int)) :: [(2, .pointer (some ⟨mb, 0, none⟩)), (5, .pointer (some ⟨b5, 0, none⟩))]) ?_ ?_
  ·
    refine W.op rfl rfl rfl (W.quiet_move rfl rfl) ?_
    refine W.op rfl rfl rfl (W.quiet_field rfl rfl (fun W => fp5 W _ _)) ?_
    refine W.op rfl rfl rfl (W.quiet_load rfl rfl (by first | exact LPB | exact LBI | exact LBK | exact LP | exact LM)) ?_
    refine W.op rfl rfl rfl (W.quiet_move rfl rfl) ?_
    refine W.op rfl rfl rfl (W.quiet_index rfl rfl rfl (by first | exact IXB)) ?_
    refine W.op rfl rfl rfl (W.quiet_field rfl rfl (fun W => fb0 W _ _)) ?_
    refine W.op rfl rfl rfl (W.quiet_load rfl rfl (by first | exact LPB | exact LBI | exact LBK | exact LP | exact LM)) ?_
    refine W.op rfl rfl rfl (W.quiet_len rfl rfl (fun W => ln_n W _ _ _)) ?_
    refine W.op rfl rfl rfl (W.quiet_bin rfl rfl rfl (by first | exact BA _ _)) ?_
    refine W.op rfl rfl rfl (W.quiet_assign rfl rfl) ?_
    exact W.nil (fun a h => by (repeat (refine Kn.cons h rfl ?_)); exact h.base)
  refine T.seq ?_
  refine T.sregD (by kernel_rfl) (by kernel_rfl) (fun W hW => hW.drewN 1) ((84, .bool (!bE)) :: (7, .int .i64 ((i : Nat) : Int)) :: (6, .int .i64 ((cntL bl (i + 1) : Nat) : Int)) :: [(2, .pointer (some ⟨mb, 0, none⟩)), (5, .pointer (some ⟨b5, 0, none⟩))]) ?_ ?_
  ·
    refine W.op rfl rfl rfl (W.quiet_load rfl rfl (by first | exact LPB | exact LBI | exact LBK | exact LP | exact LM)) ?_
    refine W.op rfl rfl rfl (W.quiet_field rfl rfl (fun W => fp5 W _ _)) ?_
    refine W.op rfl rfl rfl (W.quiet_load rfl rfl (by first | exact LPB | exact LBI | exact LBK | exact LP | exact LM)) ?_
    refine W.op rfl rfl rfl (W.quiet_move rfl rfl) ?_
    refine W.op rfl rfl rfl (W.quiet_index rfl rfl rfl (by first | exact IXB)) ?_
    refine W.op rfl rfl rfl (W.quiet_load rfl rfl (by first | exact LPB | exact LBI | exact LBK | exact LP | exact LM)) ?_
    refine W.op rfl rfl rfl (W.quiet_call (hr := KE) rfl rfl (fun W => cf_end W _)) ?_
    refine W.op rfl rfl rfl (W.quiet_not rfl rfl) ?_
    exact W.nil (fun a h => by (repeat (refine Kn.cons h rfl ?_)); exact h.base)
  refine T.cond rfl (fun hb => ?_) (fun hbE => ?_)
  ·
    refine T.sreg [(4, .int .i64 3)] ?_ (T.ret ?_)
    · refine W.op rfl rfl rfl (W.quiet_assign rfl rfl) ?_
      exact W.nil (fun a h => by (repeat (refine Kn.cons h rfl ?_)); exact h.base)
    · repeat (with_reducible first | refine Rt.thn ?_ | refine Rt.blk ?_)
      refine body_ret rfl rfl ?_
      exact fun W hW => ⟨by rw [HPI.out.2 (fun q => by have q2 := (HPF.1 q).2 i (by omega); rw [hBe] at q2; rw [hE.2 (HBV.1 q2).1] at hb; cases hb)], HV.trans hW⟩
  refine T.skip ?_
  have hE' : EndQ vd R nB en ea et el := hE.1 (by cases bE <;> simp_all)
  refine T.sreg ((8, .int .i64 ((0 : Nat) : Int)) :: (7, .int .i64 ((i : Nat) : Int)) :: (6, .int .i64 ((cntL bl (i + 1) : Nat) : Int)) :: [(2, .pointer (some ⟨mb, 0, none⟩)), (5, .pointer (some ⟨b5, 0, none⟩))]) ?_ ?_
  ·
    refine W.op rfl rfl rfl (W.quiet_assign rfl rfl) ?_
    exact W.nil (fun a h => by (repeat (refine Kn.cons h rfl ?_)); exact h.base)
  refine T.block ?_
  refine T.loop (t := 8) (n := nI) (fun j => (8, .int .i64 ((j : Nat) : Int)) :: (7, .int .i64 ((i : Nat) : Int)) :: (6, .int .i64 ((cntL bl (i + 1) : Nat) : Int)) :: [(2, .pointer (some ⟨mb, 0, none⟩)), (5, .pointer (some ⟨b5, 0, none⟩))]) (fun j => ∀ k, k < j → InsV m R nO nG nP (il.getD k inn0)) (fun j => rfl) (fun a h => h) (fun k hk => absurd hk (by omega)) ?_
  intro j hj hK
  have Blj := fun x y W => bn_lt (j : Int) (nI : Int) x y W
  refine T.seq ?_
  refine T.sreg ((93, .bool (decide ((j : Int) < (nI : Int)))) :: (8, .int .i64 ((j : Nat) : Int)) :: (7, .int .i64 ((i : Nat) : Int)) :: (6, .int .i64 ((cntL bl (i + 1) : Nat) : Int)) :: [(2, .pointer (some ⟨mb, 0, none⟩)), (5, .pointer (some ⟨b5, 0, none⟩))]) ?_ ?_
  ·
    refine W.op rfl rfl rfl (W.quiet_move rfl rfl) ?_
    refine W.op rfl rfl rfl (W.quiet_field rfl rfl (fun W => fp5 W _ _)) ?_
    refine W.op rfl rfl rfl (W.quiet_load rfl rfl (by first | exact LPB | exact LBI | exact LBK | exact LP | exact LM | exact LX)) ?_
    refine W.op rfl rfl rfl (W.quiet_move rfl rfl) ?_
    refine W.op rfl rfl rfl (W.quiet_index rfl rfl rfl (by first | exact IXB)) ?_
    refine W.op rfl rfl rfl (W.quiet_field rfl rfl (fun W => fb0 W _ _)) ?_
    refine W.op rfl rfl rfl (W.quiet_load rfl rfl (by first | exact LPB | exact LBI | exact LBK | exact LP | exact LM | exact LX)) ?_
    refine W.op rfl rfl rfl (W.quiet_len rfl rfl (fun W => ln_n W _ _ _)) ?_
    refine W.op rfl rfl rfl (W.quiet_bin rfl rfl rfl (by first | exact Blj _ _)) ?_
    exact W.nil (fun a h => by (repeat (refine Kn.cons h rfl ?_)); exact h.base)
  refine T.cond rfl (fun hltj => ?_) (fun hgej => ?_)
  rotate_left
  · have hjn : j = nI := by have := of_decide_eq_false hgej; omega
    refine T.exit ?_
    repeat (with_reducible refine Xt.thn ?_)
    refine Xt.hit ?_
    repeat (with_reducible refine Xt.nblk ?_)
    refine Xt.nrm ?_
    have BI := fun x y W => bn_addn W 1 x y i (by omega)
    refine T.reg ?_
    refine W.op rfl rfl rfl (W.quiet_move rfl rfl) ?_
    refine W.op rfl rfl rfl (W.quiet_bin rfl rfl rfl (by first | exact BI _ _)) ?_
    refine W.op rfl rfl rfl (W.quiet_assign rfl rfl) ?_
    refine W.nil (fun a h w hw => ⟨i + 1, by omega, by omega, fun k hk => ?_, ?_, hw⟩)
    · by_cases hki : k < i
      · exact hJ k hki
      · obtain rfl : k = i := by omega
        rw [hBe]
        exact HBV.2 ⟨hE', fun k hk => hK k (by omega)⟩
    · (repeat (refine Kn.cons h rfl ?_)); exact h.base
  have hltj' : j < nI := by have := of_decide_eq_true hltj; omega
  refine T.skip ?_
  refine T.seq ?_
  refine T.block ?_
  obtain ⟨ig, io, rfl, xc⟩ := hil j (by omega)
  have hwx := hwil _ (getD_memI (l := il) (k := j) (by omega))
  obtain ⟨x, hx⟩ : ∃ x, il.getD j inn0 = x := ⟨_, rfl⟩
  rw [hx] at xc hwx
  obtain ⟨x0, x1, x2, x3, x4, x5, x6, x7, u, args, lg⟩ := x
  obtain ⟨k0, k1, k2, k3, k4, k5, k6, k7, k8, ⟨aa, ac, k9, hat⟩, k10⟩ := xc
  simp only at k0 k1 k2 k3 k4 k5 k6 k7 k8 k9 k10 hat
  obtain ⟨na, hna⟩ : ∃ na, na = args.length := ⟨_, rfl⟩
  have hnb : na ≤ 9223372036854775807 := by have := hwx.n; simp only [maxLen] at this; omega
  rw [← hna] at k9
  have IXN := fun W => ixn W ig io nI ic j hltj'
  have LX : ∀ W, Fr (fun _ => False) w3 W → (Instr.loadAt 38 (.pointer (some ⟨ig, io + j * 11, none⟩))).run Tryd.prog W = .ok (.agg #[.int .i64 x0, .int .i64 x1, .int .i64 x2, .int .i64 x3, .int .i64 x4, .int .i64 x5, .int .i64 x6, .int .i64 x7, .int .u32 u, .slice aa na ac, .bool lg]) W := fun W hW => ld_ins _ _ _ _ _ _ _ _ _ _ _ _ _ _ (hW.cell (HV.cell k0 id) id) (hW.cell (HV.cell k1 id) id) (hW.cell (HV.cell k2 id) id) (hW.cell (HV.cell k3 id) id) (hW.cell (HV.cell k4 id) id) (hW.cell (HV.cell k5 id) id) (hW.cell (HV.cell k6 id) id) (hW.cell (HV.cell k7 id) id) (hW.cell (HV.cell k8 id) id) (hW.cell (HV.cell k9 id) id) (hW.cell (HV.cell k10 id) id)
  obtain ⟨bI, hI⟩ := bool_ex (InsV m R nO nG nP ⟨x0, x1, x2, x3, x4, x5, x6, x7, u, args, lg⟩)
  have KI : ∀ W, Fr (fun _ => False) w3 W → Calls Tryd.prog 32 #[.agg #[.slice ga nG gc, .slice da nD dc, .slice (some ⟨g, ofs, none⟩) nP pc, .int .i64 mn], .agg #[.string nm, .bool vd, .int .i64 pr, .int .i64 R, .slice oa nO oc, .slice (some ⟨bg, bo, none⟩) nB bc], .agg #[.int .i64 x0, .int .i64 x1, .int .i64 x2, .int .i64 x3, .int .i64 x4, .int .i64 x5, .int .i64 x6, .int .i64 x7, .int .u32 u, .slice aa na ac, .bool lg]] W fun e w' => e = .returned (.bool bI) ∧ Fr (fun _ => False) w3 w' := fun W hW => callQ hW ((rvins_any ga _ oa nG nP nO gc pc oc (.slice da nD dc) (.int .i64 mn) (.string nm) (.bool vd) (.int .i64 pr) _ R hR m hnP x0 x1 x2 x3 x4 x5 x6 x7 u aa na ac args lg hna hnb W (hp.fr (HV.trans hW)) (hat.fr (HV.trans hW))).mono fun e w' q => ⟨isR_eq q.1 hI, q.2⟩)
  refine T.sregD (by kernel_rfl) (by kernel_rfl) (fun W hW => hW.drewN 1) ((108, .bool (!bI)) :: (8, .int .i64 ((j : Nat) : Int)) :: (7, .int .i64 ((i : Nat) : Int)) :: (6, .int .i64 ((cntL bl (i + 1) : Nat) : Int)) :: [(2, .pointer (some ⟨mb, 0, none⟩)), (5, .pointer (some ⟨b5, 0, none⟩))]) ?_ ?_
  ·
    refine W.op rfl rfl rfl (W.quiet_load rfl rfl (by first | exact LPB | exact LBI | exact LBK | exact LP | exact LM | exact LX)) ?_
    refine W.op rfl rfl rfl (W.quiet_load rfl rfl (by first | exact LPB | exact LBI | exact LBK | exact LP | exact LM | exact LX)) ?_
    refine W.op rfl rfl rfl (W.quiet_field rfl rfl (fun W => fp5 W _ _)) ?_
    refine W.op rfl rfl rfl (W.quiet_load rfl rfl (by first | exact LPB | exact LBI | exact LBK | exact LP | exact LM | exact LX)) ?_
    refine W.op rfl rfl rfl (W.quiet_move rfl rfl) ?_
    refine W.op rfl rfl rfl (W.quiet_index rfl rfl rfl (by first | exact IXB)) ?_
    refine W.op rfl rfl rfl (W.quiet_field rfl rfl (fun W => fb0 W _ _)) ?_
    refine W.op rfl rfl rfl (W.quiet_load rfl rfl (by first | exact LPB | exact LBI | exact LBK | exact LP | exact LM | exact LX)) ?_
    refine W.op rfl rfl rfl (W.quiet_move rfl rfl) ?_
    refine W.op rfl rfl rfl (W.quiet_index rfl rfl rfl (by first | exact IXN)) ?_
    refine W.op rfl rfl rfl (W.quiet_load rfl rfl (by first | exact LPB | exact LBI | exact LBK | exact LP | exact LM | exact LX)) ?_
    refine W.op rfl rfl rfl (W.quiet_call (hr := KI) rfl rfl (fun W => cf_ins W _)) ?_
    refine W.op rfl rfl rfl (W.quiet_not rfl rfl) ?_
    exact W.nil (fun a h => by (repeat (refine Kn.cons h rfl ?_)); exact h.base)
  refine T.cond rfl (fun hb => ?_) (fun hbI => ?_)
  ·
    refine T.sreg [(4, .int .i64 3)] ?_ (T.ret ?_)
    · refine W.op rfl rfl rfl (W.quiet_assign rfl rfl) ?_
      exact W.nil (fun a h => by (repeat (refine Kn.cons h rfl ?_)); exact h.base)
    · repeat (with_reducible first | refine Rt.thn ?_ | refine Rt.blk ?_)
      refine body_ret rfl rfl ?_
      exact fun W hW => ⟨by rw [HPI.out.2 (fun q => by have q2 := (HPF.1 q).2 i (by omega); rw [hBe] at q2; have q3 := (HBV.1 q2).2 j (by omega); rw [hx] at q3; rw [hI.2 q3] at hb; cases hb)], HV.trans hW⟩
  refine T.skipx ?_
  repeat (with_reducible refine Xt.nblk ?_)
  refine Xt.nrm ?_
  have BJ := fun x y W => bn_addn W 1 x y j (by omega)
  refine T.reg ?_
  refine W.op rfl rfl rfl (W.quiet_move rfl rfl) ?_
  refine W.op rfl rfl rfl (W.quiet_bin rfl rfl rfl (by first | exact BJ _ _)) ?_
  refine W.op rfl rfl rfl (W.quiet_assign rfl rfl) ?_
  refine W.nil (fun a h w hw => ⟨j + 1, by omega, by omega, fun k hk => ?_, ?_, hw⟩)
  · by_cases hkj : k < j
    · exact hK k hkj
    · obtain rfl : k = j := by omega
      rw [hx]
      exact hI.1 (by cases bI <;> simp_all)
  · (repeat (refine Kn.cons h rfl ?_)); exact h.base
end Go.Proofs.YtdhagimcffmdfaaDoor
