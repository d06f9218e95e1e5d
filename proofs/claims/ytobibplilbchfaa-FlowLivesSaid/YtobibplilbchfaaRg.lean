/-
  slices.Backward over instructions: what its iterator gives.
-/
import Derived.Test.YtobibplilbchfaaRg0
import Derived.Test.YtobibplilbchfaaRf
namespace Go.Proofs.Ytobibplilbchfaa
open Go.RowKit
set_option linter.unusedVariables false
set_option linter.unusedSimpArgs false
set_option linter.unnecessarySimpa false
end Go.Proofs.Ytobibplilbchfaa
namespace Go.Proofs.Ytobibplilbchfaa.M
open Go.RowKit
set_option linter.unusedVariables false
set_option linter.unusedSimpArgs false
set_option maxRecDepth 100000 in
theorem bk_stops (g : Nat) (ia : Option Addr) (c : Nat) (l : List Inn) (AC : Nat → Option Addr × Nat) (hl : l.length ≤ 1000000) (w : World) (Hd : World → Prop) (hHd : ∀ W, Hd W → Bx W g #[.slice ia l.length c] 46 ∧ InsX W ia l AC) (hbl : ∀ W, Below w.heap.size w W → Hd W) (dd : Nat) : SeqStopsK Fence.wide dd Try.prog 43 #[.pointer (some ⟨g, 0, none⟩)] (fun x : {k : Nat // k < l.length} => (#[.int .i64 (x.1 : Int), .agg (insC (l.getD x.1 inn0) (AC x.1))] : Array Value)) (fun A B => Hd A → Hd B) (fun xs => xs.map (·.1) = (List.range l.length).reverse) (fun _ => True) l.length w := by
  intro lp J Jx W hW hJ hJx hY h0
  have hd0 := hbl W hW
  obtain ⟨hbx0, _⟩ := hHd W hd0
  show CallsIn Fence.wide dd Try.prog 43 #[.func (.yield lp) #[] #[], .pointer (some ⟨g, 0, none⟩)] W _
  refine callsIn_tw Try.func43 rfl rfl (Nat.le_of_ble_eq_true rfl) (by intro w h; revert h; simp) ?_
  refine TW.sreg ?_
  refine WL.ld rfl rfl rfl rfl rfl (ql_s_api_Ins _ _ _ _ _ (hbx0.cell (j := 0) rfl)) ?_
  refine O.len rfl rfl rfl rfl rfl (qn_s_api_Ins _ _ _ _) ?_
  refine WL.op rfl rfl rfl (Go.Proofs.Ytobibplilbchfaa.M.W.quiet_bin rfl rfl rfl (fun W => qb_sub_int W _ _ _ _ (by omega) (by omega))) ?_
  refine WL.op rfl rfl rfl (Go.Proofs.Ytobibplilbchfaa.M.W.quiet_assign rfl rfl) ?_
  refine WL.nil ?_
  refine TW.block ?_
  refine O.loopX (n := l.length) (fun j a W => Kn ⟨Try.f43.ntmps, [], none, dd⟩ [(0, .func (.yield lp) #[] #[]), (1, .pointer (some ⟨g, 0, none⟩)), (3, .int .i64 ((l.length : Int) - 1 - (j : Int)))] a ∧ (∃ pre : List {k : Nat // k < l.length}, pre.map (·.1) = (List.range l.length).reverse.take j ∧ J pre W ∧ Hd W)) 0 (Nat.zero_le _) (fun a k => ⟨(by rw [show ((0 : Nat) : Int) = 0 from rfl, Int.sub_zero]; (repeat (refine Kn.cons k rfl ?_)); exact k.base), [], rfl, h0, hd0⟩) ?_
  rintro j a wl hj ⟨k, pre, hpre, hj0, hdj⟩
  refine TW.app (s := [(0, .func (.yield lp) #[] #[]), (1, .pointer (some ⟨g, 0, none⟩)), (3, .int .i64 ((l.length : Int) - 1 - (j : Int)))]) ?_ k
  have hn1 : ((l.length : Int) - 1 - (j : Int)) ≤ 1000000 := by omega
  have hpl : pre.length = min j l.length := by have := congrArg List.length hpre; simpa using this
  refine TW.seq ?_
  refine TW.sreg ?_
  refine WL.op rfl rfl rfl (Go.Proofs.Ytobibplilbchfaa.M.W.quiet_move rfl rfl) ?_
  refine WL.op rfl rfl rfl (Go.Proofs.Ytobibplilbchfaa.M.W.quiet_bin rfl rfl rfl (fun W => qb_geq_int W _ _ _ _)) ?_
  refine O.split (fun hb1 => ?_) (fun hb1 => ?_)
  · skip
    have hj2 : j < l.length := by have := of_decide_eq_true hb1; omega
    obtain ⟨hbx, hix⟩ := hHd _ hdj
    obtain ⟨go, oo, rfl, hc⟩ := hix (l.length - 1 - j) (by omega)
    have hcast : (l.length : Int) - 1 - (j : Int) = ((l.length - 1 - j : Nat) : Int) := by omega
    refine WL.nil ?_
    refine TW.cond rfl (fun _ => ?_) (fun hb => by cases hb)
    refine TW.skip ?_
    refine TW.seq ?_
    refine TW.block ?_
    refine TW.sregI ?_
    refine WLI.cut 6 ?_ rfl
    refine WL.op rfl rfl rfl (Go.Proofs.Ytobibplilbchfaa.M.W.quiet_move rfl rfl) ?_
    refine WL.op rfl rfl rfl (Go.Proofs.Ytobibplilbchfaa.M.W.quiet_move rfl rfl) ?_
    refine WL.ld rfl rfl rfl rfl rfl (ql_s_api_Ins _ _ _ _ _ (hbx.cell (j := 0) rfl)) ?_
    refine WL.op rfl rfl rfl (Go.Proofs.Ytobibplilbchfaa.M.W.quiet_move rfl rfl) ?_
    refine O.ixa rfl rfl rfl rfl rfl rfl (by rw [hcast]; exact qi_s_api_Ins _ _ _ _ _ _ (by omega)) ?_
    refine WL.ld rfl rfl rfl rfl rfl (ld_insx _ _ _ _ _ _ hc) ?_
    refine WL.toI ?_
    rw [hcast]
    refine WLI.yield rfl rfl rfl rfl rfl rfl (hY pre ⟨l.length - 1 - j, by omega⟩ _ hj0 (by omega)) ?_
    rintro e w2y (⟨rfl, hJ2, hk2⟩ | ⟨rfl, hJx2⟩)
    · refine ⟨_, rfl, ?_⟩
      refine WLI.op rfl rfl rfl (by rintro c e; cases e) (Go.Proofs.Ytobibplilbchfaa.M.W.quiet_not rfl rfl) ?_
      refine WLI.nil ?_
      refine TW.cond rfl (fun hb => by cases hb) (fun _ => ?_)
      refine TW.skipx ?_
      refine Xw.nblk ?_
      refine Xw.nrm ?_
      refine TW.reg ?_
      refine WL.op rfl rfl rfl (Go.Proofs.Ytobibplilbchfaa.M.W.quiet_move rfl rfl) ?_
      refine WL.op rfl rfl rfl (Go.Proofs.Ytobibplilbchfaa.M.W.quiet_bin rfl rfl rfl (fun W => qb_sub_int W _ _ _ _ (by omega) (by omega))) ?_
      refine WL.op rfl rfl rfl (Go.Proofs.Ytobibplilbchfaa.M.W.quiet_assign rfl rfl) ?_
      refine WL.end ?_
      refine Xw.any (fun a k => ?_)
      refine ⟨j + 1, by omega, by omega, ?_, pre ++ [⟨l.length - 1 - j, by omega⟩], ?_, hJ2, hk2 hdj⟩
      · rw [show (l.length : Int) - 1 - ((j + 1 : Nat) : Int) = ((l.length - 1 - j : Nat) : Int) - 1 by omega]; (repeat (refine Kn.cons k rfl ?_)); exact k.base
      · rw [List.map_append, hpre, rev_take l.length j hj2]; rfl
    · refine ⟨_, rfl, ?_⟩
      refine WLI.op rfl rfl rfl (by rintro c e; cases e) (Go.Proofs.Ytobibplilbchfaa.M.W.quiet_not rfl rfl) ?_
      refine WLI.nil ?_
      refine TW.cond rfl (fun _ => ?_) (fun hb => by cases hb)
      refine TW.rt ?_
      refine Xw.rblk ?_
      refine Xw.thn (by simp) ?_
      refine Xw.thn (by simp) ?_
      refine Xw.rblk ?_
      refine O.retn rfl (Mks.nil _) ?_
      rintro wz ⟨fz, ez⟩
      exact ⟨⟨_, rfl⟩, .inr ⟨_, trivial, (by rw [ez rfl]; exact hJx2)⟩⟩
  · skip
    have hje : j = l.length := by have := of_decide_eq_false hb1; omega
    subst hje
    refine WL.nil ?_
    refine TW.cond rfl (fun hb => by cases hb) (fun _ => ?_)
    refine TW.exit ?_
    refine Xw.thn (by simp) ?_
    refine Xw.thn (by simp) ?_
    refine Xw.hit ?_
    refine O.end0 rfl (Mks.nil _) ?_
    rintro wz ⟨fz, ez⟩
    refine ⟨⟨_, rfl⟩, .inl ⟨pre, ?_, (by rw [ez rfl]; exact hj0)⟩⟩
    show pre.map (·.1) = _
    rw [hpre, List.take_of_length_le (by simp)]
end Go.Proofs.Ytobibplilbchfaa.M
