/-
  Flow (layer 16): where a block leads.
-/
import Derived.Test.YtobibplilbchfaaFlB
namespace Go.Proofs.Ytobibplilbchfaa
open Go.RowKit
set_option linter.unusedVariables false
set_option linter.unusedSimpArgs false
theorem qxR_api_Proc (w : World) (up0 : ByteArray) (up1 : Bool) (um2 : Int) (um3 : Int) (up4 : Option Addr) (uk4 ul4 : Nat) (up5 : Option Addr) (uk5 ul5 : Nat) : ∃ w', (Instr.box 25 (.agg #[.string up0, .bool up1, .int .i64 um2, .int .i64 um3, .slice up4 uk4 ul4, .slice up5 uk5 ul5])).run Try.prog w = .ok (.pointer (some ⟨w.heap.size, 0, none⟩)) w' ∧ (Fr (fun _ => False) w w' ∧ Bx w' w.heap.size #[.string up0, .bool up1, .int .i64 um2, .int .i64 um3, .slice up4 uk4 ul4, .slice up5 uk5 ul5] 25) := ⟨w.alloc (.cells #[.string up0, .bool up1, .int .i64 um2, .int .i64 um3, .slice up4 uk4 ul4, .slice up5 uk5 ul5] 25), by simp [go_sem], fr_al (Fr.refl _ _) _, Bx.new _ _ _⟩
theorem qi_s_api_Block (w : World) (b o n c j : Nat) (hj : j < n) : (Instr.indexAt 23 (.slice (some ⟨b, o, none⟩) n c) (.int .i64 (j : Int))).run Try.prog w = .ok (.pointer (some ⟨b, o + j * 5, none⟩)) w := by
  have h : (j : Int) < (n : Int) := by omega
  simp [go_sem, h, hj]
theorem ql_api_Block (w : World) (b o : Nat) (u0 u1 u2 u3 u4 : Value) (h0 : w.cell? ⟨b, o, none⟩ = some u0) (h1 : w.cell? ⟨b, o + 1, none⟩ = some u1) (h2 : w.cell? ⟨b, o + 2, none⟩ = some u2) (h3 : w.cell? ⟨b, o + 3, none⟩ = some u3) (h4 : w.cell? ⟨b, o + 4, none⟩ = some u4) : (Instr.loadAt 48 (.pointer (some ⟨b, o, none⟩))).run Try.prog w = .ok (.agg #[u0, u1, u2, u3, u4]) w := by simp [go_sem, h0, h1, h2, h3, h4]
theorem qk_ir_Outs (w : World) (vs : Array Value) : (callFunc 38 vs).run Try.prog w = .ok (.enter 38 vs) w := by simp [go_sem]
theorem qk_slices_DeleteFunc_int_int (w : World) (vs : Array Value) : (callFunc 37 vs).run Try.prog w = .ok (.enter 37 vs) w := by simp [go_sem]
/-- Where a block leads, of the blocks that there are. -/
def outsF (bs : List Bk) (n : Nat) : List Int := (outB (bs.getD n bk0)).filter fun x => !isOut bs.length x
theorem outsF_len (bs : List Bk) (n : Nat) : (outsF bs n).length ≤ 2 := Nat.le_trans (List.length_filter_le _ _) (outB_len _)
theorem outsF_in {bs : List Bk} {n : Nat} {x : Int} (h : x ∈ outsF bs n) : 0 ≤ x ∧ x < bs.length := by
  unfold outsF isOut at h
  simp at h
  omega
set_option maxRecDepth 100000 in
theorem t_outs (nm : ByteArray) (vd : Bool) (pr R : Int) (oa : Option Addr) (on oc : Nat) (ba : Option Addr) (bs : List Bk) (bc : Nat) (n : Nat) (hn : n < bs.length) (w : World) (hbl : BkL w ba bs) : Calls Try.prog 21 #[.agg #[.string nm, .bool vd, .int .i64 pr, .int .i64 R, .slice oa on oc, .slice ba bs.length bc], .int .i64 (n : Int)] w fun e w' => ∃ v, e = .returned v ∧ Ints w.heap.size w' v (outsF bs n) ∧ Fr (fun _ => False) w w' := by
  have ff := Fr.refl (fun _ => False) w
  refine calls_tw Try.func21 rfl rfl (Nat.le_of_ble_eq_true rfl) ?_
  refine TW.sreg ?_
  have lw1 := ff.size
  refine O.boxR rfl rfl rfl rfl rfl (qxR_api_Proc w _ _ _ _ _ _ _ _ _ _) ?_
  rintro wa1 ⟨fa1, bx1⟩
  replace ff := ff.trans fa1
  refine WL.op rfl rfl rfl (Go.Proofs.Ytobibplilbchfaa.W.quiet_assign rfl rfl) ?_
  refine WL.nil ?_
  refine TW.sreg ?_
  refine WL.op rfl rfl rfl (Go.Proofs.Ytobibplilbchfaa.W.quiet_field rfl rfl (fun W => (qa_api_Proc_5 W _ _))) ?_
  refine WL.ld rfl rfl rfl rfl rfl (ql_s_api_Block _ _ _ _ _ (bx1.cell (j := 5) rfl)) ?_
  obtain ⟨gb, ob, rfl, ⟨ia, ic, c0, cI⟩, c1, c2, c3, c4⟩ := (hbl.fr ff) n hn
  refine WL.op rfl rfl rfl (Go.Proofs.Ytobibplilbchfaa.W.quiet_move rfl rfl) ?_
  refine O.ixa rfl rfl rfl rfl rfl rfl (qi_s_api_Block _ _ _ _ _ _ (by omega)) ?_
  refine WL.ld rfl rfl rfl rfl rfl (ql_api_Block _ _ _ _ _ _ _ _ c0 c1 c2 c3 c4) ?_
  have hsz := ff.size
  refine WL.call (hr := t_irouts (bs.getD n bk0) ia ic _) rfl rfl rfl rfl rfl (fun W => qk_ir_Outs W _) ?_
  rintro e w1 ⟨v, rfl, hI, f1⟩
  refine ⟨_, rfl, ?_⟩
  replace bx1 := bx1.fr f1 id
  replace ff := ff.trans f1
  replace hI := Row.base (B' := w.heap.size) hI (fun k hk => by have := (hI.lt k hk).1; omega)
  refine O.mf1 rfl rfl rfl rfl rfl (mf_any _ _ _ _) ?_
  refine WL.call (hr := t_delo nm vd pr R oa on oc (some ⟨gb, ob, none⟩) bs bc w.heap.size w.heap.size v (outB (bs.getD n bk0)) (by have := outB_len (bs.getD n bk0); omega) _ bx1 hI) rfl rfl rfl rfl rfl (fun W => qk_slices_DeleteFunc_int_int W _) ?_
  rintro e w2 ⟨v2, rfl, hI2, f2⟩
  refine ⟨_, rfl, ?_⟩
  refine WL.op rfl rfl rfl (Go.Proofs.Ytobibplilbchfaa.W.quiet_assign rfl rfl) ?_
  refine WL.nil ?_
  refine TW.rt ?_
  refine bodyw_ret rfl rfl ?_
  exact ⟨_, rfl, hI2, ff.trans' f2 (fun q hq e => by have := (Row.lt hI q e).1; omega)⟩
end Go.Proofs.Ytobibplilbchfaa
