/-
  Runs (layer 14): another block; a call ends.
-/
import Derived.Test.YthdkmjbeemfbbaaQRnG
namespace Go.Proofs.Ythdkmjbeemfbbaa
open Go.RowKit
set_option linter.unusedVariables false
set_option linter.unusedSimpArgs false
set_option linter.unnecessarySimpa false
theorem ql_p_api_Block (w : World) (p : Option Addr) (d : Addr) (h : w.cell? d = some (.pointer p)) : (Instr.loadAt 65 (.pointer (some d))).run Try.prog w = .ok (.pointer p) w := by simp [go_sem, h]
theorem ql_s_api_Proc (w : World) (p : Option Addr) (k l : Nat) (d : Addr) (h : w.cell? d = some (.slice p k l)) : (Instr.loadAt 24 (.pointer (some d))).run Try.prog w = .ok (.slice p k l) w := by simp [go_sem, h]
theorem ql_s_api_Block (w : World) (p : Option Addr) (k l : Nat) (d : Addr) (h : w.cell? d = some (.slice p k l)) : (Instr.loadAt 39 (.pointer (some d))).run Try.prog w = .ok (.slice p k l) w := by simp [go_sem, h]
theorem qs_uint32 (w : World) (m : Int) (u : Value) (d : Addr) (h : w.cell? d = some u) (hf : w.frozen? d = false) : (Instr.storeAt 31 (.pointer (some d)) (.int .u32 m)).run Try.prog w = .ok () (w.setCell d (.int .u32 m)) := by simp [go_sem, h, hf]
theorem ql_irrun_registers (w : World) (p : Option Addr) (k l : Nat) (d : Addr) (h : w.cell? d = some (.slice p k l)) : (Instr.loadAt 64 (.pointer (some d))).run Try.prog w = .ok (.slice p k l) w := by simp [go_sem, h]
theorem qi_irrun_registers (w : World) (b o n c j : Nat) (hj : j < n) : (Instr.indexAt 64 (.slice (some ⟨b, o, none⟩) n c) (.int .i64 (j : Int))).run Try.prog w = .ok (.pointer (some ⟨b, o + j, none⟩)) w := by
  have h : (j : Int) < (n : Int) := by omega
  simp [go_sem, h, hj]
theorem qi_s_api_Block (w : World) (b o n c j : Nat) (hj : j < n) : (Instr.indexAt 39 (.slice (some ⟨b, o, none⟩) n c) (.int .i64 (j : Int))).run Try.prog w = .ok (.pointer (some ⟨b, o + j * 5, none⟩)) w := by
  have h : (j : Int) < (n : Int) := by omega
  simp [go_sem, h, hj]
theorem qa_irrun_machine_1 (w : World) (b o : Nat) : (Instr.fieldAt 55 (.pointer (some ⟨b, o, none⟩)) 1).run Try.prog w = .ok (.pointer (some ⟨b, o + 4, none⟩)) w := by simp [go_sem]
theorem qa_api_Module_2 (w : World) (b o : Nat) : (Instr.fieldAt 26 (.pointer (some ⟨b, o, none⟩)) 2).run Try.prog w = .ok (.pointer (some ⟨b, o + 2, none⟩)) w := by simp [go_sem]
theorem qa_irrun_call_1 (w : World) (b o : Nat) : (Instr.fieldAt 67 (.pointer (some ⟨b, o, none⟩)) 1).run Try.prog w = .ok (.pointer (some ⟨b, o + 1, none⟩)) w := by simp [go_sem]
theorem qi_s_api_Proc (w : World) (b o n c j : Nat) (hj : j < n) : (Instr.indexAt 24 (.slice (some ⟨b, o, none⟩) n c) (.int .i64 (j : Int))).run Try.prog w = .ok (.pointer (some ⟨b, o + j * 6, none⟩)) w := by
  have h : (j : Int) < (n : Int) := by omega
  simp [go_sem, h, hj]
theorem qa_api_Proc_5 (w : World) (b o : Nat) : (Instr.fieldAt 41 (.pointer (some ⟨b, o, none⟩)) 5).run Try.prog w = .ok (.pointer (some ⟨b, o + 5, none⟩)) w := by simp [go_sem]
theorem qa_irrun_call_2 (w : World) (b o : Nat) : (Instr.fieldAt 67 (.pointer (some ⟨b, o, none⟩)) 2).run Try.prog w = .ok (.pointer (some ⟨b, o + 2, none⟩)) w := by simp [go_sem]
theorem qa_irrun_call_3 (w : World) (b o : Nat) : (Instr.fieldAt 67 (.pointer (some ⟨b, o, none⟩)) 3).run Try.prog w = .ok (.pointer (some ⟨b, o + 3, none⟩)) w := by simp [go_sem]
theorem qa_api_Block_2 (w : World) (b o : Nat) : (Instr.fieldAt 44 (.pointer (some ⟨b, o, none⟩)) 2).run Try.prog w = .ok (.pointer (some ⟨b, o + 2, none⟩)) w := by simp [go_sem]
theorem qa_irrun_call_0 (w : World) (b o : Nat) : (Instr.fieldAt 67 (.pointer (some ⟨b, o, none⟩)) 0).run Try.prog w = .ok (.pointer (some ⟨b, o, none⟩)) w := by simp [go_sem]
theorem qa_irrun_call_5 (w : World) (b o : Nat) : (Instr.fieldAt 67 (.pointer (some ⟨b, o, none⟩)) 5).run Try.prog w = .ok (.pointer (some ⟨b, o + 5, none⟩)) w := by simp [go_sem]
theorem qa_api_Outcome_2 (w : World) (b o : Nat) : (Instr.fieldAt 34 (.pointer (some ⟨b, o, none⟩)) 2).run Try.prog w = .ok (.pointer (some ⟨b, o + 2, none⟩)) w := by simp [go_sem]
theorem qsF_uint32 (w : World) (g j : Nat) (z : Array Value) (tt : TypeId) (y : Value) (um0 : Int) (h : Bx w g z tt) (hj : z[j]? = some y) : ∃ w', (Instr.storeAt 31 (.pointer (some ⟨g, j, none⟩)) (.int .u32 um0)).run Try.prog w = .ok () w' ∧ (Fr (fun q => q = g) w w' ∧ Bx w' g (z.setIfInBounds j (.int .u32 um0)) tt) := by
  have c0 := h.cell hj
  have e0 := h.free j
  exact ⟨w.setCell ⟨g, j, none⟩ (.int .u32 um0), by simp [go_sem, c0, e0], Fr.setCell _ _ _ rfl, h.set j _⟩
theorem sl_ck (g k l : Nat) (hk : k + 1 ≤ l) (w : World) : (Instr.slice 53 (.slice (some ⟨g, 0, none⟩) (k + 1) l) none (some (.int .i64 (k : Int))) none).run Try.prog w = .ok (.slice (some ⟨g, 0, none⟩) k l) w := by
  have ht' : (Try.prog).underlying 53 = some (.slice ((Try.prog).elem 53)) := by kernel_rfl
  have he : (Try.prog).elem 53 = 67 := by kernel_rfl
  have hs : (Go.sizeOf 67).run Try.prog w = .ok 6 w := by simp [go_sem]
  rw [run_slice_h w 53 _ _ _ ht' .i64 _ (by omega) (by omega), he, hs]
  have h0 : ¬ l = 0 := by omega
  simp [Result.andThen, sliced, Addr.add, h0]
theorem RA.pop {c : RC} {w : World} {L : RL} {x : RSt} (h : RA c w L x) (k : Nat) (hk : k ≤ x.d) : RA c w L { x with d := k } :=
  ⟨h.f0, h.f1, h.me, h.out, h.ca, h.rg, fun j hj => h.top j (Nat.lt_of_lt_of_le hj hk), Nat.le_trans hk h.dc, h.ne, h.no⟩
theorem RM.putR {c : RC} {w : World} {L : RL} {x : RSt} {fu : Int} {d k r : Nat} (hc : c.ok) (h : RM c w L x fu d) (hk : k < x.d) (hr : r < (rPr c.m (x.cl k).n).rg.toNat) : ∃ g q, L.F k 0 = .slice (some ⟨g, 0, none⟩) (rPr c.m (x.cl k).n).rg.toNat q ∧ c.w1.heap.size ≤ g ∧ w.cell? ⟨g, 0 + r, none⟩ = some (.int .u32 ((x.cl k).rg r)) ∧
    ∀ v, ∃ w', (Instr.storeAt 31 (.pointer (some ⟨g, 0 + r, none⟩)) (.int .u32 v)).run Try.prog w = .ok () w' ∧ (RM c w' L { x with cl := rupd x.cl k { x.cl k with rg := rupd (x.cl k).rg r v } } fu d ∧ Fr (fun q => q = g) w w') := by
  obtain ⟨g, q, e, hge, h1, h2, h3⟩ := h.r.reg hc hk hr
  refine ⟨g, q, e, hge, by rw [Nat.zero_add]; exact h1, fun v => ?_⟩
  rw [Nat.zero_add]
  have hf : Fr (fun q => q = g) w (w.setCell ⟨g, r, none⟩ (.int .u32 v)) := Fr.setCell _ _ _ rfl
  exact ⟨_, qs_uint32 w v _ _ h1 h2, ⟨h.frG hc hge hf, h3 v⟩, hf⟩
/-- The top call's block, and where it lies. -/
theorem RA.ptr {c : RC} {w : World} {L : RL} {x : RSt} (h : RA c w L x) {k : Nat} (hk : k < x.d) : ∃ g o, L.F k 2 = .pointer (some ⟨g, o, none⟩) ∧ BkAt c.w0 g o (rBk c.m (x.cl k).n (x.cl k).b) := (h.top k hk).2.2.1
set_option maxRecDepth 100000 in
theorem t_jump {c : RC} {L : RL} {x : RSt} {fu : Int} {d k cb t : Nat} (hc : c.ok) (hcb : L.ca = some ⟨cb, 0, none⟩) (hk : k < x.d) (hn : (x.cl k).n < c.m.pr.length) (ht : t < (rPr c.m (x.cl k).n).bl.length) (w : World) (h : RM c w L x fu d) : Calls Try.prog 37 #[.pointer (some ⟨c.M, 0, none⟩), .pointer (some ⟨cb, 0 + k * 6, none⟩), .int .i64 (t : Int)] w fun e w' => ∃ L', e = .returned (.tuple #[]) ∧ L'.ca = L.ca ∧ RM c w' L' { x with cl := rupd x.cl k { x.cl k with b := t, i := 0 } } fu d := by
  obtain ⟨hm0, hr⟩ := id h
  have hm : Bx w c.M #[L.ov, .int .i64 x.ins, .int .u32 x.ex, .int .i64 x.e, .slice c.ga c.m.gl.length c.gc, .slice c.da c.m.da.length c.dc, .slice c.pa c.m.pr.length c.pc, .int .i64 c.m.mn, .slice c.ia c.inp.length c.ic, .int .i64 fu, .slice (some ⟨c.mb, 0, none⟩) 65536 65536, .slice c.la c.m.gl.length c.lc, .int .i64 (rFlo c.m), .slice c.fa c.m.pr.length c.fc, (.slice L.ca d L.cc)] 55 := hm0
  clear hm0
  obtain ⟨gp, op, a5, kk, gb, ob, hpa, hprc, hp5, rfl, hbk⟩ := RC.blk hc hn ht
  have ha := hr.at_ hc hcb hk
  have hgp : gp ≠ cb := by have h1 : gp < c.w0.heap.size := World.block_lt_of_cell? c.w0 _ hp5; have := hc.f01.size; have := ha.ge; omega
  have hnM := ha.nM
  refine calls_tw Try.func37 rfl rfl (Nat.le_of_ble_eq_true rfl) ?_
  have hm1 := hm
  have hr1 := hr
  refine TW.regH (fun W => Fr (fun q => q = cb) w W) (by kernel_rfl) ?_
  have fd : Fr (fun _ => False) w w.drew := (Fr.refl _ _).drewN 1
  have HW : Fr (fun q => q = cb) w w.drew := (Fr.refl _ _).drewN 1
  replace hm := hm.fr fd id
  replace hr := hr.fr0 hc fd
  have ha2 := hr.at_ hc hcb hk
  generalize hV : w.drew = V1 at *
  clear hV
  refine WH.take 0 rfl (by kernel_rfl) (by kernel_rfl) (by kernel_rfl) (fun _ _ _ _ _ h => h) rfl rfl rfl HW (RH.move rfl rfl) ?_
  refine WH.take 1 rfl (by kernel_rfl) (by kernel_rfl) (by kernel_rfl) (fun _ _ _ _ _ h => h) rfl rfl rfl HW (RH.move rfl rfl) ?_
  refine WH.take 2 rfl (by kernel_rfl) (by kernel_rfl) (by kernel_rfl) (fun _ _ _ _ _ h => h) rfl rfl rfl HW (RH.move rfl rfl) ?_
  refine WH.take 3 rfl (by kernel_rfl) (by kernel_rfl) (by kernel_rfl) (fun _ _ _ _ _ h => h) rfl rfl rfl HW (RH.nck rfl rfl) ?_
  refine WH.take 4 rfl (by kernel_rfl) (by kernel_rfl) (by kernel_rfl) (fun _ _ _ _ _ h => h) rfl rfl rfl HW (RH.field rfl rfl (fun W => qa_irrun_machine_1 W _ _)) ?_
  refine WH.take 5 rfl (by kernel_rfl) (by kernel_rfl) (by kernel_rfl) (fun _ _ _ _ _ h => h) rfl rfl rfl HW (RH.field rfl rfl (fun W => qa_api_Module_2 W _ _)) ?_
  refine WH.take 6 rfl (by kernel_rfl) (by kernel_rfl) (by kernel_rfl) (fun _ _ _ _ _ h => h) rfl rfl rfl HW (RH.load rfl rfl (fun W hW => ((ql_s_api_Proc _ _ _ _ _ ((hm1.fr hW ha.nM).cell (j := 6) rfl)).trans (by rw [hpa])))) ?_
  refine WH.take 7 rfl (by kernel_rfl) (by kernel_rfl) (by kernel_rfl) (fun _ _ _ _ _ h => h) rfl rfl rfl HW (RH.move rfl rfl) ?_
  refine WH.take 8 rfl (by kernel_rfl) (by kernel_rfl) (by kernel_rfl) (fun _ _ _ _ _ h => h) rfl rfl rfl HW (RH.nck rfl rfl) ?_
  refine WH.take 9 rfl (by kernel_rfl) (by kernel_rfl) (by kernel_rfl) (fun _ _ _ _ _ h => h) rfl rfl rfl HW (RH.field rfl rfl (fun W => qa_irrun_call_1 W _ _)) ?_
  refine WH.take 14 rfl (by kernel_rfl) (by kernel_rfl) (by kernel_rfl) (fun _ _ _ _ _ h => h) rfl rfl rfl HW (RH.move rfl rfl) ?_
  refine WH.one 10 (by kernel_rfl) rfl ?_ 
  refine WL.ld rfl rfl rfl rfl rfl (ql_int _ _ _ ha2.c1) ?_
  refine WL.fin HW ?_
  refine WH.take 11 rfl (by kernel_rfl) (by kernel_rfl) (by kernel_rfl) (fun _ _ _ _ _ h => h) rfl rfl rfl HW (RH.index rfl rfl rfl (fun W => (qi_s_api_Proc _ _ _ _ _ _ (by omega)))) ?_
  refine WH.take 12 rfl (by kernel_rfl) (by kernel_rfl) (by kernel_rfl) (fun _ _ _ _ _ h => h) rfl rfl rfl HW (RH.field rfl rfl (fun W => qa_api_Proc_5 W _ _)) ?_
  refine WH.take 13 rfl (by kernel_rfl) (by kernel_rfl) (by kernel_rfl) (fun _ _ _ _ _ h => h) rfl rfl rfl HW (RH.load rfl rfl (fun W hW => (ql_s_api_Block _ _ _ _ _ (hW.cell (hr1.f0.cell hp5 id) hgp)))) ?_
  refine WH.take 15 rfl (by kernel_rfl) (by kernel_rfl) (by kernel_rfl) (fun _ _ _ _ _ h => h) rfl rfl rfl HW (RH.index rfl rfl rfl (fun W => (qi_s_api_Block _ _ _ _ _ _ ht))) ?_
  refine WH.take 16 rfl (by kernel_rfl) (by kernel_rfl) (by kernel_rfl) (fun _ _ _ _ _ h => h) rfl rfl rfl HW (RH.nck rfl rfl) ?_
  refine WH.take 17 rfl (by kernel_rfl) (by kernel_rfl) (by kernel_rfl) (fun _ _ _ _ _ h => h) rfl rfl rfl HW (RH.field rfl rfl (fun W => qa_irrun_call_2 W _ _)) ?_
  refine WH.one 18 (by kernel_rfl) rfl ?_ 
  refine O.storeR rfl rfl rfl rfl rfl (RM.putB hc (show RM c _ L x fu d from ⟨hm, hr⟩) hcb hk gb _ t hbk) ?_
  rintro wz ⟨hx2, hf2⟩
  replace hm := hm.fr hf2 (fun e => by omega)
  replace HW := HW.trans' hf2 (fun q hq e => by first | exact e | exact Or.inl e | exact Or.inr e | omega)
  clear hr hm
  obtain ⟨hm, hr⟩ := hx2
  refine WL.fin HW ?_
  refine WH.take 19 rfl (by kernel_rfl) (by kernel_rfl) (by kernel_rfl) (fun _ _ _ _ _ h => h) rfl rfl rfl HW (RH.nck rfl rfl) ?_
  refine WH.take 20 rfl (by kernel_rfl) (by kernel_rfl) (by kernel_rfl) (fun _ _ _ _ _ h => h) rfl rfl rfl HW (RH.field rfl rfl (fun W => qa_irrun_call_3 W _ _)) ?_
  refine WH.one 21 (by kernel_rfl) rfl ?_ 
  refine O.storeR rfl rfl rfl rfl rfl (RM.putI hc (show RM c _ _ _ fu d from ⟨hm, hr⟩) hcb hk 0 0 rfl) ?_
  rintro wy ⟨hx3, hf3⟩
  replace hm := hm.fr hf3 (fun e => by omega)
  replace HW := HW.trans' hf3 (fun q hq e => by first | exact e | exact Or.inl e | exact Or.inr e | omega)
  refine WL.fin HW ?_
  refine WH.end (by kernel_rfl) ?_
  refine O.end0 rfl ?_
  refine ⟨⟨L.ov, L.ca, L.cc, fup (fup L.F k 2 (.pointer (some ⟨gb, ob + t * 5, none⟩))) k 3 (.int .i64 ((0 : Nat) : Int))⟩, rfl, rfl, ?_⟩
  simpa only [rupd_same, rupd_rupd] using hx3
set_option maxRecDepth 100000 in
theorem t_leave {c : RC} {L : RL} {x : RSt} {fu : Int} {k cb : Nat} (hc : c.ok) (hk6 : k < 1000000) (hd : x.d = k + 1) (hcb : L.ca = some ⟨cb, 0, none⟩) (hba : (rBk c.m (x.cl k).n (x.cl k).b).a = -1 ∨ RgP (rPr c.m (x.cl k).n).rg (rBk c.m (x.cl k).n (x.cl k).b).a) (hrd : (x.cl k).rd = -1 ∨ 0 < k ∧ RgP (rPr c.m (x.cl (k - 1)).n).rg (x.cl k).rd) (hvu : U32 (rVal c.m x)) (w : World) (h : RM c w L x fu (k + 1)) : Calls Try.prog 38 #[.pointer (some ⟨c.M, 0, none⟩), .pointer (some ⟨cb, 0 + k * 6, none⟩)] w fun e w' => ∃ L', e = .returned (.tuple #[]) ∧ L'.ca = L.ca ∧ RM c w' L' (rLeave c.m x) fu k := by
  obtain ⟨ov, ca, cc, F⟩ := L
  obtain rfl : ca = some ⟨cb, 0, none⟩ := hcb
  obtain ⟨hm0, hr⟩ := id h
  have hm : Bx w c.M #[ov, .int .i64 x.ins, .int .u32 x.ex, .int .i64 x.e, .slice c.ga c.m.gl.length c.gc, .slice c.da c.m.da.length c.dc, .slice c.pa c.m.pr.length c.pc, .int .i64 c.m.mn, .slice c.ia c.inp.length c.ic, .int .i64 fu, .slice (some ⟨c.mb, 0, none⟩) 65536 65536, .slice c.la c.m.gl.length c.lc, .int .i64 (rFlo c.m), .slice c.fa c.m.pr.length c.fc, (.slice (some ⟨cb, 0, none⟩) (k + 1) cc)] 55 := hm0
  clear hm0
  have hdc : x.d ≤ cc := hr.dc
  have ha := hr.at_ hc rfl (show k < x.d by omega)
  obtain ⟨gb, ob, e2, hbk⟩ := hr.ptr (show k < x.d by omega)
  unfold RgP at hba hrd
  unfold U32 at hvu
  refine calls_tw Try.func38 rfl rfl (Nat.le_of_ble_eq_true rfl) ?_
  refine TW.sreg ?_
  refine WL.op rfl rfl rfl (Go.Proofs.Ythdkmjbeemfbbaa.W.quiet_assign rfl rfl) ?_
  refine WL.nil ?_
  refine TW.seq ?_
  refine TW.sreg ?_
  refine WL.op rfl rfl rfl (Go.Proofs.Ythdkmjbeemfbbaa.W.quiet_move rfl rfl) ?_
  refine O.nck rfl rfl rfl rfl rfl ?_
  refine WL.op rfl rfl rfl (Go.Proofs.Ythdkmjbeemfbbaa.W.quiet_field rfl rfl (fun W => (qa_irrun_call_2 W _ _))) ?_
  refine WL.ld rfl rfl rfl rfl rfl (ql_p_api_Block _ _ _ (ha.c2.trans (congrArg some e2))) ?_
  refine O.nck rfl rfl rfl rfl rfl ?_
  refine WL.op rfl rfl rfl (Go.Proofs.Ythdkmjbeemfbbaa.W.quiet_field rfl rfl (fun W => (qa_api_Block_2 W _ _))) ?_
  refine WL.ld rfl rfl rfl rfl rfl (ql_int _ _ _ (hr.f0.cell hbk.2.2.1 id)) ?_
  refine WL.op rfl rfl rfl (Go.Proofs.Ythdkmjbeemfbbaa.W.quiet_bin rfl rfl rfl (fun W => qb_neq_int W _ _ _ _)) ?_
  refine O.split (fun hb => ?_) (fun hb => ?_)
  · skip
    have hna : ¬ (rBk c.m (x.cl k).n (x.cl k).b).a = -1 := by simpa using hb
    clear hb
    obtain ⟨r, hr0, hrr⟩ : ∃ r : Nat, (rBk c.m (x.cl k).n (x.cl k).b).a = (r : Int) ∧ r < (rPr c.m (x.cl k).n).rg.toNat := by
      rcases hba with e | ⟨e0, e1⟩
      · exact absurd e hna
      · exact ⟨(rBk c.m (x.cl k).n (x.cl k).b).a.toNat, by omega, by omega⟩
    obtain ⟨g3, q3, e3, hg3, hc3, _⟩ := RM.putR hc (show RM c _ ⟨ov, some ⟨cb, 0, none⟩, cc, F⟩ x fu (k + 1) from ⟨hm, hr⟩) (show k < x.d by omega) hrr
    have hv : rVal c.m x = (x.cl k).rg r := by unfold rVal; rw [show rTop x = x.cl k by unfold rTop; rw [show x.d - 1 = k by omega], if_neg hna, hr0]; rfl
    refine WL.nil ?_
    refine TW.cond rfl (fun _ => ?_) (fun hb => by cases hb)
    refine Q.reg (C := fun W => Fr (fun _ => False) w W) (by kernel_rfl) (by kernel_rfl) (fun W h => h.drewN 1) (Fr.refl _ _) ?_
    refine W.op rfl rfl rfl (Go.Proofs.Ythdkmjbeemfbbaa.W.quiet_move rfl rfl) ?_
    refine W.op rfl rfl rfl (Q.nck rfl rfl) ?_
    refine W.op rfl rfl rfl (Go.Proofs.Ythdkmjbeemfbbaa.W.quiet_field rfl rfl (fun W => (qa_irrun_call_0 W _ _))) ?_
    refine W.op rfl rfl rfl (Go.Proofs.Ythdkmjbeemfbbaa.W.quiet_load rfl rfl (fun W hW => (ql_irrun_registers _ _ _ _ _ (hW.cell (ha.c0.trans (congrArg some e3)) id)))) ?_
    refine W.op rfl rfl rfl (Go.Proofs.Ythdkmjbeemfbbaa.W.quiet_move rfl rfl) ?_
    refine W.op rfl rfl rfl (Q.nck rfl rfl) ?_
    refine W.op rfl rfl rfl (Go.Proofs.Ythdkmjbeemfbbaa.W.quiet_field rfl rfl (fun W => (qa_irrun_call_2 W _ _))) ?_
    refine W.op rfl rfl rfl (Go.Proofs.Ythdkmjbeemfbbaa.W.quiet_load rfl rfl (fun W hW => (ql_p_api_Block _ _ _ (hW.cell (ha.c2.trans (congrArg some e2)) id)))) ?_
    refine W.op rfl rfl rfl (Q.nck rfl rfl) ?_
    refine W.op rfl rfl rfl (Go.Proofs.Ythdkmjbeemfbbaa.W.quiet_field rfl rfl (fun W => (qa_api_Block_2 W _ _))) ?_
    refine W.op rfl rfl rfl (Go.Proofs.Ythdkmjbeemfbbaa.W.quiet_load rfl rfl (fun W hW => ((ql_int _ _ _ (hW.cell (hr.f0.cell hbk.2.2.1 id) id)).trans (by rw [hr0])))) ?_
    refine W.op rfl rfl rfl (Go.Proofs.Ythdkmjbeemfbbaa.W.quiet_index rfl rfl rfl (fun W => (qi_irrun_registers _ _ _ _ _ _ (by omega)))) ?_
    refine W.op rfl rfl rfl (Go.Proofs.Ythdkmjbeemfbbaa.W.quiet_load rfl rfl (fun W hW => ((ql_uint32 _ _ _ (hW.cell hc3 id)).trans (by rw [← hv])))) ?_
    refine W.op rfl rfl rfl (Go.Proofs.Ythdkmjbeemfbbaa.W.quiet_assign rfl rfl) ?_
    refine Q.nil (T.tw fun wq1 fq1 => ?_)
    replace hm := hm.fr fq1 id
    replace hr := hr.fr0 hc fq1
    replace ha := hr.at_ hc rfl (show k < x.d by omega)
    refine TW.sreg ?_
    refine WL.op rfl rfl rfl (Go.Proofs.Ythdkmjbeemfbbaa.W.quiet_move rfl rfl) ?_
    refine O.nck rfl rfl rfl rfl rfl ?_
    refine WL.op rfl rfl rfl (Go.Proofs.Ythdkmjbeemfbbaa.W.quiet_field rfl rfl (fun W => (qa_irrun_call_5 W _ _))) ?_
    refine WL.ld rfl rfl rfl rfl rfl (ql_int _ _ _ ha.c5) ?_
    refine WL.op rfl rfl rfl (Go.Proofs.Ythdkmjbeemfbbaa.W.quiet_assign rfl rfl) ?_
    refine WL.nil ?_
    clear ha hbk
    refine TW.sregH (fun W => Fr (fun q => q = c.M) wq1 W) (by kernel_rfl) ?_
    have fd : Fr (fun _ => False) wq1 wq1.drew := (Fr.refl _ _).drewN 1
    have HW : Fr (fun q => q = c.M) wq1 wq1.drew := (Fr.refl _ _).drewN 1
    replace hm := hm.fr fd id
    replace hr := hr.fr0 hc fd
    generalize hV : wq1.drew = V1 at *
    clear hV
    refine WH.take 0 rfl (by kernel_rfl) (by kernel_rfl) (by kernel_rfl) (fun _ _ _ _ _ h => h) rfl rfl rfl HW (RH.move rfl rfl) ?_
    refine WH.take 1 rfl (by kernel_rfl) (by kernel_rfl) (by kernel_rfl) (fun _ _ _ _ _ h => h) rfl rfl rfl HW (RH.move rfl rfl) ?_
    refine WH.take 2 rfl (by kernel_rfl) (by kernel_rfl) (by kernel_rfl) (fun _ _ _ _ _ h => h) rfl rfl rfl HW (RH.nck rfl rfl) ?_
    refine WH.take 3 rfl (by kernel_rfl) (by kernel_rfl) (by kernel_rfl) (fun _ _ _ _ _ h => h) rfl rfl rfl HW (RH.field rfl rfl (fun W => qa_irrun_machine_8 W _ _)) ?_
    refine WH.take 5 rfl (by kernel_rfl) (by kernel_rfl) (by kernel_rfl) (fun _ _ _ _ _ h => h) rfl rfl rfl HW (RH.move rfl rfl) ?_
    refine WH.take 6 rfl (by kernel_rfl) (by kernel_rfl) (by kernel_rfl) (fun _ _ _ _ _ h => h) rfl rfl rfl HW (RH.nck rfl rfl) ?_
    refine WH.take 7 rfl (by kernel_rfl) (by kernel_rfl) (by kernel_rfl) (fun _ _ _ _ _ h => h) rfl rfl rfl HW (RH.field rfl rfl (fun W => qa_irrun_machine_8 W _ _)) ?_
    refine WH.two 4 8 (by kernel_rfl) rfl rfl ?_ ?_ 
    · skip
      refine WL.ld rfl rfl rfl rfl rfl (ql_s_irrun_call _ _ _ _ _ (hm.cell (j := 14) rfl)) ?_
      refine WL.fin HW ?_
      refine WH.one 8 (by kernel_rfl) rfl ?_ 
      refine WL.ld rfl rfl rfl rfl rfl (ql_s_irrun_call _ _ _ _ _ (hm.cell (j := 14) rfl)) ?_
      refine WL.fin HW ?_
      refine WH.take 9 rfl (by kernel_rfl) (by kernel_rfl) (by kernel_rfl) (fun _ _ _ _ _ h => h) rfl rfl rfl HW (RH.len rfl rfl (fun W => qn_s_irrun_call _ _ _ _)) ?_
      refine WH.take 10 rfl (by kernel_rfl) (by kernel_rfl) (by kernel_rfl) (fun _ _ _ _ _ h => h) rfl rfl rfl HW (RH.bin rfl rfl rfl (fun W => pred_i W _ _ _ hk6)) ?_
      refine WH.take 11 rfl (by kernel_rfl) (by kernel_rfl) (by kernel_rfl) (fun _ _ _ _ _ h => h) rfl rfl rfl HW (RH.sl2 rfl rfl rfl (fun W hW => (sl_ck _ _ _ (by omega) _))) ?_
      refine WH.take 12 rfl (by kernel_rfl) (by kernel_rfl) (by kernel_rfl) (fun _ _ _ _ _ h => h) rfl rfl rfl HW (RH.nck rfl rfl) ?_
      refine WH.take 13 rfl (by kernel_rfl) (by kernel_rfl) (by kernel_rfl) (fun _ _ _ _ _ h => h) rfl rfl rfl HW (RH.field rfl rfl (fun W => qa_irrun_machine_8 W _ _)) ?_
      refine WH.one 14 (by kernel_rfl) rfl ?_ 
      refine O.storeR rfl rfl rfl rfl rfl (qsF_s_irrun_call V1 _ 14 _ _ _ _ _ _ hm rfl) ?_
      rintro wa1 ⟨fa1, hmx⟩
      replace hr := hr.frM hc hm fa1
      replace HW := HW.trans' fa1 (fun q hq e => by first | exact e | exact Or.inl e | exact Or.inr e | omega)
      clear hm
      have hm := hmx
      clear hmx
      refine WL.fin HW ?_
      refine WH.done (by kernel_rfl) ?_
      have hrp := hr.pop k (by omega)
      clear hr
      have hr := hrp
      clear hrp
      refine TW.block ?_
      refine TW.sreg ?_
      refine WL.op rfl rfl rfl (Go.Proofs.Ythdkmjbeemfbbaa.W.quiet_move rfl rfl) ?_
      refine O.nck rfl rfl rfl rfl rfl ?_
      refine WL.op rfl rfl rfl (Go.Proofs.Ythdkmjbeemfbbaa.W.quiet_field rfl rfl (fun W => (qa_irrun_machine_8 W _ _))) ?_
      refine WL.ld rfl rfl rfl rfl rfl (ql_s_irrun_call _ _ _ _ _ (hm.cell (j := 14) rfl)) ?_
      refine O.len rfl rfl rfl rfl rfl (qn_s_irrun_call _ _ _ _) ?_
      refine WL.op rfl rfl rfl (Go.Proofs.Ythdkmjbeemfbbaa.W.quiet_bin rfl rfl rfl (fun W => qb_eql_int W _ _ _ _)) ?_
      refine O.split (fun hb => ?_) (fun hb => ?_)
      · skip
        refine WL.op rfl rfl rfl (Go.Proofs.Ythdkmjbeemfbbaa.W.quiet_assign rfl rfl) ?_
        refine WL.nil ?_
        refine TW.cond rfl (fun _ => ?_) (fun hb => by cases hb)
        refine TW.reg ?_
        refine WL.op rfl rfl rfl (Go.Proofs.Ythdkmjbeemfbbaa.W.quiet_move rfl rfl) ?_
        refine WL.op rfl rfl rfl (Go.Proofs.Ythdkmjbeemfbbaa.W.quiet_move rfl rfl) ?_
        refine O.cv rfl rfl rfl rfl rfl (cv_u8 _ _) ?_
        refine O.cv rfl rfl rfl rfl rfl (cv_8u _ _ (by omega) (by omega)) ?_
        refine O.nck rfl rfl rfl rfl rfl ?_
        refine WL.op rfl rfl rfl (Go.Proofs.Ythdkmjbeemfbbaa.W.quiet_field rfl rfl (fun W => (qa_irrun_machine_0 W _ _))) ?_
        refine WL.op rfl rfl rfl (Go.Proofs.Ythdkmjbeemfbbaa.W.quiet_field rfl rfl (fun W => (qa_api_Outcome_2 W _ _))) ?_
        refine O.storeR rfl rfl rfl rfl rfl (qsF_uint32 wa1 _ 2 _ _ _ _ hm rfl) ?_
        rintro wa2 ⟨fa2, hmx⟩
        replace hr := hr.frM hc hm fa2
        clear hm
        have hm := hmx
        clear hmx
        refine WL.end ?_
        refine Xw.nblk ?_
        refine O.end0 rfl ?_
        have hk0 : (k : Int) = 0 := by simpa using hb
        refine ⟨_, rfl, rfl, ?_⟩
        unfold rLeave
        have hx1 : x.d - 1 = k := by omega
        have hT : rTop x = x.cl k := by unfold rTop; rw [hx1]
        rw [if_pos (show x.d - 1 = 0 by omega), hx1, show rVal c.m x = rVal c.m x from rfl]
        exact ⟨hm, hr.as _ rfl rfl rfl rfl⟩
      · skip
        have hk1 : ¬ (k : Int) = 0 := by simpa using hb
        clear hb
        obtain ⟨k, rfl⟩ : ∃ k2, k = k2 + 1 := ⟨k - 1, by omega⟩
        refine WL.op rfl rfl rfl (Go.Proofs.Ythdkmjbeemfbbaa.W.quiet_assign rfl rfl) ?_
        refine WL.nil ?_
        refine TW.cond rfl (fun hb => by cases hb) (fun _ => ?_)
        refine TW.sreg ?_
        refine WL.op rfl rfl rfl (Go.Proofs.Ythdkmjbeemfbbaa.W.quiet_move rfl rfl) ?_
        refine WL.op rfl rfl rfl (Go.Proofs.Ythdkmjbeemfbbaa.W.quiet_bin rfl rfl rfl (fun W => qb_neq_int W _ _ _ _)) ?_
        refine O.split (fun hb => ?_) (fun hb => ?_)
        · skip
          have hrn : ¬ (x.cl (k + 1)).rd = -1 := by simpa using hb
          refine WL.op rfl rfl rfl (Go.Proofs.Ythdkmjbeemfbbaa.W.quiet_assign rfl rfl) ?_
          refine WL.nil ?_
          refine TW.cond rfl (fun _ => ?_) (fun hb => by cases hb)
          refine TW.reg ?_
          refine WL.op rfl rfl rfl (Go.Proofs.Ythdkmjbeemfbbaa.W.quiet_move rfl rfl) ?_
          refine WL.call (hr := (t_cur (by omega) cb rfl hc _ (show RM c _ ⟨ov, some ⟨cb, 0, none⟩, cc, F⟩ { x with d := k + 1 } fu (k + 1) from ⟨hm, hr⟩))) rfl rfl rfl rfl rfl (fun W => qk_irrun_machine_current W _) ?_
          rintro e w7 ⟨rfl, f7⟩
          refine ⟨_, rfl, ?_⟩
          replace hm := hm.fr f7 id
          replace hr := hr.fr0 hc f7
          obtain ⟨r, hr0, hrr⟩ : ∃ r : Nat, (x.cl (k + 1)).rd = (r : Int) ∧ r < (rPr c.m (x.cl k).n).rg.toNat := by
            rcases hrd with e | ⟨_, e0, e1⟩
            · exact absurd e hrn
            · have e1 : (x.cl (k + 1)).rd < (rPr c.m (x.cl k).n).rg := e1
              exact ⟨(x.cl (k + 1)).rd.toNat, by omega, by omega⟩
          obtain ⟨g2, q2, e2, hg2, hc2, hset⟩ := RM.putR hc (show RM c _ ⟨ov, some ⟨cb, 0, none⟩, cc, F⟩ { x with d := k + 1 } fu (k + 1) from ⟨hm, hr⟩) (Nat.lt_succ_self k) hrr
          have ha7 := hr.at_ hc rfl (Nat.lt_succ_self k)
          refine O.nck rfl rfl rfl rfl rfl ?_
          refine WL.op rfl rfl rfl (Go.Proofs.Ythdkmjbeemfbbaa.W.quiet_field rfl rfl (fun W => (qa_irrun_call_0 W _ _))) ?_
          refine WL.ld rfl rfl rfl rfl rfl ((ql_irrun_registers _ _ _ _ _ (ha7.c0.trans (congrArg some e2)))) ?_
          refine WL.op rfl rfl rfl (Go.Proofs.Ythdkmjbeemfbbaa.W.quiet_move rfl rfl) ?_
          refine WL.op rfl rfl rfl (Go.Proofs.Ythdkmjbeemfbbaa.W.quiet_move rfl rfl) ?_
          refine O.ixa rfl rfl rfl rfl rfl rfl ((congrArg (fun z : Value => (Instr.indexAt 64 (.slice (some ⟨g2, 0, none⟩) (rPr c.m (x.cl k).n).rg.toNat q2) z).run Try.prog _) (congrArg (Value.int .i64) hr0)).trans (qi_irrun_registers _ _ _ _ _ _ hrr)) ?_
          refine O.storeR rfl rfl rfl rfl rfl (hset _) ?_
          rintro w8 ⟨hx8, hf8⟩
          refine WL.end ?_
          refine Xw.nblk ?_
          refine O.end0 rfl ?_
          refine ⟨_, rfl, rfl, ?_⟩
          unfold rLeave
          have hx1 : x.d - 1 = k + 1 := by omega
          have hT : rTop x = x.cl (k + 1) := by unfold rTop; rw [hx1]
          rw [if_neg (by omega), hT, if_neg hrn, hx1]
          rw [show rVal c.m x = rVal c.m x from rfl, hr0]
          exact hx8
        · skip
          refine WL.op rfl rfl rfl (Go.Proofs.Ythdkmjbeemfbbaa.W.quiet_assign rfl rfl) ?_
          refine WL.nil ?_
          refine TW.cond rfl (fun hb => by cases hb) (fun _ => ?_)
          refine TW.skipx ?_
          refine Xw.nblk ?_
          refine O.end0 rfl ?_
          have hrn : (x.cl (k + 1)).rd = -1 := by simpa using hb
          refine ⟨_, rfl, rfl, ?_⟩
          unfold rLeave
          have hx1 : x.d - 1 = k + 1 := by omega
          have hT : rTop x = x.cl (k + 1) := by unfold rTop; rw [hx1]
          rw [if_neg (by omega), hT, if_pos hrn, hx1]
          exact ⟨hm, hr⟩
    · skip
      refine WL.ld rfl rfl rfl rfl rfl (ql_s_irrun_call _ _ _ _ _ (hm.cell (j := 14) rfl)) ?_
      refine WL.fin HW ?_
      refine WH.take 9 rfl (by kernel_rfl) (by kernel_rfl) (by kernel_rfl) (fun _ _ _ _ _ h => h) rfl rfl rfl HW (RH.len rfl rfl (fun W => qn_s_irrun_call _ _ _ _)) ?_
      refine WH.take 10 rfl (by kernel_rfl) (by kernel_rfl) (by kernel_rfl) (fun _ _ _ _ _ h => h) rfl rfl rfl HW (RH.bin rfl rfl rfl (fun W => pred_i W _ _ _ hk6)) ?_
      refine WH.one 4 (by kernel_rfl) rfl ?_ 
      refine WL.ld rfl rfl rfl rfl rfl (ql_s_irrun_call _ _ _ _ _ (hm.cell (j := 14) rfl)) ?_
      refine WL.fin HW ?_
      refine WH.take 11 rfl (by kernel_rfl) (by kernel_rfl) (by kernel_rfl) (fun _ _ _ _ _ h => h) rfl rfl rfl HW (RH.sl2 rfl rfl rfl (fun W hW => (sl_ck _ _ _ (by omega) _))) ?_
      refine WH.take 12 rfl (by kernel_rfl) (by kernel_rfl) (by kernel_rfl) (fun _ _ _ _ _ h => h) rfl rfl rfl HW (RH.nck rfl rfl) ?_
      refine WH.take 13 rfl (by kernel_rfl) (by kernel_rfl) (by kernel_rfl) (fun _ _ _ _ _ h => h) rfl rfl rfl HW (RH.field rfl rfl (fun W => qa_irrun_machine_8 W _ _)) ?_
      refine WH.one 14 (by kernel_rfl) rfl ?_ 
      refine O.storeR rfl rfl rfl rfl rfl (qsF_s_irrun_call V1 _ 14 _ _ _ _ _ _ hm rfl) ?_
      rintro wa3 ⟨fa3, hmx⟩
      replace hr := hr.frM hc hm fa3
      replace HW := HW.trans' fa3 (fun q hq e => by first | exact e | exact Or.inl e | exact Or.inr e | omega)
      clear hm
      have hm := hmx
      clear hmx
      refine WL.fin HW ?_
      refine WH.done (by kernel_rfl) ?_
      have hrp := hr.pop k (by omega)
      clear hr
      have hr := hrp
      clear hrp
      refine TW.block ?_
      refine TW.sreg ?_
      refine WL.op rfl rfl rfl (Go.Proofs.Ythdkmjbeemfbbaa.W.quiet_move rfl rfl) ?_
      refine O.nck rfl rfl rfl rfl rfl ?_
      refine WL.op rfl rfl rfl (Go.Proofs.Ythdkmjbeemfbbaa.W.quiet_field rfl rfl (fun W => (qa_irrun_machine_8 W _ _))) ?_
      refine WL.ld rfl rfl rfl rfl rfl (ql_s_irrun_call _ _ _ _ _ (hm.cell (j := 14) rfl)) ?_
      refine O.len rfl rfl rfl rfl rfl (qn_s_irrun_call _ _ _ _) ?_
      refine WL.op rfl rfl rfl (Go.Proofs.Ythdkmjbeemfbbaa.W.quiet_bin rfl rfl rfl (fun W => qb_eql_int W _ _ _ _)) ?_
      refine O.split (fun hb => ?_) (fun hb => ?_)
      · skip
        refine WL.op rfl rfl rfl (Go.Proofs.Ythdkmjbeemfbbaa.W.quiet_assign rfl rfl) ?_
        refine WL.nil ?_
        refine TW.cond rfl (fun _ => ?_) (fun hb => by cases hb)
        refine TW.reg ?_
        refine WL.op rfl rfl rfl (Go.Proofs.Ythdkmjbeemfbbaa.W.quiet_move rfl rfl) ?_
        refine WL.op rfl rfl rfl (Go.Proofs.Ythdkmjbeemfbbaa.W.quiet_move rfl rfl) ?_
        refine O.cv rfl rfl rfl rfl rfl (cv_u8 _ _) ?_
        refine O.cv rfl rfl rfl rfl rfl (cv_8u _ _ (by omega) (by omega)) ?_
        refine O.nck rfl rfl rfl rfl rfl ?_
        refine WL.op rfl rfl rfl (Go.Proofs.Ythdkmjbeemfbbaa.W.quiet_field rfl rfl (fun W => (qa_irrun_machine_0 W _ _))) ?_
        refine WL.op rfl rfl rfl (Go.Proofs.Ythdkmjbeemfbbaa.W.quiet_field rfl rfl (fun W => (qa_api_Outcome_2 W _ _))) ?_
        refine O.storeR rfl rfl rfl rfl rfl (qsF_uint32 wa3 _ 2 _ _ _ _ hm rfl) ?_
        rintro wa4 ⟨fa4, hmx⟩
        replace hr := hr.frM hc hm fa4
        clear hm
        have hm := hmx
        clear hmx
        refine WL.end ?_
        refine Xw.nblk ?_
        refine O.end0 rfl ?_
        have hk0 : (k : Int) = 0 := by simpa using hb
        refine ⟨_, rfl, rfl, ?_⟩
        unfold rLeave
        have hx1 : x.d - 1 = k := by omega
        have hT : rTop x = x.cl k := by unfold rTop; rw [hx1]
        rw [if_pos (show x.d - 1 = 0 by omega), hx1, show rVal c.m x = rVal c.m x from rfl]
        exact ⟨hm, hr.as _ rfl rfl rfl rfl⟩
      · skip
        have hk1 : ¬ (k : Int) = 0 := by simpa using hb
        clear hb
        obtain ⟨k, rfl⟩ : ∃ k2, k = k2 + 1 := ⟨k - 1, by omega⟩
        refine WL.op rfl rfl rfl (Go.Proofs.Ythdkmjbeemfbbaa.W.quiet_assign rfl rfl) ?_
        refine WL.nil ?_
        refine TW.cond rfl (fun hb => by cases hb) (fun _ => ?_)
        refine TW.sreg ?_
        refine WL.op rfl rfl rfl (Go.Proofs.Ythdkmjbeemfbbaa.W.quiet_move rfl rfl) ?_
        refine WL.op rfl rfl rfl (Go.Proofs.Ythdkmjbeemfbbaa.W.quiet_bin rfl rfl rfl (fun W => qb_neq_int W _ _ _ _)) ?_
        refine O.split (fun hb => ?_) (fun hb => ?_)
        · skip
          have hrn : ¬ (x.cl (k + 1)).rd = -1 := by simpa using hb
          refine WL.op rfl rfl rfl (Go.Proofs.Ythdkmjbeemfbbaa.W.quiet_assign rfl rfl) ?_
          refine WL.nil ?_
          refine TW.cond rfl (fun _ => ?_) (fun hb => by cases hb)
          refine TW.reg ?_
          refine WL.op rfl rfl rfl (Go.Proofs.Ythdkmjbeemfbbaa.W.quiet_move rfl rfl) ?_
          refine WL.call (hr := (t_cur (by omega) cb rfl hc _ (show RM c _ ⟨ov, some ⟨cb, 0, none⟩, cc, F⟩ { x with d := k + 1 } fu (k + 1) from ⟨hm, hr⟩))) rfl rfl rfl rfl rfl (fun W => qk_irrun_machine_current W _) ?_
          rintro e w7 ⟨rfl, f7⟩
          refine ⟨_, rfl, ?_⟩
          replace hm := hm.fr f7 id
          replace hr := hr.fr0 hc f7
          obtain ⟨r, hr0, hrr⟩ : ∃ r : Nat, (x.cl (k + 1)).rd = (r : Int) ∧ r < (rPr c.m (x.cl k).n).rg.toNat := by
            rcases hrd with e | ⟨_, e0, e1⟩
            · exact absurd e hrn
            · have e1 : (x.cl (k + 1)).rd < (rPr c.m (x.cl k).n).rg := e1
              exact ⟨(x.cl (k + 1)).rd.toNat, by omega, by omega⟩
          obtain ⟨g2, q2, e2, hg2, hc2, hset⟩ := RM.putR hc (show RM c _ ⟨ov, some ⟨cb, 0, none⟩, cc, F⟩ { x with d := k + 1 } fu (k + 1) from ⟨hm, hr⟩) (Nat.lt_succ_self k) hrr
          have ha7 := hr.at_ hc rfl (Nat.lt_succ_self k)
          refine O.nck rfl rfl rfl rfl rfl ?_
          refine WL.op rfl rfl rfl (Go.Proofs.Ythdkmjbeemfbbaa.W.quiet_field rfl rfl (fun W => (qa_irrun_call_0 W _ _))) ?_
          refine WL.ld rfl rfl rfl rfl rfl ((ql_irrun_registers _ _ _ _ _ (ha7.c0.trans (congrArg some e2)))) ?_
          refine WL.op rfl rfl rfl (Go.Proofs.Ythdkmjbeemfbbaa.W.quiet_move rfl rfl) ?_
          refine WL.op rfl rfl rfl (Go.Proofs.Ythdkmjbeemfbbaa.W.quiet_move rfl rfl) ?_
          refine O.ixa rfl rfl rfl rfl rfl rfl ((congrArg (fun z : Value => (Instr.indexAt 64 (.slice (some ⟨g2, 0, none⟩) (rPr c.m (x.cl k).n).rg.toNat q2) z).run Try.prog _) (congrArg (Value.int .i64) hr0)).trans (qi_irrun_registers _ _ _ _ _ _ hrr)) ?_
          refine O.storeR rfl rfl rfl rfl rfl (hset _) ?_
          rintro w8 ⟨hx8, hf8⟩
          refine WL.end ?_
          refine Xw.nblk ?_
          refine O.end0 rfl ?_
          refine ⟨_, rfl, rfl, ?_⟩
          unfold rLeave
          have hx1 : x.d - 1 = k + 1 := by omega
          have hT : rTop x = x.cl (k + 1) := by unfold rTop; rw [hx1]
          rw [if_neg (by omega), hT, if_neg hrn, hx1]
          rw [show rVal c.m x = rVal c.m x from rfl, hr0]
          exact hx8
        · skip
          refine WL.op rfl rfl rfl (Go.Proofs.Ythdkmjbeemfbbaa.W.quiet_assign rfl rfl) ?_
          refine WL.nil ?_
          refine TW.cond rfl (fun hb => by cases hb) (fun _ => ?_)
          refine TW.skipx ?_
          refine Xw.nblk ?_
          refine O.end0 rfl ?_
          have hrn : (x.cl (k + 1)).rd = -1 := by simpa using hb
          refine ⟨_, rfl, rfl, ?_⟩
          unfold rLeave
          have hx1 : x.d - 1 = k + 1 := by omega
          have hT : rTop x = x.cl (k + 1) := by unfold rTop; rw [hx1]
          rw [if_neg (by omega), hT, if_pos hrn, hx1]
          exact ⟨hm, hr⟩
  · skip
    have hna : (rBk c.m (x.cl k).n (x.cl k).b).a = -1 := by simpa using hb
    clear hb
    have hv : rVal c.m x = 0 := by unfold rVal; rw [show rTop x = x.cl k by unfold rTop; rw [show x.d - 1 = k by omega], if_pos hna]
    refine WL.nil ?_
    refine TW.cond rfl (fun hb => by cases hb) (fun _ => ?_)
    refine TW.skip ?_
    refine TW.sreg ?_
    refine WL.op rfl rfl rfl (Go.Proofs.Ythdkmjbeemfbbaa.W.quiet_move rfl rfl) ?_
    refine O.nck rfl rfl rfl rfl rfl ?_
    refine WL.op rfl rfl rfl (Go.Proofs.Ythdkmjbeemfbbaa.W.quiet_field rfl rfl (fun W => (qa_irrun_call_5 W _ _))) ?_
    refine WL.ld rfl rfl rfl rfl rfl (ql_int _ _ _ ha.c5) ?_
    refine WL.op rfl rfl rfl (Go.Proofs.Ythdkmjbeemfbbaa.W.quiet_assign rfl rfl) ?_
    refine WL.nil ?_
    clear ha hbk
    refine TW.sregH (fun W => Fr (fun q => q = c.M) w W) (by kernel_rfl) ?_
    have fd : Fr (fun _ => False) w w.drew := (Fr.refl _ _).drewN 1
    have HW : Fr (fun q => q = c.M) w w.drew := (Fr.refl _ _).drewN 1
    replace hm := hm.fr fd id
    replace hr := hr.fr0 hc fd
    generalize hV : w.drew = V2 at *
    clear hV
    refine WH.take 0 rfl (by kernel_rfl) (by kernel_rfl) (by kernel_rfl) (fun _ _ _ _ _ h => h) rfl rfl rfl HW (RH.move rfl rfl) ?_
    refine WH.take 1 rfl (by kernel_rfl) (by kernel_rfl) (by kernel_rfl) (fun _ _ _ _ _ h => h) rfl rfl rfl HW (RH.move rfl rfl) ?_
    refine WH.take 2 rfl (by kernel_rfl) (by kernel_rfl) (by kernel_rfl) (fun _ _ _ _ _ h => h) rfl rfl rfl HW (RH.nck rfl rfl) ?_
    refine WH.take 3 rfl (by kernel_rfl) (by kernel_rfl) (by kernel_rfl) (fun _ _ _ _ _ h => h) rfl rfl rfl HW (RH.field rfl rfl (fun W => qa_irrun_machine_8 W _ _)) ?_
    refine WH.take 5 rfl (by kernel_rfl) (by kernel_rfl) (by kernel_rfl) (fun _ _ _ _ _ h => h) rfl rfl rfl HW (RH.move rfl rfl) ?_
    refine WH.take 6 rfl (by kernel_rfl) (by kernel_rfl) (by kernel_rfl) (fun _ _ _ _ _ h => h) rfl rfl rfl HW (RH.nck rfl rfl) ?_
    refine WH.take 7 rfl (by kernel_rfl) (by kernel_rfl) (by kernel_rfl) (fun _ _ _ _ _ h => h) rfl rfl rfl HW (RH.field rfl rfl (fun W => qa_irrun_machine_8 W _ _)) ?_
    refine WH.two 4 8 (by kernel_rfl) rfl rfl ?_ ?_ 
    · skip
      refine WL.ld rfl rfl rfl rfl rfl (ql_s_irrun_call _ _ _ _ _ (hm.cell (j := 14) rfl)) ?_
      refine WL.fin HW ?_
      refine WH.one 8 (by kernel_rfl) rfl ?_ 
      refine WL.ld rfl rfl rfl rfl rfl (ql_s_irrun_call _ _ _ _ _ (hm.cell (j := 14) rfl)) ?_
      refine WL.fin HW ?_
      refine WH.take 9 rfl (by kernel_rfl) (by kernel_rfl) (by kernel_rfl) (fun _ _ _ _ _ h => h) rfl rfl rfl HW (RH.len rfl rfl (fun W => qn_s_irrun_call _ _ _ _)) ?_
      refine WH.take 10 rfl (by kernel_rfl) (by kernel_rfl) (by kernel_rfl) (fun _ _ _ _ _ h => h) rfl rfl rfl HW (RH.bin rfl rfl rfl (fun W => pred_i W _ _ _ hk6)) ?_
      refine WH.take 11 rfl (by kernel_rfl) (by kernel_rfl) (by kernel_rfl) (fun _ _ _ _ _ h => h) rfl rfl rfl HW (RH.sl2 rfl rfl rfl (fun W hW => (sl_ck _ _ _ (by omega) _))) ?_
      refine WH.take 12 rfl (by kernel_rfl) (by kernel_rfl) (by kernel_rfl) (fun _ _ _ _ _ h => h) rfl rfl rfl HW (RH.nck rfl rfl) ?_
      refine WH.take 13 rfl (by kernel_rfl) (by kernel_rfl) (by kernel_rfl) (fun _ _ _ _ _ h => h) rfl rfl rfl HW (RH.field rfl rfl (fun W => qa_irrun_machine_8 W _ _)) ?_
      refine WH.one 14 (by kernel_rfl) rfl ?_ 
      refine O.storeR rfl rfl rfl rfl rfl (qsF_s_irrun_call V2 _ 14 _ _ _ _ _ _ hm rfl) ?_
      rintro wa5 ⟨fa5, hmx⟩
      replace hr := hr.frM hc hm fa5
      replace HW := HW.trans' fa5 (fun q hq e => by first | exact e | exact Or.inl e | exact Or.inr e | omega)
      clear hm
      have hm := hmx
      clear hmx
      refine WL.fin HW ?_
      refine WH.done (by kernel_rfl) ?_
      have hrp := hr.pop k (by omega)
      clear hr
      have hr := hrp
      clear hrp
      refine TW.block ?_
      refine TW.sreg ?_
      refine WL.op rfl rfl rfl (Go.Proofs.Ythdkmjbeemfbbaa.W.quiet_move rfl rfl) ?_
      refine O.nck rfl rfl rfl rfl rfl ?_
      refine WL.op rfl rfl rfl (Go.Proofs.Ythdkmjbeemfbbaa.W.quiet_field rfl rfl (fun W => (qa_irrun_machine_8 W _ _))) ?_
      refine WL.ld rfl rfl rfl rfl rfl (ql_s_irrun_call _ _ _ _ _ (hm.cell (j := 14) rfl)) ?_
      refine O.len rfl rfl rfl rfl rfl (qn_s_irrun_call _ _ _ _) ?_
      refine WL.op rfl rfl rfl (Go.Proofs.Ythdkmjbeemfbbaa.W.quiet_bin rfl rfl rfl (fun W => qb_eql_int W _ _ _ _)) ?_
      refine O.split (fun hb => ?_) (fun hb => ?_)
      · skip
        refine WL.op rfl rfl rfl (Go.Proofs.Ythdkmjbeemfbbaa.W.quiet_assign rfl rfl) ?_
        refine WL.nil ?_
        refine TW.cond rfl (fun _ => ?_) (fun hb => by cases hb)
        refine TW.reg ?_
        refine WL.op rfl rfl rfl (Go.Proofs.Ythdkmjbeemfbbaa.W.quiet_move rfl rfl) ?_
        refine WL.op rfl rfl rfl (Go.Proofs.Ythdkmjbeemfbbaa.W.quiet_move rfl rfl) ?_
        refine O.cv rfl rfl rfl rfl rfl (cv_u8 _ _) ?_
        refine O.cv rfl rfl rfl rfl rfl (cv_8u _ _ (by omega) (by omega)) ?_
        refine O.nck rfl rfl rfl rfl rfl ?_
        refine WL.op rfl rfl rfl (Go.Proofs.Ythdkmjbeemfbbaa.W.quiet_field rfl rfl (fun W => (qa_irrun_machine_0 W _ _))) ?_
        refine WL.op rfl rfl rfl (Go.Proofs.Ythdkmjbeemfbbaa.W.quiet_field rfl rfl (fun W => (qa_api_Outcome_2 W _ _))) ?_
        refine O.storeR rfl rfl rfl rfl rfl (qsF_uint32 wa5 _ 2 _ _ _ _ hm rfl) ?_
        rintro wa6 ⟨fa6, hmx⟩
        replace hr := hr.frM hc hm fa6
        clear hm
        have hm := hmx
        clear hmx
        refine WL.end ?_
        refine Xw.nblk ?_
        refine O.end0 rfl ?_
        have hk0 : (k : Int) = 0 := by simpa using hb
        refine ⟨_, rfl, rfl, ?_⟩
        unfold rLeave
        have hx1 : x.d - 1 = k := by omega
        have hT : rTop x = x.cl k := by unfold rTop; rw [hx1]
        rw [if_pos (show x.d - 1 = 0 by omega), hx1, hv]
        exact ⟨hm, hr.as _ rfl rfl rfl rfl⟩
      · skip
        have hk1 : ¬ (k : Int) = 0 := by simpa using hb
        clear hb
        obtain ⟨k, rfl⟩ : ∃ k2, k = k2 + 1 := ⟨k - 1, by omega⟩
        refine WL.op rfl rfl rfl (Go.Proofs.Ythdkmjbeemfbbaa.W.quiet_assign rfl rfl) ?_
        refine WL.nil ?_
        refine TW.cond rfl (fun hb => by cases hb) (fun _ => ?_)
        refine TW.sreg ?_
        refine WL.op rfl rfl rfl (Go.Proofs.Ythdkmjbeemfbbaa.W.quiet_move rfl rfl) ?_
        refine WL.op rfl rfl rfl (Go.Proofs.Ythdkmjbeemfbbaa.W.quiet_bin rfl rfl rfl (fun W => qb_neq_int W _ _ _ _)) ?_
        refine O.split (fun hb => ?_) (fun hb => ?_)
        · skip
          have hrn : ¬ (x.cl (k + 1)).rd = -1 := by simpa using hb
          refine WL.op rfl rfl rfl (Go.Proofs.Ythdkmjbeemfbbaa.W.quiet_assign rfl rfl) ?_
          refine WL.nil ?_
          refine TW.cond rfl (fun _ => ?_) (fun hb => by cases hb)
          refine TW.reg ?_
          refine WL.op rfl rfl rfl (Go.Proofs.Ythdkmjbeemfbbaa.W.quiet_move rfl rfl) ?_
          refine WL.call (hr := (t_cur (by omega) cb rfl hc _ (show RM c _ ⟨ov, some ⟨cb, 0, none⟩, cc, F⟩ { x with d := k + 1 } fu (k + 1) from ⟨hm, hr⟩))) rfl rfl rfl rfl rfl (fun W => qk_irrun_machine_current W _) ?_
          rintro e w7 ⟨rfl, f7⟩
          refine ⟨_, rfl, ?_⟩
          replace hm := hm.fr f7 id
          replace hr := hr.fr0 hc f7
          obtain ⟨r, hr0, hrr⟩ : ∃ r : Nat, (x.cl (k + 1)).rd = (r : Int) ∧ r < (rPr c.m (x.cl k).n).rg.toNat := by
            rcases hrd with e | ⟨_, e0, e1⟩
            · exact absurd e hrn
            · have e1 : (x.cl (k + 1)).rd < (rPr c.m (x.cl k).n).rg := e1
              exact ⟨(x.cl (k + 1)).rd.toNat, by omega, by omega⟩
          obtain ⟨g2, q2, e2, hg2, hc2, hset⟩ := RM.putR hc (show RM c _ ⟨ov, some ⟨cb, 0, none⟩, cc, F⟩ { x with d := k + 1 } fu (k + 1) from ⟨hm, hr⟩) (Nat.lt_succ_self k) hrr
          have ha7 := hr.at_ hc rfl (Nat.lt_succ_self k)
          refine O.nck rfl rfl rfl rfl rfl ?_
          refine WL.op rfl rfl rfl (Go.Proofs.Ythdkmjbeemfbbaa.W.quiet_field rfl rfl (fun W => (qa_irrun_call_0 W _ _))) ?_
          refine WL.ld rfl rfl rfl rfl rfl ((ql_irrun_registers _ _ _ _ _ (ha7.c0.trans (congrArg some e2)))) ?_
          refine WL.op rfl rfl rfl (Go.Proofs.Ythdkmjbeemfbbaa.W.quiet_move rfl rfl) ?_
          refine WL.op rfl rfl rfl (Go.Proofs.Ythdkmjbeemfbbaa.W.quiet_move rfl rfl) ?_
          refine O.ixa rfl rfl rfl rfl rfl rfl ((congrArg (fun z : Value => (Instr.indexAt 64 (.slice (some ⟨g2, 0, none⟩) (rPr c.m (x.cl k).n).rg.toNat q2) z).run Try.prog _) (congrArg (Value.int .i64) hr0)).trans (qi_irrun_registers _ _ _ _ _ _ hrr)) ?_
          refine O.storeR rfl rfl rfl rfl rfl (hset _) ?_
          rintro w8 ⟨hx8, hf8⟩
          refine WL.end ?_
          refine Xw.nblk ?_
          refine O.end0 rfl ?_
          refine ⟨_, rfl, rfl, ?_⟩
          unfold rLeave
          have hx1 : x.d - 1 = k + 1 := by omega
          have hT : rTop x = x.cl (k + 1) := by unfold rTop; rw [hx1]
          rw [if_neg (by omega), hT, if_neg hrn, hx1]
          rw [hv, hr0]
          exact hx8
        · skip
          refine WL.op rfl rfl rfl (Go.Proofs.Ythdkmjbeemfbbaa.W.quiet_assign rfl rfl) ?_
          refine WL.nil ?_
          refine TW.cond rfl (fun hb => by cases hb) (fun _ => ?_)
          refine TW.skipx ?_
          refine Xw.nblk ?_
          refine O.end0 rfl ?_
          have hrn : (x.cl (k + 1)).rd = -1 := by simpa using hb
          refine ⟨_, rfl, rfl, ?_⟩
          unfold rLeave
          have hx1 : x.d - 1 = k + 1 := by omega
          have hT : rTop x = x.cl (k + 1) := by unfold rTop; rw [hx1]
          rw [if_neg (by omega), hT, if_pos hrn, hx1]
          exact ⟨hm, hr⟩
    · skip
      refine WL.ld rfl rfl rfl rfl rfl (ql_s_irrun_call _ _ _ _ _ (hm.cell (j := 14) rfl)) ?_
      refine WL.fin HW ?_
      refine WH.take 9 rfl (by kernel_rfl) (by kernel_rfl) (by kernel_rfl) (fun _ _ _ _ _ h => h) rfl rfl rfl HW (RH.len rfl rfl (fun W => qn_s_irrun_call _ _ _ _)) ?_
      refine WH.take 10 rfl (by kernel_rfl) (by kernel_rfl) (by kernel_rfl) (fun _ _ _ _ _ h => h) rfl rfl rfl HW (RH.bin rfl rfl rfl (fun W => pred_i W _ _ _ hk6)) ?_
      refine WH.one 4 (by kernel_rfl) rfl ?_ 
      refine WL.ld rfl rfl rfl rfl rfl (ql_s_irrun_call _ _ _ _ _ (hm.cell (j := 14) rfl)) ?_
      refine WL.fin HW ?_
      refine WH.take 11 rfl (by kernel_rfl) (by kernel_rfl) (by kernel_rfl) (fun _ _ _ _ _ h => h) rfl rfl rfl HW (RH.sl2 rfl rfl rfl (fun W hW => (sl_ck _ _ _ (by omega) _))) ?_
      refine WH.take 12 rfl (by kernel_rfl) (by kernel_rfl) (by kernel_rfl) (fun _ _ _ _ _ h => h) rfl rfl rfl HW (RH.nck rfl rfl) ?_
      refine WH.take 13 rfl (by kernel_rfl) (by kernel_rfl) (by kernel_rfl) (fun _ _ _ _ _ h => h) rfl rfl rfl HW (RH.field rfl rfl (fun W => qa_irrun_machine_8 W _ _)) ?_
      refine WH.one 14 (by kernel_rfl) rfl ?_ 
      refine O.storeR rfl rfl rfl rfl rfl (qsF_s_irrun_call V2 _ 14 _ _ _ _ _ _ hm rfl) ?_
      rintro wa7 ⟨fa7, hmx⟩
      replace hr := hr.frM hc hm fa7
      replace HW := HW.trans' fa7 (fun q hq e => by first | exact e | exact Or.inl e | exact Or.inr e | omega)
      clear hm
      have hm := hmx
      clear hmx
      refine WL.fin HW ?_
      refine WH.done (by kernel_rfl) ?_
      have hrp := hr.pop k (by omega)
      clear hr
      have hr := hrp
      clear hrp
      refine TW.block ?_
      refine TW.sreg ?_
      refine WL.op rfl rfl rfl (Go.Proofs.Ythdkmjbeemfbbaa.W.quiet_move rfl rfl) ?_
      refine O.nck rfl rfl rfl rfl rfl ?_
      refine WL.op rfl rfl rfl (Go.Proofs.Ythdkmjbeemfbbaa.W.quiet_field rfl rfl (fun W => (qa_irrun_machine_8 W _ _))) ?_
      refine WL.ld rfl rfl rfl rfl rfl (ql_s_irrun_call _ _ _ _ _ (hm.cell (j := 14) rfl)) ?_
      refine O.len rfl rfl rfl rfl rfl (qn_s_irrun_call _ _ _ _) ?_
      refine WL.op rfl rfl rfl (Go.Proofs.Ythdkmjbeemfbbaa.W.quiet_bin rfl rfl rfl (fun W => qb_eql_int W _ _ _ _)) ?_
      refine O.split (fun hb => ?_) (fun hb => ?_)
      · skip
        refine WL.op rfl rfl rfl (Go.Proofs.Ythdkmjbeemfbbaa.W.quiet_assign rfl rfl) ?_
        refine WL.nil ?_
        refine TW.cond rfl (fun _ => ?_) (fun hb => by cases hb)
        refine TW.reg ?_
        refine WL.op rfl rfl rfl (Go.Proofs.Ythdkmjbeemfbbaa.W.quiet_move rfl rfl) ?_
        refine WL.op rfl rfl rfl (Go.Proofs.Ythdkmjbeemfbbaa.W.quiet_move rfl rfl) ?_
        refine O.cv rfl rfl rfl rfl rfl (cv_u8 _ _) ?_
        refine O.cv rfl rfl rfl rfl rfl (cv_8u _ _ (by omega) (by omega)) ?_
        refine O.nck rfl rfl rfl rfl rfl ?_
        refine WL.op rfl rfl rfl (Go.Proofs.Ythdkmjbeemfbbaa.W.quiet_field rfl rfl (fun W => (qa_irrun_machine_0 W _ _))) ?_
        refine WL.op rfl rfl rfl (Go.Proofs.Ythdkmjbeemfbbaa.W.quiet_field rfl rfl (fun W => (qa_api_Outcome_2 W _ _))) ?_
        refine O.storeR rfl rfl rfl rfl rfl (qsF_uint32 wa7 _ 2 _ _ _ _ hm rfl) ?_
        rintro wa8 ⟨fa8, hmx⟩
        replace hr := hr.frM hc hm fa8
        clear hm
        have hm := hmx
        clear hmx
        refine WL.end ?_
        refine Xw.nblk ?_
        refine O.end0 rfl ?_
        have hk0 : (k : Int) = 0 := by simpa using hb
        refine ⟨_, rfl, rfl, ?_⟩
        unfold rLeave
        have hx1 : x.d - 1 = k := by omega
        have hT : rTop x = x.cl k := by unfold rTop; rw [hx1]
        rw [if_pos (show x.d - 1 = 0 by omega), hx1, hv]
        exact ⟨hm, hr.as _ rfl rfl rfl rfl⟩
      · skip
        have hk1 : ¬ (k : Int) = 0 := by simpa using hb
        clear hb
        obtain ⟨k, rfl⟩ : ∃ k2, k = k2 + 1 := ⟨k - 1, by omega⟩
        refine WL.op rfl rfl rfl (Go.Proofs.Ythdkmjbeemfbbaa.W.quiet_assign rfl rfl) ?_
        refine WL.nil ?_
        refine TW.cond rfl (fun hb => by cases hb) (fun _ => ?_)
        refine TW.sreg ?_
        refine WL.op rfl rfl rfl (Go.Proofs.Ythdkmjbeemfbbaa.W.quiet_move rfl rfl) ?_
        refine WL.op rfl rfl rfl (Go.Proofs.Ythdkmjbeemfbbaa.W.quiet_bin rfl rfl rfl (fun W => qb_neq_int W _ _ _ _)) ?_
        refine O.split (fun hb => ?_) (fun hb => ?_)
        · skip
          have hrn : ¬ (x.cl (k + 1)).rd = -1 := by simpa using hb
          refine WL.op rfl rfl rfl (Go.Proofs.Ythdkmjbeemfbbaa.W.quiet_assign rfl rfl) ?_
          refine WL.nil ?_
          refine TW.cond rfl (fun _ => ?_) (fun hb => by cases hb)
          refine TW.reg ?_
          refine WL.op rfl rfl rfl (Go.Proofs.Ythdkmjbeemfbbaa.W.quiet_move rfl rfl) ?_
          refine WL.call (hr := (t_cur (by omega) cb rfl hc _ (show RM c _ ⟨ov, some ⟨cb, 0, none⟩, cc, F⟩ { x with d := k + 1 } fu (k + 1) from ⟨hm, hr⟩))) rfl rfl rfl rfl rfl (fun W => qk_irrun_machine_current W _) ?_
          rintro e w7 ⟨rfl, f7⟩
          refine ⟨_, rfl, ?_⟩
          replace hm := hm.fr f7 id
          replace hr := hr.fr0 hc f7
          obtain ⟨r, hr0, hrr⟩ : ∃ r : Nat, (x.cl (k + 1)).rd = (r : Int) ∧ r < (rPr c.m (x.cl k).n).rg.toNat := by
            rcases hrd with e | ⟨_, e0, e1⟩
            · exact absurd e hrn
            · have e1 : (x.cl (k + 1)).rd < (rPr c.m (x.cl k).n).rg := e1
              exact ⟨(x.cl (k + 1)).rd.toNat, by omega, by omega⟩
          obtain ⟨g2, q2, e2, hg2, hc2, hset⟩ := RM.putR hc (show RM c _ ⟨ov, some ⟨cb, 0, none⟩, cc, F⟩ { x with d := k + 1 } fu (k + 1) from ⟨hm, hr⟩) (Nat.lt_succ_self k) hrr
          have ha7 := hr.at_ hc rfl (Nat.lt_succ_self k)
          refine O.nck rfl rfl rfl rfl rfl ?_
          refine WL.op rfl rfl rfl (Go.Proofs.Ythdkmjbeemfbbaa.W.quiet_field rfl rfl (fun W => (qa_irrun_call_0 W _ _))) ?_
          refine WL.ld rfl rfl rfl rfl rfl ((ql_irrun_registers _ _ _ _ _ (ha7.c0.trans (congrArg some e2)))) ?_
          refine WL.op rfl rfl rfl (Go.Proofs.Ythdkmjbeemfbbaa.W.quiet_move rfl rfl) ?_
          refine WL.op rfl rfl rfl (Go.Proofs.Ythdkmjbeemfbbaa.W.quiet_move rfl rfl) ?_
          refine O.ixa rfl rfl rfl rfl rfl rfl ((congrArg (fun z : Value => (Instr.indexAt 64 (.slice (some ⟨g2, 0, none⟩) (rPr c.m (x.cl k).n).rg.toNat q2) z).run Try.prog _) (congrArg (Value.int .i64) hr0)).trans (qi_irrun_registers _ _ _ _ _ _ hrr)) ?_
          refine O.storeR rfl rfl rfl rfl rfl (hset _) ?_
          rintro w8 ⟨hx8, hf8⟩
          refine WL.end ?_
          refine Xw.nblk ?_
          refine O.end0 rfl ?_
          refine ⟨_, rfl, rfl, ?_⟩
          unfold rLeave
          have hx1 : x.d - 1 = k + 1 := by omega
          have hT : rTop x = x.cl (k + 1) := by unfold rTop; rw [hx1]
          rw [if_neg (by omega), hT, if_neg hrn, hx1]
          rw [hv, hr0]
          exact hx8
        · skip
          refine WL.op rfl rfl rfl (Go.Proofs.Ythdkmjbeemfbbaa.W.quiet_assign rfl rfl) ?_
          refine WL.nil ?_
          refine TW.cond rfl (fun hb => by cases hb) (fun _ => ?_)
          refine TW.skipx ?_
          refine Xw.nblk ?_
          refine O.end0 rfl ?_
          have hrn : (x.cl (k + 1)).rd = -1 := by simpa using hb
          refine ⟨_, rfl, rfl, ?_⟩
          unfold rLeave
          have hx1 : x.d - 1 = k + 1 := by omega
          have hT : rTop x = x.cl (k + 1) := by unfold rTop; rw [hx1]
          rw [if_neg (by omega), hT, if_pos hrn, hx1]
          exact ⟨hm, hr⟩
end Go.Proofs.Ythdkmjbeemfbbaa
