/-
  Flow (layer 16): what is live: an instruction passed; a table.
-/
import Derived.Test.YtobibplilbchfaaLvA
import Derived.Test.YtobibplilbchfaaFlR
namespace Go.Proofs.Ytobibplilbchfaa
open Go.RowKit
set_option linter.unusedVariables false
set_option linter.unusedSimpArgs false
set_option linter.unnecessarySimpa false
theorem qxR_flow_effect (w : World) (um0 : Int) (up1 : Option Addr) (uk1 ul1 : Nat) : ∃ w', (Instr.box 71 (.agg #[.int .i64 um0, .slice up1 uk1 ul1])).run Try.prog w = .ok (.pointer (some ⟨w.heap.size, 0, none⟩)) w' ∧ (Fr (fun _ => False) w w' ∧ Bx w' w.heap.size #[.int .i64 um0, .slice up1 uk1 ul1] 71) := ⟨w.alloc (.cells #[.int .i64 um0, .slice up1 uk1 ul1] 71), by simp [go_sem], fr_al (Fr.refl _ _) _, Bx.new _ _ _⟩
theorem qa_flow_effect_0 (w : World) (b o : Nat) : (Instr.fieldAt 71 (.pointer (some ⟨b, o, none⟩)) 0).run Try.prog w = .ok (.pointer (some ⟨b, o, none⟩)) w := by simp [go_sem]
theorem qa_flow_effect_1 (w : World) (b o : Nat) : (Instr.fieldAt 71 (.pointer (some ⟨b, o, none⟩)) 1).run Try.prog w = .ok (.pointer (some ⟨b, o + 1, none⟩)) w := by simp [go_sem]
theorem qk_flow_Row_read (w : World) (vs : Array Value) : (callFunc 28 vs).run Try.prog w = .ok (.enter 28 vs) w := by simp [go_sem]
theorem qn_s_s_bool (w : World) (a : Option Addr) (k l : Nat) : (Builtin.len_ #[42] 3 #[.slice a k l]).run Try.prog w = .ok (.int .i64 k) w := by simp [go_sem]
theorem qi_s_s_bool (w : World) (b o n c j : Nat) (hj : j < n) : (Instr.indexAt 42 (.slice (some ⟨b, o, none⟩) n c) (.int .i64 (j : Int))).run Try.prog w = .ok (.pointer (some ⟨b, o + j, none⟩)) w := by
  have h : (j : Int) < (n : Int) := by omega
  simp [go_sem, h, hj]
theorem bC_one (x : Bool) : ∀ u ∈ bC x, u.oneCell' = true := fun u hu => by
  obtain rfl : u = .bool x := by simpa [bC] using hu
  rfl
theorem infoSB : (Try.prog.info? 30).map (fun i => (i.zero, i.size, i.bytes)) = some (some (.slice none 0 0), 1, 24) := by kernel_rfl
theorem mk_sb (n : Nat) (hn : n ≤ 1000000) (w : World) : (Instr.makeSlice 42 (.int .i64 (n : Int)) (.int .i64 (n : Int))).run Try.prog w = .ok (.slice (some ⟨w.heap.size, 0, none⟩) n n) (w.alloc (.cells (madeCells #[.slice none 0 0] n) 30)) :=
  run_make_row' 42 30 (.slice none 0 0) 24 Try.underlying42 infoSB rfl .i64 .i64 n (by omega) (by omega) w
theorem st_sb (w : World) (u : Value) (a : Option Addr) (m c : Nat) (d : Addr) (h : w.cell? d = some u) (hf : w.frozen? d = false) : (Instr.storeAt 30 (.pointer (some d)) (.slice a m c)).run Try.prog w = .ok () (w.setCell d (.slice a m c)) := by simp [go_sem, h, hf]
theorem ld_sb (w : World) (v : Value) (d : Addr) (h : w.cell? d = some v) (hv : ∃ a m c, v = .slice a m c) : (Instr.loadAt 30 (.pointer (some d))).run Try.prog w = .ok v w := by
  obtain ⟨a, m, c, rfl⟩ := hv
  simp [go_sem, h]
def tabJ (n m j : Nat) : List (List Bool) := (List.range n).map fun k => if k < j then List.replicate m false else []
theorem tabJ_len (n m j : Nat) : (tabJ n m j).length = n := by simp [tabJ]
theorem tabJ_zero (n m : Nat) : tabJ n m 0 = List.replicate n [] := by
  refine List.ext_getElem (by simp [tabJ]) fun k h1 h2 => ?_
  simp [tabJ]
theorem tabJ_end (n m : Nat) : tabJ n m n = List.replicate n (List.replicate m false) := by
  refine List.ext_getElem (by simp [tabJ]) fun k h1 h2 => ?_
  have : k < n := by simpa [tabJ] using h1
  simp [tabJ, this]
theorem tabJ_succ (n m j : Nat) (hj : j < n) : (tabJ n m j).set j (List.replicate m false) = tabJ n m (j + 1) := by
  refine List.ext_getElem (by simp [tabJ]) fun k h1 h2 => ?_
  have hk : k < n := by simpa [tabJ] using h2
  rw [List.getElem_set]
  by_cases q : j = k
  · subst q; simp [tabJ]
  · rw [if_neg q]
    simp only [tabJ, List.getElem_map, List.getElem_range]
    by_cases h : k < j
    · rw [if_pos h, if_pos (by omega)]
    · rw [if_neg h, if_neg (by omega)]
/-- A cell of a row of a table written. -/
theorem Tbl.set1 {w : World} {B S n : Nat} {vs : List Value} {xss : List (List Bool)} (h : Tbl B 4 30 bC w S n vs xss) {k : Nat} (hk : k < n) {g c m : Nat} (hv : vs.getD k nilS = .slice (some ⟨g, 0, none⟩) m c) {r : Nat} (hr : r < (xss.getD k []).length) (x : Bool) : ∃ w', (Instr.storeAt 4 (.pointer (some ⟨g, 0 + r, none⟩)) (.bool x)).run Try.prog w = .ok () w' ∧ (Tbl B 4 30 bC w' S n vs (xss.set k ((xss.getD k []).set r x)) ∧ Fr (fun q => q = g) w w') := by
  have hrow := h.hr k hk
  rw [hv] at hrow
  obtain ⟨w', hrun, hb, hF⟩ := Bools.store (B := B) hrow hr x
  obtain ⟨cS, hcS⟩ := h.hs.typ S rfl
  have hgS : g ≠ S := fun e => (hrow.apart_typ hcS (by decide)) (by rw [e]; rfl)
  refine ⟨w', hrun, ⟨h.hs.fr hF (fun q e e2 => by cases e; exact hgS e2.symm), h.hl, by rw [List.length_set, h.hx], fun j hj => ?_, h.ap⟩, hF⟩
  rw [getD_setV _ _ _ _ _ (by rw [h.hx]; exact hk)]
  by_cases e : j = k
  · subst e
    rw [if_pos rfl, hv]
    exact hb
  · rw [if_neg e]
    exact (h.hr j hj).fr hF (fun q e1 e2 => by subst e2; exact h.ap j k hj hk e q e1 (by rw [hv]; rfl))
set_option maxRecDepth 100000 in
theorem t_pass (B B2 g c : Nat) (xs : List Bool) (d : Int) (rv : Value) (rs : List Int) (hrl : rs.length ≤ 1000000) (w : World) (hL : Bools B w (.slice (some ⟨g, 0, none⟩) xs.length c) xs) (hR : Ints B2 w rv rs) : Calls Try.prog 32 #[.slice (some ⟨g, 0, none⟩) xs.length c, .agg #[.int .i64 d, rv]] w fun e w' => e = .returned (.tuple #[]) ∧ Bools B w' (.slice (some ⟨g, 0, none⟩) xs.length c) (passL xs d rs) ∧ Fr (fun q => q = g) w w' := by
  obtain ⟨ra, rc, rfl⟩ := Row.form hR
  have hgl : g < w.heap.size := (Row.lt hL g rfl).2
  refine calls_tw Try.func32 rfl rfl (Nat.le_of_ble_eq_true rfl) ?_
  refine TW.sreg ?_
  refine O.boxR rfl rfl rfl rfl rfl (qxR_flow_effect w _ _ _ _) ?_
  rintro wa1 ⟨fa1, bx1⟩
  replace hL := hL.fr fa1 (fun _ _ => id)
  replace hR := Ints.fr hR fa1 (fun _ _ => id)
  have fd : Fr (fun q => q = g) w wa1 := fa1.mono (fun _ _ e => e.elim)
  skip
  refine WL.nil ?_
  refine TW.seq ?_
  refine TW.sreg ?_
  refine WL.op rfl rfl rfl (Go.Proofs.Ytobibplilbchfaa.W.quiet_move rfl rfl) ?_
  refine WL.op rfl rfl rfl (Go.Proofs.Ytobibplilbchfaa.W.quiet_field rfl rfl (fun W => (qa_flow_effect_0 W _ _))) ?_
  refine WL.ld rfl rfl rfl rfl rfl (ql_int _ _ _ (bx1.cell (j := 0) rfl)) ?_
  refine WL.call (hr := t_has _ xs.length c d _) rfl rfl rfl rfl rfl (fun W => qk_flow_Row_has W _) ?_
  rintro e w1 ⟨rfl, f1⟩
  refine ⟨_, rfl, ?_⟩
  replace bx1 := bx1.fr f1 id
  replace hL := hL.fr f1 (fun _ _ => id)
  replace hR := Ints.fr hR f1 (fun _ _ => id)
  replace fd := fd.trans' f1 (fun _ _ e => e.elim)
  refine O.split (fun h2 => ?_) (fun h2 => ?_)
  · skip
    obtain ⟨h3, h4⟩ := inR_yes h2
    obtain ⟨m, rfl⟩ : ∃ m : Nat, d = (m : Int) := ⟨d.toNat, by omega⟩
    refine WL.nil ?_
    refine TW.cond rfl (fun _ => ?_) (fun hb => by cases hb)
    refine TW.reg ?_
    refine WL.op rfl rfl rfl (Go.Proofs.Ytobibplilbchfaa.W.quiet_move rfl rfl) ?_
    refine WL.op rfl rfl rfl (Go.Proofs.Ytobibplilbchfaa.W.quiet_field rfl rfl (fun W => (qa_flow_effect_0 W _ _))) ?_
    refine WL.ld rfl rfl rfl rfl rfl (ql_int _ _ _ (bx1.cell (j := 0) rfl)) ?_
    refine O.ixa rfl rfl rfl rfl rfl rfl (by exact qi_flow_Row _ _ _ _ _ m (by omega)) ?_
    refine O.storeR rfl rfl rfl rfl rfl (hL.store (k := m) (by omega) false) ?_
    rintro w5 ⟨hL2, hF2⟩
    have e1 : set1 xs (m : Int) false = xs.set m false := by unfold set1; rw [if_pos h2]; rfl
    have hln : (set1 xs (m : Int) false).length = xs.length := set1_len _ _ _
    replace hR := Ints.fr hR hF2 (fun q e e2 => Row.apart_typ hR (Row.typ hL g rfl).choose_spec (by decide) (e.trans (congrArg some e2)))
    replace bx1 := bx1.fr hF2 (fun e => by omega)
    rw [← e1] at hL2
    replace fd := fd.trans' hF2 (fun _ _ e => e)
    rw [← hln] at hL2
    refine WL.nil ?_
    refine TW.reg ?_
    refine WL.op rfl rfl rfl (Go.Proofs.Ytobibplilbchfaa.W.quiet_move rfl rfl) ?_
    refine WL.op rfl rfl rfl (Go.Proofs.Ytobibplilbchfaa.W.quiet_field rfl rfl (fun W => (qa_flow_effect_1 W _ _))) ?_
    refine WL.ld rfl rfl rfl rfl rfl (ql_s_int _ _ _ _ _ (bx1.cell (j := 1) rfl)) ?_
    refine WL.call (hr := (by have := t_read B B2 g c (set1 xs (m : Int) false) _ rs hrl _ hL2 hR; rw [hln] at this; exact this)) rfl rfl rfl rfl rfl (fun W => qk_flow_Row_read W _) ?_
    rintro e w3 ⟨rfl, hL3, f3⟩
    refine ⟨_, rfl, ?_⟩
    refine WL.end ?_
    refine O.end0 rfl ?_
    exact ⟨rfl, hL3, fd.trans' f3 (fun _ _ e => e)⟩
  · skip
    have e1 : set1 xs d false = xs := by unfold set1; rw [if_neg (by rw [h2]; decide)]
    refine WL.nil ?_
    refine TW.cond rfl (fun hb => by cases hb) (fun _ => ?_)
    refine TW.skip ?_
    refine TW.reg ?_
    refine WL.op rfl rfl rfl (Go.Proofs.Ytobibplilbchfaa.W.quiet_move rfl rfl) ?_
    refine WL.op rfl rfl rfl (Go.Proofs.Ytobibplilbchfaa.W.quiet_field rfl rfl (fun W => (qa_flow_effect_1 W _ _))) ?_
    refine WL.ld rfl rfl rfl rfl rfl (ql_s_int _ _ _ _ _ (bx1.cell (j := 1) rfl)) ?_
    refine WL.call (hr := t_read B B2 g c xs _ rs hrl _ hL hR) rfl rfl rfl rfl rfl (fun W => qk_flow_Row_read W _) ?_
    rintro e w3 ⟨rfl, hL3, f3⟩
    refine ⟨_, rfl, ?_⟩
    refine WL.end ?_
    refine O.end0 rfl ?_
    refine ⟨rfl, ?_, fd.trans' f3 (fun _ _ e => e)⟩
    unfold passL
    rw [e1]
    exact hL3
set_option maxRecDepth 100000 in
theorem t_table (nm : ByteArray) (vd : Bool) (pr R : Int) (oa : Option Addr) (on oc : Nat) (ba : Option Addr) (bs : List Bk) (bc : Nat) (hnb : bs.length ≤ 1000) (hRb : R ≤ 1000) (w : World) : Calls Try.prog 27 #[.agg #[.string nm, .bool vd, .int .i64 pr, .int .i64 R, .slice oa on oc, .slice ba bs.length bc]] w fun e w' => ∃ (S : Nat) (vs : List Value), e = .returned (.slice (some ⟨S, 0, none⟩) bs.length bs.length) ∧ Tbl S 4 30 bC w' S bs.length vs (List.replicate bs.length (List.replicate R.toNat false)) ∧ (∀ k, k < bs.length → ∃ g c, vs.getD k nilS = .slice (some ⟨g, 0, none⟩) R.toNat c) ∧ w.heap.size ≤ S ∧ Fr (fun _ => False) w w' := by
  have ff := Fr.refl (fun _ => False) w
  refine calls_tw Try.func27 rfl rfl (Nat.le_of_ble_eq_true rfl) ?_
  refine TW.sreg ?_
  have lw1 := ff.size
  refine O.boxR rfl rfl rfl rfl rfl (qxR_api_Proc w _ _ _ _ _ _ _ _ _ _) ?_
  rintro wa1 ⟨fa1, bx1⟩
  replace ff := ff.trans fa1
  refine WL.op rfl rfl rfl (Go.Proofs.Ytobibplilbchfaa.W.quiet_assign rfl rfl) ?_
  refine WL.nil ?_
  refine TW.sreg ?_
  refine WL.op rfl rfl rfl (Go.Proofs.Ytobibplilbchfaa.W.quiet_field rfl rfl (fun W => (qa_api_Proc_5 W _ _))) ?_
  refine WL.ld rfl rfl rfl rfl rfl (ql_s_api_Block _ _ _ _ _ (bx1.cell (j := 5) rfl)) ?_
  refine O.len rfl rfl rfl rfl rfl (qn_s_api_Block _ _ _ _) ?_
  have lt2_bx1 := bx1.lt
  have lw2 := ff.size
  refine O.mkR rfl rfl rfl rfl rfl rfl (mk_sb bs.length (by omega) _) ?_
  rintro wa2 ⟨fa2, bx2⟩
  replace bx1 := bx1.fr fa2 id
  replace ff := ff.trans fa2
  have hT : Tbl wa1.heap.size 4 30 bC wa2 wa1.heap.size bs.length (List.replicate bs.length nilS) (tabJ bs.length R.toNat 0) := by rw [tabJ_zero]; exact tbl_made bx2 (Nat.le_refl _) (by omega)
  have f0z := fa1.size
  refine WL.op rfl rfl rfl (Go.Proofs.Ytobibplilbchfaa.W.quiet_assign rfl rfl) ?_
  refine WL.nil ?_
  refine TW.seq ?_
  refine TW.sreg ?_
  refine WL.op rfl rfl rfl (Go.Proofs.Ytobibplilbchfaa.W.quiet_move rfl rfl) ?_
  refine O.len rfl rfl rfl rfl rfl (qn_s_s_bool _ _ _ _) ?_
  refine WL.op rfl rfl rfl (Go.Proofs.Ytobibplilbchfaa.W.quiet_move rfl rfl) ?_
  refine WL.nil ?_
  refine TW.block ?_
  refine O.loopG (n := bs.length) (fun a _ => (intOf (a.tmps.getD 11 undef)).toNat) (fun j a W => ∃ (vs : List Value), Kn Try.f27.ntmps [(1, .pointer (some ⟨w.heap.size, 0, none⟩)), (3, .slice (some ⟨wa1.heap.size, 0, none⟩) bs.length bs.length), (10, .int .i64 (bs.length : Int)), (11, .int .i64 (j : Int))] a ∧ Fr (fun _ => False) w W ∧ Bx W w.heap.size #[.string nm, .bool vd, .int .i64 pr, .int .i64 R, .slice oa on oc, .slice ba bs.length bc] 25 ∧ Tbl wa1.heap.size 4 30 bC W wa1.heap.size bs.length vs (tabJ bs.length R.toNat j) ∧ ∀ k, k < j → ∃ g c, vs.getD k nilS = .slice (some ⟨g, 0, none⟩) R.toNat c) (fun j a W h => by obtain ⟨_, h⟩ := h; exact O.slotv h.1 rfl) 0 (Nat.zero_le _) (fun a k => ⟨_, (by (repeat (refine Kn.cons k rfl ?_)); exact k.base), ff, bx1, hT, fun k hk => absurd hk (by omega)⟩) ?_
  rintro j a wl hj ⟨vs, k, ff, bx1, hT, hrw⟩
  refine TW.app (s := [(1, .pointer (some ⟨w.heap.size, 0, none⟩)), (3, .slice (some ⟨wa1.heap.size, 0, none⟩) bs.length bs.length), (10, .int .i64 (bs.length : Int)), (11, .int .i64 (j : Int))]) ?_ k
  refine TW.sreg ?_
  refine WL.op rfl rfl rfl (Go.Proofs.Ytobibplilbchfaa.W.quiet_bin rfl rfl rfl (fun W => qb_lss_int W _ _ _ _)) ?_
  refine O.split (fun hbj => ?_) (fun hbj => ?_)
  · skip
    have hj2 : j < bs.length := by have := of_decide_eq_true hbj; omega
    have hm : max 0 R = ((R.toNat : Nat) : Int) := by omega
    have hT0 := hT
    have hwz := ff.size
    have hSl : wa1.heap.size < wl.heap.size := (Row.lt hT.hs wa1.heap.size rfl).2
    refine WL.nil ?_
    refine TW.seq ?_
    refine TW.cond rfl (fun _ => ?_) (fun hb => by cases hb)
    refine TW.skip ?_
    refine TW.seq ?_
    refine TW.block ?_
    refine TW.sreg ?_
    refine WL.op rfl rfl rfl (Go.Proofs.Ytobibplilbchfaa.W.quiet_move rfl rfl) ?_
    refine WL.op rfl rfl rfl (Go.Proofs.Ytobibplilbchfaa.W.quiet_assign rfl rfl) ?_
    refine WL.nil ?_
    refine TW.reg ?_
    refine WL.op rfl rfl rfl (Go.Proofs.Ytobibplilbchfaa.W.quiet_move rfl rfl) ?_
    refine WL.op rfl rfl rfl (Go.Proofs.Ytobibplilbchfaa.W.quiet_move rfl rfl) ?_
    refine WL.op rfl rfl rfl (Go.Proofs.Ytobibplilbchfaa.W.quiet_field rfl rfl (fun W => (qa_api_Proc_3 W _ _))) ?_
    refine WL.ld rfl rfl rfl rfl rfl (ql_int _ _ _ (bx1.cell (j := 3) rfl)) ?_
    refine O.bmax rfl rfl rfl rfl rfl rfl (bi_max _ _ _) ?_
    rw [hm]
    have lt3_bx1 := bx1.lt
    have lw3 := ff.size
    refine O.mkR rfl rfl rfl rfl rfl rfl (mk_b R.toNat (by omega) _) ?_
    rintro wa3 ⟨fa3, bx3⟩
    replace bx1 := bx1.fr fa3 id
    replace hT := hT.fr0 fa3
    replace ff := ff.trans fa3
    have hB := bools_made (B := wa1.heap.size) bx3 (by have := (Row.lt hT.hs _ rfl).2; omega) (by omega)
    have hnw := bx3.lt
    have hlm := (hT0.hr j hj2).lt
    refine O.ixa rfl rfl rfl rfl rfl rfl (qi_s_s_bool _ _ _ _ _ _ (by omega)) ?_
    refine O.storeR rfl rfl rfl rfl rfl (hT0.put (by decide) st_sb hj2 hB (fa3.mono (fun _ _ e => e.elim)) (fun q e => .inr (by cases e; exact Nat.le_refl _))) ?_
    rintro wC ⟨hT2, hF3⟩
    replace bx1 := bx1.fr hF3 (fun e => by omega)
    replace ff := ff.trans' hF3 (fun q hq e => by omega)
    refine WL.end ?_
    refine Xw.nblk ?_
    refine Xw.nrm ?_
    refine TW.reg ?_
    refine WL.op rfl rfl rfl (Go.Proofs.Ytobibplilbchfaa.W.quiet_bin rfl rfl rfl (fun W => qb_add_int W _ _ _ _ (by omega) (by omega))) ?_
    refine WL.op rfl rfl rfl (Go.Proofs.Ytobibplilbchfaa.W.quiet_move rfl rfl) ?_
    refine WL.end ?_
    refine Xw.any (fun a k => ?_)
    refine ⟨j + 1, by omega, by omega, _, (by (repeat (refine Kn.cons k rfl ?_)); exact k.base), ff, bx1, by rw [← tabJ_succ _ _ _ hj2]; exact hT2, fun q hq => ?_⟩
    rw [getD_setV _ _ _ _ _ (by rw [hT0.hl]; exact hj2)]
    by_cases e : q = j
    · rw [if_pos e]; exact ⟨_, _, rfl⟩
    · rw [if_neg e]; exact hrw q (by omega)
  · skip
    refine WL.nil ?_
    refine TW.seq ?_
    refine TW.cond rfl (fun hb => by cases hb) (fun _ => ?_)
    refine TW.exit ?_
    refine Xw.thn (by simp) ?_
    refine Xw.thn (by simp) ?_
    refine Xw.hit ?_
    refine Xw.nrm ?_
    refine TW.sreg ?_
    refine WL.op rfl rfl rfl (Go.Proofs.Ytobibplilbchfaa.W.quiet_move rfl rfl) ?_
    refine WL.op rfl rfl rfl (Go.Proofs.Ytobibplilbchfaa.W.quiet_assign rfl rfl) ?_
    refine WL.nil ?_
    refine TW.rt ?_
    refine bodyw_ret rfl rfl ?_
    have hje : j = bs.length := by have := of_decide_eq_false hbj; omega
    subst hje
    rw [tabJ_end] at hT
    exact ⟨_, vs, rfl, hT, hrw, by omega, ff⟩
end Go.Proofs.Ytobibplilbchfaa
