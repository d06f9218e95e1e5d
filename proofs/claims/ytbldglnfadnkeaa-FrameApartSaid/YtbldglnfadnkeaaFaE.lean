/-
  Frames (layer 25): Lay.
-/
import Derived.Test.YtbldglnfadnkeaaFaD
import Derived.Test.YtbldglnfadnkeaaWr
namespace Go.Proofs.Ytbldglnfadnkeaa
open Go.RowKit
set_option linter.unusedVariables false
set_option linter.unusedSimpArgs false
theorem qxR_api_Proc (w : World) (up0 : ByteArray) (up1 : Bool) (um2 : Int) (um3 : Int) (up4 : Option Addr) (uk4 ul4 : Nat) (up5 : Option Addr) (uk5 ul5 : Nat) : ∃ w', (Instr.box 25 (.agg #[.string up0, .bool up1, .int .i64 um2, .int .i64 um3, .slice up4 uk4 ul4, .slice up5 uk5 ul5])).run Try.prog w = .ok (.pointer (some ⟨w.heap.size, 0, none⟩)) w' ∧ (Fr (fun _ => False) w w' ∧ Bx w' w.heap.size #[.string up0, .bool up1, .int .i64 um2, .int .i64 um3, .slice up4 uk4 ul4, .slice up5 uk5 ul5] 25) := ⟨w.alloc (.cells #[.string up0, .bool up1, .int .i64 um2, .int .i64 um3, .slice up4 uk4 ul4, .slice up5 uk5 ul5] 25), by simp [go_sem], fr_al (Fr.refl _ _) _, Bx.new _ _ _⟩
theorem qzR_api_Frame (w : World) : ∃ w', (Instr.alloc 31 true (.tuple #[])).run Try.prog w = .ok (.pointer (some ⟨w.heap.size, 0, none⟩)) w' ∧ (Fr (fun _ => False) w w' ∧ Bx w' w.heap.size #[.int .i64 0, .slice none 0 0, .int .i64 0, .slice none 0 0] 31) := ⟨w.alloc (.cells #[.int .i64 0, .slice none 0 0, .int .i64 0, .slice none 0 0] 31), by simp [go_sem], fr_al (Fr.refl _ _) _, Bx.new _ _ _⟩
theorem qsA_api_Frame (w : World) (g : Nat) (z0 z1 z2 z3 : Value) (um0 : Int) (up1 : Option Addr) (uk1 ul1 : Nat) (um2 : Int) (up3 : Option Addr) (uk3 ul3 : Nat) (h : Bx w g #[z0, z1, z2, z3] 31) : ∃ w', (Instr.storeAt 31 (.pointer (some ⟨g, 0, none⟩)) (.agg #[.int .i64 um0, .slice up1 uk1 ul1, .int .i64 um2, .slice up3 uk3 ul3])).run Try.prog w = .ok () w' ∧ (Fr (fun q => q = g) w w' ∧ Bx w' g #[.int .i64 um0, .slice up1 uk1 ul1, .int .i64 um2, .slice up3 uk3 ul3] 31) := h.store 31 #[.int .i64 um0, .slice up1 uk1 ul1, .int .i64 um2, .slice up3 uk3 ul3] (by kernel_rfl) rfl (by simp [Value.oneCell'])
theorem qa_api_Proc_3 (w : World) (b o : Nat) : (Instr.fieldAt 25 (.pointer (some ⟨b, o, none⟩)) 3).run Try.prog w = .ok (.pointer (some ⟨b, o + 3, none⟩)) w := by simp [go_sem]
theorem qb_neq_int (w : World) (x y : Operand) (m n : Int) : ((do eqGuard .neq 3 x y (.int .i64 m) (.int .i64 n); binOp .neq 3 (.int .i64 m) (.int .i64 n) : Sem Value)).run Try.prog w = .ok (.bool (m != n)) w := by simp [go_sem]
theorem qa_api_Proc_4 (w : World) (b o : Nat) : (Instr.fieldAt 25 (.pointer (some ⟨b, o, none⟩)) 4).run Try.prog w = .ok (.pointer (some ⟨b, o + 4, none⟩)) w := by simp [go_sem]
theorem ql_s_api_Slot (w : World) (p : Option Addr) (k l : Nat) (d : Addr) (h : w.cell? d = some (.slice p k l)) : (Instr.loadAt 22 (.pointer (some d))).run Try.prog w = .ok (.slice p k l) w := by simp [go_sem, h]
theorem qk_slices_ContainsFunc_api_Slot_api_Slot (w : World) (vs : Array Value) : (callFunc 13 vs).run Try.prog w = .ok (.enter 13 vs) w := by simp [go_sem]
theorem qzR_int (w : World) : ∃ w', (Instr.alloc 3 true (.tuple #[])).run Try.prog w = .ok (.pointer (some ⟨w.heap.size, 0, none⟩)) w' ∧ (Fr (fun _ => False) w w' ∧ Bx w' w.heap.size #[.int .i64 0] 3) := ⟨w.alloc (.cells #[.int .i64 0] 3), by simp [go_sem], fr_al (Fr.refl _ _) _, Bx.new _ _ _⟩
theorem qk_frame_Lay_2 (w : World) (vs : Array Value) : (callFunc 15 vs).run Try.prog w = .ok (.enter 15 vs) w := by simp [go_sem]
theorem qk_alloc_Given (w : World) (vs : Array Value) : (callFunc 16 vs).run Try.prog w = .ok (.enter 16 vs) w := by simp [go_sem]
theorem qa_api_Frame_1 (w : World) (b o : Nat) : (Instr.fieldAt 31 (.pointer (some ⟨b, o, none⟩)) 1).run Try.prog w = .ok (.pointer (some ⟨b, o + 1, none⟩)) w := by simp [go_sem]
theorem ql_s_int (w : World) (p : Option Addr) (k l : Nat) (d : Addr) (h : w.cell? d = some (.slice p k l)) : (Instr.loadAt 29 (.pointer (some d))).run Try.prog w = .ok (.slice p k l) w := by simp [go_sem, h]
theorem qn_s_int (w : World) (a : Option Addr) (k l : Nat) : (Builtin.len_ #[29] 3 #[.slice a k l]).run Try.prog w = .ok (.int .i64 k) w := by simp [go_sem]
theorem qa_api_Frame_2 (w : World) (b o : Nat) : (Instr.fieldAt 31 (.pointer (some ⟨b, o, none⟩)) 2).run Try.prog w = .ok (.pointer (some ⟨b, o + 2, none⟩)) w := by simp [go_sem]
theorem qsF_int (w : World) (g j : Nat) (z : Array Value) (tt : TypeId) (y : Value) (um0 : Int) (h : Bx w g z tt) (hj : z[j]? = some y) : ∃ w', (Instr.storeAt 3 (.pointer (some ⟨g, j, none⟩)) (.int .i64 um0)).run Try.prog w = .ok () w' ∧ (Fr (fun q => q = g) w w' ∧ Bx w' g (z.setIfInBounds j (.int .i64 um0)) tt) := by
  have c0 := h.cell hj
  have e0 := h.free j
  exact ⟨w.setCell ⟨g, j, none⟩ (.int .i64 um0), by simp [go_sem, c0, e0], Fr.setCell _ _ _ rfl, h.set j _⟩
theorem qk_irrun_Place (w : World) (vs : Array Value) : (callFunc 17 vs).run Try.prog w = .ok (.enter 17 vs) w := by simp [go_sem]
theorem qa_api_Frame_3 (w : World) (b o : Nat) : (Instr.fieldAt 31 (.pointer (some ⟨b, o, none⟩)) 3).run Try.prog w = .ok (.pointer (some ⟨b, o + 3, none⟩)) w := by simp [go_sem]
theorem qsF_s_int (w : World) (g j : Nat) (z : Array Value) (tt : TypeId) (y : Value) (up0 : Option Addr) (uk0 ul0 : Nat) (h : Bx w g z tt) (hj : z[j]? = some y) : ∃ w', (Instr.storeAt 29 (.pointer (some ⟨g, j, none⟩)) (.slice up0 uk0 ul0)).run Try.prog w = .ok () w' ∧ (Fr (fun q => q = g) w w' ∧ Bx w' g (z.setIfInBounds j (.slice up0 uk0 ul0)) tt) := by
  have c0 := h.cell hj
  have e0 := h.free j
  exact ⟨w.setCell ⟨g, j, none⟩ (.slice up0 uk0 ul0), by simp [go_sem, c0, e0], Fr.setCell _ _ _ rfl, h.set j _⟩
theorem qa_api_Frame_0 (w : World) (b o : Nat) : (Instr.fieldAt 31 (.pointer (some ⟨b, o, none⟩)) 0).run Try.prog w = .ok (.pointer (some ⟨b, o, none⟩)) w := by simp [go_sem]
theorem qlB_api_Frame (w : World) (g : Nat) (um0 : Int) (up1 : Option Addr) (uk1 ul1 : Nat) (um2 : Int) (up3 : Option Addr) (uk3 ul3 : Nat) (tt : TypeId) (h : Bx w g #[.int .i64 um0, .slice up1 uk1 ul1, .int .i64 um2, .slice up3 uk3 ul3] tt) : (Instr.loadAt 31 (.pointer (some ⟨g, 0, none⟩))).run Try.prog w = .ok (.agg #[.int .i64 um0, .slice up1 uk1 ul1, .int .i64 um2, .slice up3 uk3 ul3]) w := by
  have c0 := h.cell (j := 0) rfl
  have c1 := h.cell (j := 1) rfl
  have c2 := h.cell (j := 2) rfl
  have c3 := h.cell (j := 3) rfl
  simp [go_sem, c0, c1, c2, c3]
theorem O.mf1 {P : Program} {ops : Array Oper} {N : Nat} {Q : Exit → Act → World → Prop} {s : List (Nat × Value)} {l : List Oper} {o : Oper} {d : Nat} {w w' : World} {fn : Fn} {x : Operand} {u v : Value} (hop : o.op = .makeFunc fn #[] #[x]) (hd : o.dst = some d) (hN : Nat.blt d N = true) (hg : gd ops s o = some true) (h1 : ev s x = some u) (hr : (Instr.makeFunc fn #[] #[u]).run P w = .ok v w') (h : WL P ops N Q ((d, v) :: s) l w') : WL P ops N Q s (o :: l) w :=
  O.mf hop hd hN hg (vs := #[]) (us := #[u]) rfl (by simp [h1]) hr h
/-- A frame as it is handed back, or an error. -/
def FrNo (w w' : World) (e : Ending) (n : Int) : Prop := e = .returned (.tuple #[.agg #[.int .i64 0, .slice none 0 0, .int .i64 0, .slice none 0 0], .int .i64 n]) ∧ Fr (fun _ => False) w w'
def FrOk (w w' : World) (e : Ending) (sz : Int) (sv : List Int) (sl : Int) (ob : List Int) : Prop := ∃ a c b d, e = .returned (.tuple #[.agg #[.int .i64 sz, .slice a sv.length c, .int .i64 sl, .slice b ob.length d], .int .i64 0]) ∧ IntsAt w' a sv ∧ IntsAt w' b ob ∧ Fr (fun _ => False) w w'
/-- Where the objects lie. -/
def obsL (s : List Int) (f : Int) (j : Nat) : List Int := (offL s j).map fun x => f + x
theorem obsL_len (s : List Int) (f : Int) (j : Nat) : (obsL s f j).length = j := by simp [obsL, offL_len]
theorem obsL_succ (s : List Int) (f : Int) (j : Nat) : obsL s f (j + 1) = obsL s f j ++ [f + offs s j] := by simp [obsL, offL_succ]
def fstI (sv : List Int) (k : Int) : Int := 4 + 4 * (sv.length : Int) + 4 * k
/-- What Lay answers. -/
def LayP (s : List Int) (n : Nat) (R k : Int) (sv : List Int) (w : World) (e : Ending) (w' : World) : Prop :=
  if k < 0 ∨ (n : Int) ≠ R then FrNo w w' e 1
  else if 2000 < k ∨ 2000 < fstI sv k + offs s s.length then FrNo w w' e 2
  else FrOk w w' e (fstI sv k + offs s s.length) sv (4 + 4 * (sv.length : Int)) (obsL s (fstI sv k) s.length)
theorem lay_1 {s : List Int} {n : Nat} {R k : Int} {sv : List Int} {w w' : World} {e : Ending} (h : k < 0 ∨ (n : Int) ≠ R) (q : FrNo w w' e 1) : LayP s n R k sv w e w' := by
  unfold LayP; rw [if_pos h]; exact q
theorem lay_2 {s : List Int} {n : Nat} {R k : Int} {sv : List Int} {w w' : World} {e : Ending} (h : ¬(k < 0 ∨ (n : Int) ≠ R)) (h2 : 2000 < k ∨ 2000 < fstI sv k + offs s s.length) (q : FrNo w w' e 2) : LayP s n R k sv w e w' := by
  unfold LayP; rw [if_neg h, if_pos h2]; exact q
theorem lay_3 {s : List Int} {n : Nat} {R k : Int} {sv : List Int} {w w' : World} {e : Ending} (h : ¬(k < 0 ∨ (n : Int) ≠ R)) (h2 : ¬(2000 < k ∨ 2000 < fstI sv k + offs s s.length)) (q : FrOk w w' e (fstI sv k + offs s s.length) sv (4 + 4 * (sv.length : Int)) (obsL s (fstI sv k) s.length)) : LayP s n R k sv w e w' := by
  unfold LayP; rw [if_neg h, if_neg h2]; exact q
theorem offs_ge {s : List Int} (hs : Slim s) : ∀ n, n ≤ s.length → ∀ k, k < n → s.getD k 0 ≤ offs s n
  | 0, _, k, hk => absurd hk (by omega)
  | n + 1, hn, k, hk => by
    have h0 := offs_in hs n (by omega)
    have h1 := hs n (by omega)
    have e : offs s (n + 1) = offs s n + up4 (s.getD n 0) := rfl
    unfold up4 at e
    by_cases q : k = n
    · subst q; omega
    · have := offs_ge hs n (by omega) k (by omega); omega
theorem bf_0 (w : World) : (Instr.build 31 #[]).run Try.prog w = .ok (.agg #[.int .i64 0, .slice none 0 0, .int .i64 0, .slice none 0 0]) w := by simp [go_sem]
theorem bf_1 (w : World) (a : Option Addr) (n c : Nat) : (Instr.build 31 #[(1, .slice a n c)]).run Try.prog w = .ok (.agg #[.int .i64 0, .slice a n c, .int .i64 0, .slice none 0 0]) w := by simp [go_sem]
theorem offL_getD (s : List Int) (j : Nat) (hj : j < s.length) : (offL s s.length).getD j 0 = offs s j := by
  unfold offL
  simp [List.getD_eq_getElem?_getD, hj]
theorem gvn_le (l : List (Int × Int)) : (gvn l).length ≤ l.length := by
  unfold gvn
  have h1 := Lib.compact_length_le ((pos l l.length).mergeSort fun x y => decide (x ≤ y))
  rw [List.length_mergeSort] at h1
  have := pos_le l l.length
  omega
set_option maxRecDepth 100000 in
theorem t_lay (nm : ByteArray) (vd : Bool) (pr R kc : Int) (oa : Option Addr) (oc : Nat) (s : List Int) (qa : Option Addr) (qn qc : Nat) (ad : Option Addr) (c : Nat) (l : List (Int × Int)) (hl : l.length ≤ 1000) (hl2 : s.length ≤ 1000) (hs : Slim s) (w : World) (hso : SlotsAt w oa s) (hse : SeatsAt w ad l) : Calls Try.prog 7 #[.agg #[.string nm, .bool vd, .int .i64 pr, .int .i64 R, .slice oa s.length oc, .slice qa qn qc], .slice ad l.length c, .int .i64 kc] w (LayP s l.length R kc (gvn l) w) := by
  have ff := Fr.refl (fun _ => False) w
  refine calls_tw Try.func7 rfl rfl (Nat.le_of_ble_eq_true rfl) ?_
  refine TW.sreg ?_
  have lw1 := ff.size
  refine O.boxR rfl rfl rfl rfl rfl (qxR_api_Proc w _ _ _ _ _ _ _ _ _ _) ?_
  rintro wa1 ⟨fa1, bx1⟩
  replace ff := ff.trans fa1
  have lt2_bx1 := bx1.lt
  have lw2 := ff.size
  refine O.allocR rfl rfl rfl rfl (qzR_api_Frame wa1) ?_
  rintro wa2 ⟨fa2, bx2⟩
  replace bx1 := bx1.fr fa2 id
  replace ff := ff.trans fa2
  refine WL.op rfl rfl rfl (Go.Proofs.Ytbldglnfadnkeaa.W.quiet_assign rfl rfl) ?_
  refine WL.nil ?_
  refine TW.seq ?_
  refine TW.sreg ?_
  refine WL.op rfl rfl rfl (Go.Proofs.Ytbldglnfadnkeaa.W.quiet_move rfl rfl) ?_
  refine WL.op rfl rfl rfl (Go.Proofs.Ytbldglnfadnkeaa.W.quiet_bin rfl rfl rfl (fun W => qb_lss_int W _ _ _ _)) ?_
  refine O.split (fun hb1 => ?_) (fun hb1 => ?_)
  · skip
    refine WL.op rfl rfl rfl (Go.Proofs.Ytbldglnfadnkeaa.W.quiet_move rfl rfl) ?_
    refine WL.skip rfl rfl rfl ?_
    refine WL.skip rfl rfl rfl ?_
    refine WL.skip rfl rfl rfl ?_
    refine WL.skip rfl rfl rfl ?_
    refine WL.skip rfl rfl rfl ?_
    refine WL.op rfl rfl rfl (Go.Proofs.Ytbldglnfadnkeaa.W.quiet_pick rfl rfl rfl) ?_
    refine WL.nil ?_
    refine TW.cond rfl (fun _ => ?_) (fun hb => by cases hb)
    refine TW.sreg ?_
    refine O.bld rfl rfl rfl rfl rfl (bf_0 _) ?_
    refine O.storeR rfl rfl rfl rfl rfl (qsA_api_Frame wa2 _ _ _ _ _ _ _ _ _ _ _ _ _ bx2) ?_
    rintro wa3 ⟨fa3, bx2x⟩
    replace bx1 := bx1.fr fa3 (fun e => by omega)
    replace ff := ff.trans' fa3 (fun q hq e => by omega)
    clear bx2
    have bx2 := bx2x
    clear bx2x
    refine WL.op rfl rfl rfl (Go.Proofs.Ytbldglnfadnkeaa.W.quiet_assign rfl rfl) ?_
    refine WL.nil ?_
    refine TW.rt ?_
    refine Xw.thn (by simp) ?_
    refine O.retc2 rfl rfl rfl (run_loadVar_row _ _ _ 31 _ _ _ bx2 Try.underlying31 rfl (by kernel_rfl)) ?_
    exact lay_1 (.inl (of_decide_eq_true hb1)) ⟨rfl, ff⟩
  · skip
    refine WL.op rfl rfl rfl (Go.Proofs.Ytbldglnfadnkeaa.W.quiet_move rfl rfl) ?_
    refine WL.op rfl rfl rfl (Go.Proofs.Ytbldglnfadnkeaa.W.quiet_move rfl rfl) ?_
    refine O.len rfl rfl rfl rfl rfl (qn_s_api_Seat _ _ _ _) ?_
    refine WL.op rfl rfl rfl (Go.Proofs.Ytbldglnfadnkeaa.W.quiet_field rfl rfl (fun W => (qa_api_Proc_3 W _ _))) ?_
    refine WL.ld rfl rfl rfl rfl rfl (ql_int _ _ _ (bx1.cell (j := 3) rfl)) ?_
    refine WL.op rfl rfl rfl (Go.Proofs.Ytbldglnfadnkeaa.W.quiet_bin rfl rfl rfl (fun W => qb_neq_int W _ _ _ _)) ?_
    refine O.split (fun hb2 => ?_) (fun hb2 => ?_)
    · skip
      refine WL.op rfl rfl rfl (Go.Proofs.Ytbldglnfadnkeaa.W.quiet_pick rfl rfl rfl) ?_
      refine WL.nil ?_
      refine TW.cond rfl (fun _ => ?_) (fun hb => by cases hb)
      refine TW.sreg ?_
      refine O.bld rfl rfl rfl rfl rfl (bf_0 _) ?_
      refine O.storeR rfl rfl rfl rfl rfl (qsA_api_Frame wa2 _ _ _ _ _ _ _ _ _ _ _ _ _ bx2) ?_
      rintro wa4 ⟨fa4, bx2x⟩
      replace bx1 := bx1.fr fa4 (fun e => by omega)
      replace ff := ff.trans' fa4 (fun q hq e => by omega)
      clear bx2
      have bx2 := bx2x
      clear bx2x
      refine WL.op rfl rfl rfl (Go.Proofs.Ytbldglnfadnkeaa.W.quiet_assign rfl rfl) ?_
      refine WL.nil ?_
      refine TW.rt ?_
      refine Xw.thn (by simp) ?_
      refine O.retc2 rfl rfl rfl (run_loadVar_row _ _ _ 31 _ _ _ bx2 Try.underlying31 rfl (by kernel_rfl)) ?_
      exact lay_1 (.inr (by simpa using hb2)) ⟨rfl, ff⟩
    · skip
      have hn0 : ¬ kc < 0 := of_decide_eq_false hb1
      have hn3 : (l.length : Int) = R := by simpa using hb2
      have hn1 : ¬(kc < 0 ∨ (l.length : Int) ≠ R) := fun h => h.elim hn0 (fun q => q hn3)
      refine WL.op rfl rfl rfl (Go.Proofs.Ytbldglnfadnkeaa.W.quiet_pick rfl rfl rfl) ?_
      refine WL.nil ?_
      refine TW.cond rfl (fun hb => by cases hb) (fun _ => ?_)
      refine TW.skip ?_
      refine TW.seq ?_
      refine TW.sreg ?_
      refine WL.op rfl rfl rfl (Go.Proofs.Ytbldglnfadnkeaa.W.quiet_move rfl rfl) ?_
      refine WL.op rfl rfl rfl (Go.Proofs.Ytbldglnfadnkeaa.W.quiet_bin rfl rfl rfl (fun W => qb_gtr_int W _ _ _ _)) ?_
      refine O.split (fun hb3 => ?_) (fun hb3 => ?_)
      · skip
        refine WL.op rfl rfl rfl (Go.Proofs.Ytbldglnfadnkeaa.W.quiet_move rfl rfl) ?_
        refine WL.skip rfl rfl rfl ?_
        refine WL.skip rfl rfl rfl ?_
        refine WL.skip rfl rfl rfl ?_
        refine WL.op rfl rfl rfl (Go.Proofs.Ytbldglnfadnkeaa.W.quiet_pick rfl rfl rfl) ?_
        refine WL.nil ?_
        refine TW.cond rfl (fun _ => ?_) (fun hb => by cases hb)
        refine TW.sreg ?_
        refine O.bld rfl rfl rfl rfl rfl (bf_0 _) ?_
        refine O.storeR rfl rfl rfl rfl rfl (qsA_api_Frame wa2 _ _ _ _ _ _ _ _ _ _ _ _ _ bx2) ?_
        rintro wa5 ⟨fa5, bx2x⟩
        replace bx1 := bx1.fr fa5 (fun e => by omega)
        replace ff := ff.trans' fa5 (fun q hq e => by omega)
        clear bx2
        have bx2 := bx2x
        clear bx2x
        refine WL.op rfl rfl rfl (Go.Proofs.Ytbldglnfadnkeaa.W.quiet_assign rfl rfl) ?_
        refine WL.nil ?_
        refine TW.rt ?_
        refine Xw.thn (by simp) ?_
        refine O.retc2 rfl rfl rfl (run_loadVar_row _ _ _ 31 _ _ _ bx2 Try.underlying31 rfl (by kernel_rfl)) ?_
        exact lay_2 hn1 (.inl (of_decide_eq_true hb3)) ⟨rfl, ff⟩
      · skip
        have hk0 : 0 ≤ kc := by have := of_decide_eq_false hb1; omega
        have hk2 : kc ≤ 2000 := by have := of_decide_eq_false hb3; omega
        refine WL.op rfl rfl rfl (Go.Proofs.Ytbldglnfadnkeaa.W.quiet_move rfl rfl) ?_
        refine WL.op rfl rfl rfl (Go.Proofs.Ytbldglnfadnkeaa.W.quiet_field rfl rfl (fun W => (qa_api_Proc_4 W _ _))) ?_
        refine WL.ld rfl rfl rfl rfl rfl (ql_s_api_Slot _ _ _ _ _ (bx1.cell (j := 4) rfl)) ?_
        refine WL.call (hr := t_any oa oc s (by omega) _ (hso.fr ff)) rfl rfl rfl rfl rfl (fun W => qk_slices_ContainsFunc_api_Slot_api_Slot W _) ?_
        rintro e w4 ⟨b, rfl, hbb, f4⟩
        refine ⟨_, rfl, ?_⟩
        replace bx1 := bx1.fr f4 id
        replace bx2 := bx2.fr f4 id
        replace ff := ff.trans f4
        refine O.split (fun hb4 => ?_) (fun hb4 => ?_)
        · skip
          obtain ⟨q, hq, hq2⟩ := hbb.1 hb4
          have hge := offs_ge hs s.length (Nat.le_refl _) q hq
          refine WL.op rfl rfl rfl (Go.Proofs.Ytbldglnfadnkeaa.W.quiet_pick rfl rfl rfl) ?_
          refine WL.nil ?_
          refine TW.cond rfl (fun _ => ?_) (fun hb => by cases hb)
          refine TW.sreg ?_
          refine O.bld rfl rfl rfl rfl rfl (bf_0 _) ?_
          refine O.storeR rfl rfl rfl rfl rfl (qsA_api_Frame w4 _ _ _ _ _ _ _ _ _ _ _ _ _ bx2) ?_
          rintro wa6 ⟨fa6, bx2x⟩
          replace bx1 := bx1.fr fa6 (fun e => by omega)
          replace ff := ff.trans' fa6 (fun q hq e => by omega)
          clear bx2
          have bx2 := bx2x
          clear bx2x
          refine WL.op rfl rfl rfl (Go.Proofs.Ytbldglnfadnkeaa.W.quiet_assign rfl rfl) ?_
          refine WL.nil ?_
          refine TW.rt ?_
          refine Xw.thn (by simp) ?_
          refine O.retc2 rfl rfl rfl (run_loadVar_row _ _ _ 31 _ _ _ bx2 Try.underlying31 rfl (by kernel_rfl)) ?_
          exact lay_2 hn1 (.inr (by unfold fstI; omega)) ⟨rfl, ff⟩
        · skip
          refine WL.op rfl rfl rfl (Go.Proofs.Ytbldglnfadnkeaa.W.quiet_pick rfl rfl rfl) ?_
          refine WL.nil ?_
          refine TW.cond rfl (fun hb => by cases hb) (fun _ => ?_)
          refine TW.skip ?_
          refine TW.sreg ?_
          have lt3_bx1 := bx1.lt
          have lt3_bx2 := bx2.lt
          have lw3 := ff.size
          refine O.allocR rfl rfl rfl rfl (qzR_int w4) ?_
          rintro wa7 ⟨fa7, bx3⟩
          replace bx1 := bx1.fr fa7 id
          replace bx2 := bx2.fr fa7 id
          replace ff := ff.trans fa7
          refine O.storeR rfl rfl rfl rfl rfl (qsA_int wa7 _ _ _ bx3) ?_
          rintro wa8 ⟨fa8, bx3x⟩
          replace bx1 := bx1.fr fa8 (fun e => by omega)
          replace bx2 := bx2.fr fa8 (fun e => by omega)
          replace ff := ff.trans' fa8 (fun q hq e => by omega)
          clear bx3
          have bx3 := bx3x
          clear bx3x
          refine WL.nil ?_
          refine TW.sreg ?_
          refine O.mf1 rfl rfl rfl rfl rfl (mf_any _ _ _ _) ?_
          refine WL.op rfl rfl rfl (Go.Proofs.Ytbldglnfadnkeaa.W.quiet_assign rfl rfl) ?_
          refine WL.nil ?_
          refine TW.sreg ?_
          refine WL.op rfl rfl rfl (Go.Proofs.Ytbldglnfadnkeaa.W.quiet_move rfl rfl) ?_
          refine O.callv (hr := t_take 4 0 _ _ bx3 (by omega) (by omega)) rfl rfl rfl rfl rfl rfl (fun W => qk_frame_Lay_2 W _) ?_
          rintro e wf5 ⟨rfl, bx3x, f5⟩
          refine ⟨_, rfl, ?_⟩
          replace bx1 := bx1.fr f5 (fun e => by omega)
          replace bx2 := bx2.fr f5 (fun e => by omega)
          replace ff := ff.trans' f5 (fun q hq e => by omega)
          clear bx3
          have bx3 := bx3x
          clear bx3x
          refine WL.nil ?_
          refine TW.sreg ?_
          refine WL.op rfl rfl rfl (Go.Proofs.Ytbldglnfadnkeaa.W.quiet_move rfl rfl) ?_
          have ltg3 := bx3.lt
          refine WL.call (hr := t_given ad c l hl _ (hse.fr ff)) rfl rfl rfl rfl rfl (fun W => qk_alloc_Given W _) ?_
          rintro e w8 ⟨v8, rfl, hI8, f8⟩
          refine ⟨_, rfl, ?_⟩
          replace bx1 := bx1.fr f8 id
          replace bx2 := bx2.fr f8 id
          replace bx3 := bx3.fr f8 id
          replace ff := ff.trans f8
          have hG := hI8.in
          obtain ⟨ga, gc, rfl, _⟩ := hI8.at
          refine O.bld rfl rfl rfl rfl rfl (bf_1 _ _ _ _) ?_
          have hgl := gvn_le l
          have lt4_bx1 := bx1.lt
          have lt4_bx2 := bx2.lt
          have lt4_bx3 := bx3.lt
          have lw4 := ff.size
          refine O.allocR rfl rfl rfl rfl (qzR_api_Frame w8) ?_
          rintro wa9 ⟨fa9, bx4⟩
          replace bx1 := bx1.fr fa9 id
          replace bx2 := bx2.fr fa9 id
          replace bx3 := bx3.fr fa9 id
          replace hG := hG.fr fa9 (fun q h1 h2 => id)
          replace ff := ff.trans fa9
          refine O.storeR rfl rfl rfl rfl rfl (qsA_api_Frame wa9 _ _ _ _ _ _ _ _ _ _ _ _ _ bx4) ?_
          rintro wa10 ⟨fa10, bx4x⟩
          replace bx1 := bx1.fr fa10 (fun e => by omega)
          replace bx2 := bx2.fr fa10 (fun e => by omega)
          replace bx3 := bx3.fr fa10 (fun e => by omega)
          replace hG := hG.fr fa10 (fun q h1 h2 e => by omega)
          replace ff := ff.trans' fa10 (fun q hq e => by omega)
          clear bx4
          have bx4 := bx4x
          clear bx4x
          refine WL.nil ?_
          refine TW.sreg ?_
          refine WL.op rfl rfl rfl (Go.Proofs.Ytbldglnfadnkeaa.W.quiet_move rfl rfl) ?_
          refine WL.op rfl rfl rfl (Go.Proofs.Ytbldglnfadnkeaa.W.quiet_field rfl rfl (fun W => (qa_api_Frame_1 W _ _))) ?_
          refine WL.ld rfl rfl rfl rfl rfl (ql_s_int _ _ _ _ _ (bx4.cell (j := 1) rfl)) ?_
          refine O.len rfl rfl rfl rfl rfl (qn_s_int _ _ _ _) ?_
          refine WL.op rfl rfl rfl (Go.Proofs.Ytbldglnfadnkeaa.W.quiet_bin rfl rfl rfl (fun W => qb_mul_int W _ _ _ _ (by omega) (by omega))) ?_
          refine O.callv (hr := t_take (4 * ((gvn l).length : Int)) (0 + 4) _ _ bx3 (by omega) (by omega)) rfl rfl rfl rfl rfl rfl (fun W => qk_frame_Lay_2 W _) ?_
          rintro e wf9 ⟨rfl, bx3x, f9⟩
          refine ⟨_, rfl, ?_⟩
          replace bx1 := bx1.fr f9 (fun e => by omega)
          replace bx2 := bx2.fr f9 (fun e => by omega)
          replace bx4 := bx4.fr f9 (fun e => by omega)
          replace hG := hG.fr f9 (fun q h1 h2 e => by omega)
          replace ff := ff.trans' f9 (fun q hq e => by omega)
          clear bx3
          have bx3 := bx3x
          clear bx3x
          refine WL.nil ?_
          refine TW.sreg ?_
          refine WL.op rfl rfl rfl (Go.Proofs.Ytbldglnfadnkeaa.W.quiet_move rfl rfl) ?_
          refine WL.op rfl rfl rfl (Go.Proofs.Ytbldglnfadnkeaa.W.quiet_move rfl rfl) ?_
          refine WL.op rfl rfl rfl (Go.Proofs.Ytbldglnfadnkeaa.W.quiet_bin rfl rfl rfl (fun W => qb_mul_int W _ _ _ _ (by omega) (by omega))) ?_
          refine O.callv (hr := t_take (4 * kc) (0 + 4 + 4 * ((gvn l).length : Int)) _ _ bx3 (by omega) (by omega)) rfl rfl rfl rfl rfl rfl (fun W => qk_frame_Lay_2 W _) ?_
          rintro e wf10 ⟨rfl, bx3x, f10⟩
          refine ⟨_, rfl, ?_⟩
          replace bx1 := bx1.fr f10 (fun e => by omega)
          replace bx2 := bx2.fr f10 (fun e => by omega)
          replace bx4 := bx4.fr f10 (fun e => by omega)
          replace hG := hG.fr f10 (fun q h1 h2 e => by omega)
          replace ff := ff.trans' f10 (fun q hq e => by omega)
          clear bx3
          have bx3 := bx3x
          clear bx3x
          refine WL.op rfl rfl rfl (Go.Proofs.Ytbldglnfadnkeaa.W.quiet_field rfl rfl (fun W => (qa_api_Frame_2 W _ _))) ?_
          refine O.storeR rfl rfl rfl rfl rfl (qsF_int wf10 _ 2 _ _ _ _ bx4 rfl) ?_
          rintro wa11 ⟨fa11, bx4x⟩
          replace bx1 := bx1.fr fa11 (fun e => by omega)
          replace bx2 := bx2.fr fa11 (fun e => by omega)
          replace bx3 := bx3.fr fa11 (fun e => by omega)
          replace hG := hG.fr fa11 (fun q h1 h2 e => by omega)
          replace ff := ff.trans' fa11 (fun q hq e => by omega)
          clear bx4
          have bx4 := bx4x
          clear bx4x
          refine WL.nil ?_
          refine TW.sreg ?_
          refine WL.op rfl rfl rfl (Go.Proofs.Ytbldglnfadnkeaa.W.quiet_field rfl rfl (fun W => (qa_api_Proc_4 W _ _))) ?_
          refine WL.ld rfl rfl rfl rfl rfl (ql_s_api_Slot _ _ _ _ _ (bx1.cell (j := 4) rfl)) ?_
          have ltp3 := bx3.lt
          have ltp4 := bx4.lt
          refine WL.call (hr := t_place oa oc s hl2 hs _ (hso.fr ff)) rfl rfl rfl rfl rfl (fun W => qk_irrun_Place W _) ?_
          rintro e w11 ⟨v11, rfl, hI11, f11⟩
          refine ⟨_, rfl, ?_⟩
          replace bx1 := bx1.fr f11 id
          replace bx2 := bx2.fr f11 id
          replace bx3 := bx3.fr f11 id
          replace bx4 := bx4.fr f11 id
          replace hG := hG.fr f11 (fun q h1 h2 => id)
          replace ff := ff.trans f11
          have hP := hI11.in
          obtain ⟨pa, pc, rfl, _⟩ := hI11.at
          have hoi := offs_in hs s.length (Nat.le_refl _)
          have hoN := offL_len s s.length
          refine WL.op rfl rfl rfl (Go.Proofs.Ytbldglnfadnkeaa.W.quiet_move rfl rfl) ?_
          refine O.ext rfl rfl rfl rfl rfl rfl ?_
          refine O.ext rfl rfl rfl rfl rfl rfl ?_
          refine WL.op rfl rfl rfl (Go.Proofs.Ytbldglnfadnkeaa.W.quiet_assign rfl rfl) ?_
          refine WL.op rfl rfl rfl (Go.Proofs.Ytbldglnfadnkeaa.W.quiet_assign rfl rfl) ?_
          refine WL.nil ?_
          refine TW.sreg ?_
          refine WL.op rfl rfl rfl (Go.Proofs.Ytbldglnfadnkeaa.W.quiet_move rfl rfl) ?_
          refine WL.op rfl rfl rfl (Go.Proofs.Ytbldglnfadnkeaa.W.quiet_move rfl rfl) ?_
          refine O.callv (hr := t_take (offs s s.length) (0 + 4 + 4 * ((gvn l).length : Int) + 4 * kc) _ _ bx3 (by omega) (by omega)) rfl rfl rfl rfl rfl rfl (fun W => qk_frame_Lay_2 W _) ?_
          rintro e wf12 ⟨rfl, bx3x, f12⟩
          refine ⟨_, rfl, ?_⟩
          replace bx1 := bx1.fr f12 (fun e => by omega)
          replace bx2 := bx2.fr f12 (fun e => by omega)
          replace bx4 := bx4.fr f12 (fun e => by omega)
          replace hG := hG.fr f12 (fun q h1 h2 e => by omega)
          replace hP := hP.fr f12 (fun q h1 h2 e => by omega)
          replace ff := ff.trans' f12 (fun q hq e => by omega)
          clear bx3
          have bx3 := bx3x
          clear bx3x
          generalize hFF : (0 + 4 + 4 * ((gvn l).length : Int) + 4 * kc) = F at *
          have lo1 := bx1.lt
          have lo2 := bx2.lt
          have lo3 := bx3.lt
          have lo4 := bx4.lt
          have lo5 := f12.size
          refine WL.op rfl rfl rfl (Go.Proofs.Ytbldglnfadnkeaa.W.quiet_assign rfl rfl) ?_
          refine WL.nil ?_
          refine TW.seq ?_
          refine TW.sreg ?_
          refine WL.op rfl rfl rfl (Go.Proofs.Ytbldglnfadnkeaa.W.quiet_move rfl rfl) ?_
          refine O.len rfl rfl rfl rfl rfl (qn_s_int _ _ _ _) ?_
          refine WL.op rfl rfl rfl (Go.Proofs.Ytbldglnfadnkeaa.W.quiet_move rfl rfl) ?_
          refine WL.nil ?_
          refine TW.block ?_
          refine O.loopG (n := (offL s s.length).length) (fun a _ => (intOf (a.tmps.getD 62 undef)).toNat) (fun j a W => ∃ (v : Value), Kn Try.f7.ntmps [(6, .pointer (some ⟨wa1.heap.size, 0, none⟩)), (8, .pointer (some ⟨w4.heap.size, 0, none⟩)), (10, .pointer (some ⟨w8.heap.size, 0, none⟩)), (13, .int .i64 F), (60, .slice pa (offL s s.length).length pc), (61, .int .i64 ((offL s s.length).length : Int)), (62, .int .i64 (j : Int))] a ∧ Fr (fun _ => False) w W ∧ Bx W wa1.heap.size #[.int .i64 0, .slice none 0 0, .int .i64 0, .slice none 0 0] 31 ∧ Bx W w4.heap.size #[.int .i64 (F + offs s s.length)] 3 ∧ Bx W w8.heap.size #[.int .i64 0, .slice ga (gvn l).length gc, .int .i64 (0 + 4 + 4 * ((gvn l).length : Int)), v] 31 ∧ IntsIn wf5.heap.size w8.heap.size W (.slice ga (gvn l).length gc) (gvn l) ∧ IntsIn wa11.heap.size w11.heap.size W (.slice pa (offL s s.length).length pc) (offL s s.length) ∧ wf12.heap.size ≤ W.heap.size ∧ Ints wf12.heap.size W v (obsL s F j)) (fun j a W h => by obtain ⟨_, h⟩ := h; exact O.slotv h.1 rfl) 0 (Nat.zero_le _) (fun a k => ⟨.slice none 0 0, (by (repeat (refine Kn.cons k rfl ?_)); exact k.base), ff, bx2, bx3, bx4, hG, hP, Nat.le_refl _, Ints.nil _ _⟩) ?_
          rintro j a wo hj ⟨v, k, ff, bx2, bx3, bx4, hG, hP, hz, hI⟩
          refine TW.app (s := [(6, .pointer (some ⟨wa1.heap.size, 0, none⟩)), (8, .pointer (some ⟨w4.heap.size, 0, none⟩)), (10, .pointer (some ⟨w8.heap.size, 0, none⟩)), (13, .int .i64 F), (60, .slice pa (offL s s.length).length pc), (61, .int .i64 ((offL s s.length).length : Int)), (62, .int .i64 (j : Int))]) ?_ k
          refine TW.sreg ?_
          refine WL.op rfl rfl rfl (Go.Proofs.Ytbldglnfadnkeaa.W.quiet_bin rfl rfl rfl (fun W => qb_lss_int W _ _ _ _)) ?_
          refine O.split (fun hb6 => ?_) (fun hb6 => ?_)
          · skip
            have hj2 : j < (offL s s.length).length := by have := of_decide_eq_true hb6; omega
            obtain ⟨a2, c2, e2, hat⟩ := hP.1.at
            cases e2
            obtain ⟨g, o, rfl, hc⟩ := hat j hj2
            rw [offL_getD s j (by omega)] at hc
            obtain ⟨va, vc, rfl, _⟩ := hI.form
            have hvb := hI.lt
            have hoj := offs_in hs j (by omega)
            have hob := obsL_len s F j
            have hsz := ff.size
            have hfz := f12.size
            refine WL.nil ?_
            refine TW.seq ?_
            refine TW.cond rfl (fun _ => ?_) (fun hb => by cases hb)
            refine TW.skip ?_
            refine TW.seq ?_
            refine TW.block ?_
            refine TW.sreg ?_
            refine O.ixa rfl rfl rfl rfl rfl rfl (qi_s_int _ _ _ _ _ _ (by omega)) ?_
            refine WL.ld rfl rfl rfl rfl rfl (ql_int _ _ _ hc) ?_
            refine WL.op rfl rfl rfl (Go.Proofs.Ytbldglnfadnkeaa.W.quiet_assign rfl rfl) ?_
            refine WL.nil ?_
            refine TW.reg ?_
            refine WL.op rfl rfl rfl (Go.Proofs.Ytbldglnfadnkeaa.W.quiet_field rfl rfl (fun W => (qa_api_Frame_3 W _ _))) ?_
            refine WL.ld rfl rfl rfl rfl rfl (ql_s_int _ _ _ _ _ (bx4.cell (j := 3) rfl)) ?_
            refine WL.op rfl rfl rfl (Go.Proofs.Ytbldglnfadnkeaa.W.quiet_move rfl rfl) ?_
            refine WL.op rfl rfl rfl (Go.Proofs.Ytbldglnfadnkeaa.W.quiet_move rfl rfl) ?_
            refine WL.op rfl rfl rfl (Go.Proofs.Ytbldglnfadnkeaa.W.quiet_bin rfl rfl rfl (fun W => qb_add_int W _ _ _ _ (by omega) (by omega))) ?_
            refine O.bsl rfl rfl rfl rfl rfl (qv_s_int_1 _ _) ?_
            refine WL.append rfl rfl rfl rfl rfl rfl (Ints.appO _ _ hI hz (by omega)) ?_
            rintro v2 w20 ⟨hI2, hF2⟩
            rw [← obsL_succ] at hI2
            obtain ⟨va2, vc2, rfl, _⟩ := hI2.form
            -- world w20
            replace bx2 := bx2.fr hF2 (fun e => by have := hvb _ e; omega)
            replace bx3 := bx3.fr hF2 (fun e => by have := hvb _ e; omega)
            replace bx4 := bx4.fr hF2 (fun e => by have := hvb _ e; omega)
            replace hG := hG.fr hF2 (fun q h1 h2 e => by first | omega | (have := hvb _ e; omega))
            replace hP := hP.fr hF2 (fun q h1 h2 e => by first | omega | (have := hvb _ e; omega))
            replace hz := Nat.le_trans hz hF2.size
            replace ff := ff.trans' hF2 (fun q hq e => by have := hvb _ e; omega)
            refine WL.op rfl rfl rfl (Go.Proofs.Ytbldglnfadnkeaa.W.quiet_field rfl rfl (fun W => (qa_api_Frame_3 W _ _))) ?_
            refine O.storeR rfl rfl rfl rfl rfl (qsF_s_int w20 _ 3 _ _ _ _ _ _ bx4 rfl) ?_
            rintro wa12 ⟨fa12, bx4x⟩
            replace bx2 := bx2.fr fa12 (fun e => by omega)
            replace bx3 := bx3.fr fa12 (fun e => by omega)
            replace hG := hG.fr fa12 (fun q h1 h2 e => by first | omega | (have := hvb _ e; omega))
            replace hP := hP.fr fa12 (fun q h1 h2 e => by first | omega | (have := hvb _ e; omega))
            replace hz := Nat.le_trans hz fa12.size
            replace hI2 := hI2.fr fa12 (fun q h1 e => by omega)
            replace ff := ff.trans' fa12 (fun q hq e => by omega)
            clear bx4
            have bx4 := bx4x
            clear bx4x
            refine WL.end ?_
            refine Xw.nblk ?_
            refine Xw.nrm ?_
            refine TW.reg ?_
            refine WL.op rfl rfl rfl (Go.Proofs.Ytbldglnfadnkeaa.W.quiet_bin rfl rfl rfl (fun W => qb_add_int W _ _ _ _ (by omega) (by omega))) ?_
            refine WL.op rfl rfl rfl (Go.Proofs.Ytbldglnfadnkeaa.W.quiet_move rfl rfl) ?_
            refine WL.end ?_
            refine Xw.any (fun a k => ?_)
            exact ⟨j + 1, by omega, by omega, _, (by (repeat (refine Kn.cons k rfl ?_)); exact k.base), ff, bx2, bx3, bx4, hG, hP, hz, hI2⟩
          · skip
            have hje : j = s.length := by have := of_decide_eq_false hb6; omega
            subst hje
            obtain ⟨va, vc, rfl, _⟩ := hI.form
            have hFe : fstI (gvn l) kc = F := by unfold fstI; omega
            refine WL.nil ?_
            refine TW.seq ?_
            refine TW.cond rfl (fun hb => by cases hb) (fun _ => ?_)
            refine TW.exit ?_
            refine Xw.thn (by simp) ?_
            refine Xw.thn (by simp) ?_
            refine Xw.hit ?_
            refine Xw.nrm ?_
            refine TW.sreg ?_
            refine WL.ld rfl rfl rfl rfl rfl (ql_int _ _ _ (bx3.cell (j := 0) rfl)) ?_
            refine WL.op rfl rfl rfl (Go.Proofs.Ytbldglnfadnkeaa.W.quiet_field rfl rfl (fun W => (qa_api_Frame_0 W _ _))) ?_
            refine O.storeR rfl rfl rfl rfl rfl (qsF_int wo _ 0 _ _ _ _ bx4 rfl) ?_
            rintro wa13 ⟨fa13, bx4x⟩
            replace bx2 := bx2.fr fa13 (fun e => by omega)
            replace bx3 := bx3.fr fa13 (fun e => by omega)
            replace hG := hG.fr fa13 (fun q h1 h2 e => by first | omega | (have := hvb _ e; omega))
            replace hP := hP.fr fa13 (fun q h1 h2 e => by first | omega | (have := hvb _ e; omega))
            replace hz := Nat.le_trans hz fa13.size
            replace hI := hI.fr fa13 (fun q h1 e => by omega)
            replace ff := ff.trans' fa13 (fun q hq e => by omega)
            clear bx4
            have bx4 := bx4x
            clear bx4x
            refine WL.nil ?_
            refine TW.seq ?_
            refine TW.sreg ?_
            refine WL.op rfl rfl rfl (Go.Proofs.Ytbldglnfadnkeaa.W.quiet_field rfl rfl (fun W => (qa_api_Frame_0 W _ _))) ?_
            refine WL.ld rfl rfl rfl rfl rfl (ql_int _ _ _ (bx4.cell (j := 0) rfl)) ?_
            refine WL.op rfl rfl rfl (Go.Proofs.Ytbldglnfadnkeaa.W.quiet_bin rfl rfl rfl (fun W => qb_gtr_int W _ _ _ _)) ?_
            refine O.split (fun hb7 => ?_) (fun hb7 => ?_)
            · skip
              refine WL.nil ?_
              refine TW.cond rfl (fun _ => ?_) (fun hb => by cases hb)
              refine TW.sreg ?_
              refine O.bld rfl rfl rfl rfl rfl (bf_0 _) ?_
              refine O.storeR rfl rfl rfl rfl rfl (qsA_api_Frame wa13 _ _ _ _ _ _ _ _ _ _ _ _ _ bx2) ?_
              rintro wa14 ⟨fa14, bx2x⟩
              replace bx3 := bx3.fr fa14 (fun e => by omega)
              replace bx4 := bx4.fr fa14 (fun e => by omega)
              replace hG := hG.fr fa14 (fun q h1 h2 e => by first | omega | (have := hvb _ e; omega))
              replace hP := hP.fr fa14 (fun q h1 h2 e => by first | omega | (have := hvb _ e; omega))
              replace hz := Nat.le_trans hz fa14.size
              replace hI := hI.fr fa14 (fun q h1 e => by omega)
              replace ff := ff.trans' fa14 (fun q hq e => by omega)
              clear bx2
              have bx2 := bx2x
              clear bx2x
              refine WL.op rfl rfl rfl (Go.Proofs.Ytbldglnfadnkeaa.W.quiet_assign rfl rfl) ?_
              refine WL.nil ?_
              refine TW.rt ?_
              refine Xw.thn (by simp) ?_
              refine O.retc2 rfl rfl rfl (run_loadVar_row _ _ _ 31 _ _ _ bx2 Try.underlying31 rfl (by kernel_rfl)) ?_
              exact lay_2 hn1 (.inr (by rw [hFe]; exact of_decide_eq_true hb7)) ⟨rfl, ff⟩
            · skip
              refine WL.nil ?_
              refine TW.cond rfl (fun hb => by cases hb) (fun _ => ?_)
              refine TW.skip ?_
              refine TW.sreg ?_
              refine WL.ld rfl rfl rfl rfl rfl (qlB_api_Frame _ _ _ _ _ _ _ _ _ _ _ bx4) ?_
              refine O.storeR rfl rfl rfl rfl rfl (qsA_api_Frame wa13 _ _ _ _ _ _ _ _ _ _ _ _ _ bx2) ?_
              rintro wa15 ⟨fa15, bx2x⟩
              replace bx3 := bx3.fr fa15 (fun e => by omega)
              replace bx4 := bx4.fr fa15 (fun e => by omega)
              replace hG := hG.fr fa15 (fun q h1 h2 e => by first | omega | (have := hvb _ e; omega))
              replace hP := hP.fr fa15 (fun q h1 h2 e => by first | omega | (have := hvb _ e; omega))
              replace hz := Nat.le_trans hz fa15.size
              replace hI := hI.fr fa15 (fun q h1 e => by omega)
              replace ff := ff.trans' fa15 (fun q hq e => by omega)
              clear bx2
              have bx2 := bx2x
              clear bx2x
              refine WL.op rfl rfl rfl (Go.Proofs.Ytbldglnfadnkeaa.W.quiet_assign rfl rfl) ?_
              refine WL.nil ?_
              refine TW.rt ?_
              refine O.retc2 rfl rfl rfl (run_loadVar_row _ _ _ 31 _ _ _ bx2 Try.underlying31 rfl (by kernel_rfl)) ?_
              obtain ⟨_, _, e5, hat5⟩ := hG.1.at
              cases e5
              obtain ⟨_, _, e6, hat6⟩ := hI.at
              cases e6
              have hn2 : ¬ 2000 < F + offs s s.length := of_decide_eq_false hb7
              refine lay_3 hn1 (by rw [hFe]; omega) ⟨ga, gc, va, vc, ?_, hat5, (by rw [hFe]; exact hat6), ff⟩
              rw [hFe, show (4 + 4 * ((gvn l).length : Int)) = 0 + 4 + 4 * ((gvn l).length : Int) by omega]
end Go.Proofs.Ytbldglnfadnkeaa
