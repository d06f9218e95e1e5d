/-
  Frames (layer 25): the registers that are given.
-/
import Derived.Test.YtbldglnfadnkeaaFaA
import Derived.Test.YtbldglnfadnkeaaWp
namespace Go.Proofs.Ytbldglnfadnkeaa
open Go.RowKit
set_option linter.unusedVariables false
set_option linter.unusedSimpArgs false
theorem qn_s_api_Seat (w : World) (a : Option Addr) (k l : Nat) : (Builtin.len_ #[26] 3 #[.slice a k l]).run Try.prog w = .ok (.int .i64 k) w := by simp [go_sem]
theorem qb_lss_int (w : World) (x y : Operand) (m n : Int) : ((do eqGuard .lss 3 x y (.int .i64 m) (.int .i64 n); binOp .lss 3 (.int .i64 m) (.int .i64 n) : Sem Value)).run Try.prog w = .ok (.bool (decide (m < n))) w := by simp [go_sem]
theorem qi_s_api_Seat (w : World) (b o n c j : Nat) (hj : j < n) : (Instr.indexAt 26 (.slice (some ⟨b, o, none⟩) n c) (.int .i64 (j : Int))).run Try.prog w = .ok (.pointer (some ⟨b, o + j * 2, none⟩)) w := by
  have h : (j : Int) < (n : Int) := by omega
  simp [go_sem, h, hj]
theorem ql_api_Seat (w : World) (b o : Nat) (u0 u1 : Value) (h0 : w.cell? ⟨b, o, none⟩ = some u0) (h1 : w.cell? ⟨b, o + 1, none⟩ = some u1) : (Instr.loadAt 44 (.pointer (some ⟨b, o, none⟩))).run Try.prog w = .ok (.agg #[u0, u1]) w := by simp [go_sem, h0, h1]
theorem qzR_api_Seat (w : World) : ∃ w', (Instr.alloc 44 true (.tuple #[])).run Try.prog w = .ok (.pointer (some ⟨w.heap.size, 0, none⟩)) w' ∧ (Fr (fun _ => False) w w' ∧ Bx w' w.heap.size #[.int .i64 0, .int .i64 0] 44) := ⟨w.alloc (.cells #[.int .i64 0, .int .i64 0] 44), by simp [go_sem], fr_al (Fr.refl _ _) _, Bx.new _ _ _⟩
theorem qsA_api_Seat (w : World) (g : Nat) (z0 z1 : Value) (um0 : Int) (um1 : Int) (h : Bx w g #[z0, z1] 44) : ∃ w', (Instr.storeAt 44 (.pointer (some ⟨g, 0, none⟩)) (.agg #[.int .i64 um0, .int .i64 um1])).run Try.prog w = .ok () w' ∧ (Fr (fun q => q = g) w w' ∧ Bx w' g #[.int .i64 um0, .int .i64 um1] 44) := by
  have c0 := h.cell (j := 0) rfl
  have e0 := h.free 0
  have c1 := h.cell (j := 1) rfl
  have e1 := h.free 1
  have H : ∀ k v W z, Bx W g z 44 → Bx (W.setCell ⟨g, k, none⟩ v) g (z.setIfInBounds k v) 44 := fun k v W z h => h.set k v
  refine ⟨_, by simp [go_sem, c0, e0, c1, e1]; rfl, ?_, ?_⟩
  · repeat first | exact Fr.refl _ _ | refine Fr.trans ?_ (Fr.setCell _ _ _ rfl)
  · exact H 1 _ _ _ (H 0 _ _ _ (h))
theorem qa_api_Seat_0 (w : World) (b o : Nat) : (Instr.fieldAt 44 (.pointer (some ⟨b, o, none⟩)) 0).run Try.prog w = .ok (.pointer (some ⟨b, o, none⟩)) w := by simp [go_sem]
theorem ql_int (w : World) (m : Int) (d : Addr) (h : w.cell? d = some (.int .i64 m)) : (Instr.loadAt 3 (.pointer (some d))).run Try.prog w = .ok (.int .i64 m) w := by simp [go_sem, h]
theorem qb_gtr_int (w : World) (x y : Operand) (m n : Int) : ((do eqGuard .gtr 3 x y (.int .i64 m) (.int .i64 n); binOp .gtr 3 (.int .i64 m) (.int .i64 n) : Sem Value)).run Try.prog w = .ok (.bool (decide (n < m))) w := by simp [go_sem]
theorem qv_s_int_1 (w : World) (m0 : Int) : (Instr.buildSlice 29 1 #[(0, .int .i64 m0)]).run Try.prog w = .ok (.slice (some ⟨w.heap.size, 0, none⟩) 1 1) (w.alloc (.cells #[.int .i64 m0] 3)) := by simp [go_sem]
theorem qb_add_int (w : World) (x y : Operand) (m n : Int) (h0 : -9223372036854775808 ≤ m + n) (h1 : m + n ≤ 9223372036854775807) : ((do eqGuard .add 3 x y (.int .i64 m) (.int .i64 n); binOp .add 3 (.int .i64 m) (.int .i64 n) : Sem Value)).run Try.prog w = .ok (.int .i64 (m + n)) w := by
  have h : IntKind.i64.wrap (m + n) = m + n := IntWalk.i64_in _ (by omega)
  simp [go_sem, h]
theorem qk_slices_Sort_int_int (w : World) (vs : Array Value) : (callFunc 21 vs).run Try.prog w = .ok (.enter 21 vs) w := by simp [go_sem]
theorem qk_slices_Compact_int_int (w : World) (vs : Array Value) : (callFunc 22 vs).run Try.prog w = .ok (.enter 22 vs) w := by simp [go_sem]
theorem qv_s_int_12 (w : World) (m0 : Int) (m1 : Int) (m2 : Int) (m3 : Int) (m4 : Int) (m5 : Int) (m6 : Int) (m7 : Int) (m8 : Int) (m9 : Int) (m10 : Int) (m11 : Int) : (Instr.buildSlice 29 12 #[(0, .int .i64 m0), (1, .int .i64 m1), (2, .int .i64 m2), (3, .int .i64 m3), (4, .int .i64 m4), (5, .int .i64 m5), (6, .int .i64 m6), (7, .int .i64 m7), (8, .int .i64 m8), (9, .int .i64 m9), (10, .int .i64 m10), (11, .int .i64 m11)]).run Try.prog w = .ok (.slice (some ⟨w.heap.size, 0, none⟩) 12 12) (w.alloc (.cells #[.int .i64 m0, .int .i64 m1, .int .i64 m2, .int .i64 m3, .int .i64 m4, .int .i64 m5, .int .i64 m6, .int .i64 m7, .int .i64 m8, .int .i64 m9, .int .i64 m10, .int .i64 m11] 3)) := by simp [go_sem]
theorem qi_s_int (w : World) (b o n c j : Nat) (hj : j < n) : (Instr.indexAt 29 (.slice (some ⟨b, o, none⟩) n c) (.int .i64 (j : Int))).run Try.prog w = .ok (.pointer (some ⟨b, o + j, none⟩)) w := by
  have h : (j : Int) < (n : Int) := by omega
  simp [go_sem, h, hj]
/-- The machine's registers that may be given. -/
def NM : List Int := [8, 9, 18, 19, 20, 21, 22, 23, 24, 25, 26, 27]
def pos (l : List (Int × Int)) (j : Nat) : List Int := ((l.take j).map (·.1)).filter fun x => decide (0 < x)
theorem pos_zero (l : List (Int × Int)) : pos l 0 = [] := by simp [pos]
theorem pos_le (l : List (Int × Int)) (j : Nat) : (pos l j).length ≤ l.length := by
  unfold pos
  refine Nat.le_trans (List.length_filter_le _ _) ?_
  rw [List.length_map, List.length_take]
  omega
theorem pos_in (l : List (Int × Int)) (j : Nat) (hj : j < l.length) (h : 0 < (l.getD j (0, 0)).1) : pos l (j + 1) = pos l j ++ [(l.getD j (0, 0)).1] := by
  unfold pos
  simp only [List.getD_eq_getElem?_getD, List.getElem?_eq_getElem hj, Option.getD_some] at h ⊢
  rw [List.take_add_one, List.getElem?_eq_getElem hj, Option.toList_some, List.map_append, List.filter_append]
  simp [List.filter, h]
theorem pos_out (l : List (Int × Int)) (j : Nat) (hj : j < l.length) (h : ¬0 < (l.getD j (0, 0)).1) : pos l (j + 1) = pos l j := by
  unfold pos
  simp only [List.getD_eq_getElem?_getD, List.getElem?_eq_getElem hj, Option.getD_some] at h ⊢
  rw [List.take_add_one, List.getElem?_eq_getElem hj, Option.toList_some, List.map_append, List.filter_append]
  simp [List.filter, h]
/-- The registers that are given, ascending, each once. -/
def gvn (l : List (Int × Int)) : List Int := Lib.compact ((pos l l.length).mergeSort fun x y => decide (x ≤ y))
theorem nm_get : ∀ k : Fin 12, (NM[k.val]?) = some (NM.getD k.val 0) := by decide
set_option maxRecDepth 100000 in
theorem t_given (ad : Option Addr) (c : Nat) (l : List (Int × Int)) (hl : l.length ≤ 1000) (w : World) (hat : SeatsAt w ad l) : Calls Try.prog 16 #[.slice ad l.length c] w fun e w' => ∃ v, e = .returned v ∧ Ints w.heap.size w' v (gvn l) ∧ Fr (fun _ => False) w w' := by
  refine calls_tw Try.func16 rfl rfl (Nat.le_of_ble_eq_true rfl) ?_
  refine TW.sreg ?_
  refine WL.op rfl rfl rfl (Go.Proofs.Ytbldglnfadnkeaa.W.quiet_assign rfl rfl) ?_
  refine WL.nil ?_
  refine TW.sreg ?_
  refine WL.op rfl rfl rfl (Go.Proofs.Ytbldglnfadnkeaa.W.quiet_assign rfl rfl) ?_
  refine WL.nil ?_
  refine TW.seq ?_
  refine TW.sreg ?_
  refine WL.op rfl rfl rfl (Go.Proofs.Ytbldglnfadnkeaa.W.quiet_move rfl rfl) ?_
  refine O.len rfl rfl rfl rfl rfl (qn_s_api_Seat _ _ _ _) ?_
  refine WL.op rfl rfl rfl (Go.Proofs.Ytbldglnfadnkeaa.W.quiet_move rfl rfl) ?_
  refine WL.nil ?_
  refine TW.block ?_
  refine O.loopG (n := l.length) (fun a _ => (intOf (a.tmps.getD 8 undef)).toNat) (fun j a W => ∃ (v : Value), Kn Try.f16.ntmps [(3, v), (6, .slice ad l.length c), (7, .int .i64 (l.length : Int)), (8, .int .i64 (j : Int))] a ∧ Fr (fun _ => False) w W ∧ Ints w.heap.size W v (pos l j)) (fun j a W h => by obtain ⟨_, h⟩ := h; exact O.slotv h.1 rfl) 0 (Nat.zero_le _) (fun a k => ⟨.slice none 0 0, (by (repeat (refine Kn.cons k rfl ?_)); exact k.base), Fr.refl _ _, by rw [pos_zero]; exact Ints.nil _ _⟩) ?_
  rintro j a wl hj ⟨v, k, ff, hI⟩
  refine TW.app (s := [(3, v), (6, .slice ad l.length c), (7, .int .i64 (l.length : Int)), (8, .int .i64 (j : Int))]) ?_ k
  refine TW.sreg ?_
  refine WL.op rfl rfl rfl (Go.Proofs.Ytbldglnfadnkeaa.W.quiet_bin rfl rfl rfl (fun W => qb_lss_int W _ _ _ _)) ?_
  refine O.split (fun hb => ?_) (fun hb => ?_)
  · skip
    have hj2 : j < l.length := by have := of_decide_eq_true hb; omega
    have hpl := pos_le l j
    obtain ⟨g, o, rfl, h1, h2⟩ := hat j hj2
    have h1 := ff.cell h1 id
    have h2 := ff.cell h2 id
    have hw0 := ff.size
    have hI0 : Ints w.heap.size wl v (pos l j) := hI
    refine WL.nil ?_
    refine TW.seq ?_
    refine TW.cond rfl (fun _ => ?_) (fun hb => by cases hb)
    refine TW.skip ?_
    refine TW.seq ?_
    refine TW.block ?_
    refine TW.sreg ?_
    refine O.ixa rfl rfl rfl rfl rfl rfl (qi_s_api_Seat _ _ _ _ _ _ (by omega)) ?_
    refine WL.ld rfl rfl rfl rfl rfl (ql_api_Seat _ _ _ _ _ h1 h2) ?_
    have lw1 := ff.size
    refine O.allocR rfl rfl rfl rfl (qzR_api_Seat wl) ?_
    rintro wa1 ⟨fa1, bx1⟩
    replace ff := ff.trans fa1
    refine O.storeR rfl rfl rfl rfl rfl (qsA_api_Seat wa1 _ _ _ _ _ bx1) ?_
    rintro wa2 ⟨fa2, bx1x⟩
    replace ff := ff.trans' fa2 (fun q hq e => by omega)
    clear bx1
    have bx1 := bx1x
    clear bx1x
    refine WL.nil ?_
    refine TW.sreg ?_
    refine WL.op rfl rfl rfl (Go.Proofs.Ytbldglnfadnkeaa.W.quiet_field rfl rfl (fun W => (qa_api_Seat_0 W _ _))) ?_
    refine WL.ld rfl rfl rfl rfl rfl (ql_int _ _ _ (bx1.cell (j := 0) rfl)) ?_
    refine WL.op rfl rfl rfl (Go.Proofs.Ytbldglnfadnkeaa.W.quiet_bin rfl rfl rfl (fun W => qb_gtr_int W _ _ _ _)) ?_
    refine O.split (fun hb2 => ?_) (fun hb2 => ?_)
    · skip
      have hp := of_decide_eq_true hb2
      refine WL.nil ?_
      refine TW.cond rfl (fun _ => ?_) (fun hb => by cases hb)
      refine TW.reg ?_
      refine WL.op rfl rfl rfl (Go.Proofs.Ytbldglnfadnkeaa.W.quiet_move rfl rfl) ?_
      refine WL.op rfl rfl rfl (Go.Proofs.Ytbldglnfadnkeaa.W.quiet_field rfl rfl (fun W => (qa_api_Seat_0 W _ _))) ?_
      refine WL.ld rfl rfl rfl rfl rfl (ql_int _ _ _ (bx1.cell (j := 0) rfl)) ?_
      refine O.bsl rfl rfl rfl rfl rfl (qv_s_int_1 _ _) ?_
      have f0 : Fr (fun _ => False) wl wa2 := fa1.trans' fa2 (fun q hq e => by omega)
      refine WL.append rfl rfl rfl rfl rfl rfl (Ints.app _ _ (hI.fr f0 (fun _ _ => id)) ff (by omega)) ?_
      rintro v2 w4 ⟨hI2, hF2⟩
      -- world w4
      refine WL.op rfl rfl rfl (Go.Proofs.Ytbldglnfadnkeaa.W.quiet_assign rfl rfl) ?_
      refine WL.end ?_
      refine Xw.nblk ?_
      refine Xw.nrm ?_
      refine TW.reg ?_
      refine WL.op rfl rfl rfl (Go.Proofs.Ytbldglnfadnkeaa.W.quiet_bin rfl rfl rfl (fun W => qb_add_int W _ _ _ _ (by omega) (by omega))) ?_
      refine WL.op rfl rfl rfl (Go.Proofs.Ytbldglnfadnkeaa.W.quiet_move rfl rfl) ?_
      refine WL.end ?_
      refine Xw.any (fun a k => ?_)
      refine ⟨j + 1, by omega, by omega, v2, by (repeat (refine Kn.cons k rfl ?_)); exact k.base, hF2, by rw [pos_in l j hj2 hp]; exact hI2⟩
    · skip
      have hp := of_decide_eq_false hb2
      refine WL.nil ?_
      refine TW.cond rfl (fun hb => by cases hb) (fun _ => ?_)
      refine TW.skipx ?_
      refine Xw.nblk ?_
      refine Xw.nrm ?_
      refine TW.reg ?_
      refine WL.op rfl rfl rfl (Go.Proofs.Ytbldglnfadnkeaa.W.quiet_bin rfl rfl rfl (fun W => qb_add_int W _ _ _ _ (by omega) (by omega))) ?_
      refine WL.op rfl rfl rfl (Go.Proofs.Ytbldglnfadnkeaa.W.quiet_move rfl rfl) ?_
      refine WL.end ?_
      refine Xw.any (fun a k => ?_)
      have f0 : Fr (fun _ => False) wl wa2 := fa1.trans' fa2 (fun q hq e => by omega)
      refine ⟨j + 1, by omega, by omega, v, by (repeat (refine Kn.cons k rfl ?_)); exact k.base, ff, by rw [pos_out l j hj2 hp]; exact hI.fr f0 (fun _ _ => id)⟩
  · skip
    have hje : j = l.length := by have := of_decide_eq_false hb; omega
    subst hje
    have hpl := pos_le l l.length
    refine WL.nil ?_
    refine TW.seq ?_
    refine TW.cond rfl (fun hb => by cases hb) (fun _ => ?_)
    refine TW.exit ?_
    refine Xw.thn (by simp) ?_
    refine Xw.thn (by simp) ?_
    refine Xw.hit ?_
    refine Xw.nrm ?_
    refine TW.sreg ?_
    refine WL.op rfl rfl rfl (Go.Proofs.Ytbldglnfadnkeaa.W.quiet_move rfl rfl) ?_
    refine WL.call (hr := t_sort hI ff (by omega)) rfl rfl rfl rfl rfl (fun W => qk_slices_Sort_int_int W _) ?_
    rintro e w2 ⟨rfl, hI2, f2⟩
    refine ⟨_, rfl, ?_⟩
    refine WL.nil ?_
    refine TW.sreg ?_
    refine WL.op rfl rfl rfl (Go.Proofs.Ytbldglnfadnkeaa.W.quiet_move rfl rfl) ?_
    refine WL.call (hr := t_compact hI2 f2 (by rw [List.length_mergeSort]; omega)) rfl rfl rfl rfl rfl (fun W => qk_slices_Compact_int_int W _) ?_
    rintro e w3 ⟨v3, rfl, hI3, f3⟩
    refine ⟨_, rfl, ?_⟩
    refine WL.op rfl rfl rfl (Go.Proofs.Ytbldglnfadnkeaa.W.quiet_assign rfl rfl) ?_
    refine WL.nil ?_
    refine TW.rt ?_
    refine bodyw_ret rfl rfl ?_
    exact ⟨v3, rfl, hI3, f3⟩
set_option maxRecDepth 100000 in
theorem t_name (k : Nat) (hk : k < 12) (w : World) : Calls Try.prog 12 #[.int .i64 (k : Int)] w fun e w' => e = .returned (.int .i64 (NM.getD k 0)) ∧ Fr (fun _ => False) w w' := by
  refine calls_tw Try.func12 rfl rfl (Nat.le_of_ble_eq_true rfl) ?_
  have hC : (w.alloc (.cells #[.int .i64 8, .int .i64 9, .int .i64 18, .int .i64 19, .int .i64 20, .int .i64 21, .int .i64 22, .int .i64 23, .int .i64 24, .int .i64 25, .int .i64 26, .int .i64 27] 3)).cell? ⟨w.heap.size, 0 + k, none⟩ = some (.int .i64 (NM.getD k 0)) := by
    rw [Nat.zero_add]
    refine fcell w _ _ k _ ?_
    match k, hk with
    | 0, _ | 1, _ | 2, _ | 3, _ | 4, _ | 5, _ | 6, _ | 7, _ | 8, _ | 9, _ | 10, _ | 11, _ => rfl
    | n + 12, h => exact absurd h (by omega)
  refine TW.sreg ?_
  refine WL.op rfl rfl rfl (Go.Proofs.Ytbldglnfadnkeaa.W.quiet_assign rfl rfl) ?_
  refine WL.nil ?_
  refine TW.sreg ?_
  refine O.bsl rfl rfl rfl rfl rfl (qv_s_int_12 _ _ _ _ _ _ _ _ _ _ _ _ _) ?_
  refine WL.op rfl rfl rfl (Go.Proofs.Ytbldglnfadnkeaa.W.quiet_assign rfl rfl) ?_
  refine WL.nil ?_
  refine TW.sreg ?_
  refine WL.op rfl rfl rfl (Go.Proofs.Ytbldglnfadnkeaa.W.quiet_move rfl rfl) ?_
  refine WL.op rfl rfl rfl (Go.Proofs.Ytbldglnfadnkeaa.W.quiet_move rfl rfl) ?_
  refine O.ixa rfl rfl rfl rfl rfl rfl (qi_s_int _ _ _ _ _ k (by omega)) ?_
  refine WL.ld rfl rfl rfl rfl rfl (ql_int _ _ _ hC) ?_
  refine WL.op rfl rfl rfl (Go.Proofs.Ytbldglnfadnkeaa.W.quiet_assign rfl rfl) ?_
  refine WL.nil ?_
  refine TW.rt ?_
  refine bodyw_ret rfl rfl ?_
  exact ⟨rfl, fr_al (Fr.refl _ _) _⟩
end Go.Proofs.Ytbldglnfadnkeaa
