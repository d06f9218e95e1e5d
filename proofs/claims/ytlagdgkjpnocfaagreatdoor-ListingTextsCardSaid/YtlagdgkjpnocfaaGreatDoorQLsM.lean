/-
  Listing (layer 6): a line, read. Listing (layer 6): a line, read: the walk. Listing (layer 6): Read.
-/
import Derived.Test.YtlagdgkjpnocfaaGreatDoorQLsJ
import Derived.Laws.ResultCell
namespace Go.Proofs.YtlagdgkjpnocfaaGreatDoor
open Go.RowKit
set_option linter.unusedVariables false
set_option linter.unusedSimpArgs false
theorem bodyw_retct {P : Program} {N : Nat} {s : List (Nat × Value)} {w : World} {fn : Func} {R : Ending → World → Prop} {t u g : Nat} {ty t2 : TypeId} {cs : Array Value} {d : TypeDesc} {v : Value} (hr : fn.results = #[.cell t ty, .tmp u]) (hp : lk s t = some (.pointer (some ⟨g, 0, none⟩))) (hv : lk s u = some v) (hg : w.heap[g]? = some (.cells cs t2 (0, 0))) (hu : P.underlying ty = some d) (hd : (match d with | .struct _ | .array _ _ => true | _ => false) = true) (hi : (P.info? ty).map (·.size) = some cs.size) (h : R (.returned (.tuple #[.agg cs, v])) w) : Xw .ret N (bodyPost P fn R) s w := fun a k => by
  refine ⟨k.defers, .tuple #[.agg cs, v], ?_, h⟩
  have h1 := k.has t _ hp
  have h2 := k.has u _ hv
  rw [results_cell_tmp hr]
  have e1 : a.tmps.getD t undef = .pointer (some ⟨g, 0, none⟩) := by simp only [Array.getD_eq_getD_getElem?, h1, Option.getD_some]
  have e2 : a.tmps.getD u undef = v := by simp only [Array.getD_eq_getD_getElem?, h2, Option.getD_some]
  rw [e1, e2]
  simp [asAddr, run_loadVar_row w g t2 ty cs (0, 0) d hg hu hd hi, Result.andThen]
def ldR : List UInt8 → List (List UInt8) → I5 → Option I5
  | o :: os, p :: ps, i => if (opR o p i).2 = true then ldR os ps (opR o p i).1 else none
  | _, _, i => some i
def prtsR (s : List UInt8) (n : Nat) : List (List UInt8) := (Lib.splitB ⟨#[44, 32]⟩ 0 (min n (s.length + 1) - 1) ⟨s.toArray⟩).map (·.data.toList)
def z5 : I5 := ⟨0, 0, 0, 0, 0⟩
/-- The instruction of a line, if it can be read as one. -/
def parseR (s : List UInt8) : Option I5 :=
  let c := Lib.cut s [32]
  let op := opF c.1 1
  let ps := prtsR c.2.1 ((layT op).length + 1)
  if op = 0 ∨ ps.length ≠ (layT op).length then none else ldR (layT op) ps ⟨op, 0, 0, 0, 0⟩
def PaP (s : List UInt8) (w : World) (e : Ending) (w' : World) : Prop := e = .returned (match parseR s with | some i => .tuple #[.agg i.vals, .bool true] | none => .tuple #[.agg z5.vals, .bool false]) ∧ Fr (fun _ => False) w w'
section
variable (w : World)
theorem bd_op (m : Int) : (Instr.build 23 #[(0, .int .i64 m)]).run Tryz.prog w = .ok (.agg #[.int .i64 m, .int .i64 0, .int .i64 0, .int .i64 0, .int .i64 0]) w := by simp [go_sem]
theorem bd_no : (Instr.build 23 #[]).run Tryz.prog w = .ok (.agg #[.int .i64 0, .int .i64 0, .int .i64 0, .int .i64 0, .int .i64 0]) w := by simp [go_sem]
theorem st_ins (g : Nat) (z0 z1 z2 z3 z4 : Value) (u0 u1 u2 u3 u4 : Int) (h : RwL w g #[z0, z1, z2, z3, z4] 23) : ∃ w', (Instr.storeAt 23 (.pointer (some ⟨g, 0, none⟩)) (.agg #[.int .i64 u0, .int .i64 u1, .int .i64 u2, .int .i64 u3, .int .i64 u4])).run Tryz.prog w = .ok () w' ∧ RwL w' g #[.int .i64 u0, .int .i64 u1, .int .i64 u2, .int .i64 u3, .int .i64 u4] 23 ∧ Fr (fun q => q = g) w w' := by
  refine ⟨((((w.setCell ⟨g, 0, none⟩ (.int .i64 u0)).setCell ⟨g, 1, none⟩ (.int .i64 u1)).setCell ⟨g, 2, none⟩ (.int .i64 u2)).setCell ⟨g, 3, none⟩ (.int .i64 u3)).setCell ⟨g, 4, none⟩ (.int .i64 u4), ?_, ((((h.set 0 (.int .i64 u0)).set 1 (.int .i64 u1)).set 2 (.int .i64 u2)).set 3 (.int .i64 u3)).set 4 (.int .i64 u4), ?_⟩
  · have a0 := h.cell (j := 0) rfl
    have a1 := h.cell (j := 1) rfl
    have a2 := h.cell (j := 2) rfl
    have a3 := h.cell (j := 3) rfl
    have a4 := h.cell (j := 4) rfl
    simp [go_sem, a0, a1, a2, a3, a4, h.free]
  · have f : ∀ (w : World) (j : Nat) (u : Value), Fr (fun q => q = g) w (w.setCell ⟨g, j, none⟩ u) := fun w j u => Fr.setCell (F := fun q => q = g) w ⟨g, j, none⟩ u rfl
    exact ((((f _ 0 _).trans (f _ 1 _)).trans (f _ 2 _)).trans (f _ 3 _)).trans (f _ 4 _)
theorem ix_s (b o n c j : Nat) (hj : j < n) : (Instr.indexAt 68 (.slice (some ⟨b, o, none⟩) n c) (.int .i64 (j : Int))).run Tryz.prog w = .ok (.pointer (some ⟨b, o + j, none⟩)) w := by
  have h : (j : Int) < (n : Int) := by omega
  simp [go_sem, h, hj]
theorem ld_s (u : List UInt8) (d : Addr) (h : w.cell? d = some (bts u)) : (Instr.loadAt 9 (.pointer (some d))).run Tryz.prog w = .ok (bts u) w := by simp [go_sem, h]
theorem ln_sl (a : Option Addr) (k l : Nat) : (Builtin.len_ #[68] 3 #[.slice a k l]).run Tryz.prog w = .ok (.int .i64 k) w := by simp [go_sem]
theorem bn_nei (x y : Operand) (m n : Int) : (do eqGuard .neq 3 x y (.int .i64 m) (.int .i64 n); binOp .neq 3 (.int .i64 m) (.int .i64 n) : Sem Value).run Tryz.prog w = .ok (.bool (m != n)) w := by simp [go_sem]
theorem cf_on (vs : Array Value) : (callFunc 38 vs).run Tryz.prog w = .ok (.enter 38 vs) w := by simp [go_sem]
theorem cf_spn (vs : Array Value) : (callFunc 39 vs).run Tryz.prog w = .ok (.enter 39 vs) w := by simp [go_sem]
theorem cf_prs (vs : Array Value) : (callFunc 22 vs).run Tryz.prog w = .ok (.enter 22 vs) w := by simp [go_sem]
end
theorem prts_cell (s : List UInt8) (n : Nat) (w : World) (hl : (Lib.splitB ⟨#[44, 32]⟩ 0 (min n (s.length + 1) - 1) ⟨s.toArray⟩).length ≤ min n (s.length + 1)) (j : Nat) (hj : j < (prtsR s n).length) : (w.alloc (.cells (Lib.cellsOf (Lib.splitB ⟨#[44, 32]⟩ 0 (min n (s.length + 1) - 1) ⟨s.toArray⟩) (min n (s.length + 1))) 9)).cell? ⟨w.heap.size, j, none⟩ = some (bts ((prtsR s n).getD j [])) := by
  have hj' : j < (Lib.splitB ⟨#[44, 32]⟩ 0 (min n (s.length + 1) - 1) ⟨s.toArray⟩).length := by simpa [prtsR] using hj
  refine fcell w _ _ j _ ?_
  simp [Lib.cellsOf, prtsR, List.getElem?_append, hj', List.getD_eq_getElem?_getD]
theorem spl_len (sep : ByteArray) : ∀ (k : Nat) (s : ByteArray), (Lib.splitB sep 0 k s).length ≤ k + 1
  | 0, s => by simp [Lib.splitB]
  | k + 1, s => by
    unfold Lib.splitB
    split
    · simp
    · have := spl_len sep k (s.extract ((Lib.indexB s sep).toNat + sep.size) s.size)
      simp
      omega
theorem spl_size (sep : ByteArray) : ∀ (k : Nat) (s : ByteArray), ∀ p ∈ Lib.splitB sep 0 k s, p.size ≤ s.size
  | 0, s => by simp [Lib.splitB]
  | k + 1, s => by
    intro p hp
    unfold Lib.splitB at hp
    split at hp
    · simp at hp; subst hp; exact Nat.le_refl _
    · have ih := spl_size sep k (s.extract ((Lib.indexB s sep).toNat + sep.size) s.size)
      rw [List.mem_cons] at hp
      rcases hp with rfl | hp
      · simp [ByteArray.size_extract]; omega
      · have := ih p hp
        simp [ByteArray.size_extract] at this
        omega
theorem prts_len (s : List UInt8) (n : Nat) : ∀ p ∈ prtsR s n, p.length ≤ s.length := fun p hp => by
  unfold prtsR at hp
  obtain ⟨q, hq, rfl⟩ := List.mem_map.1 hp
  have := spl_size _ _ _ q hq
  have hq2 : (⟨s.toArray⟩ : ByteArray).size = s.length := rfl
  have hq3 : q.data.toList.length = q.size := rfl
  rw [hq2] at this
  rw [hq3]
  exact this
theorem blk_lt {w : World} {g k : Nat} {v : Value} (h : w.cell? ⟨g, k, none⟩ = some v) : g < w.heap.size := World.block_lt_of_cell? w _ h
theorem TW.mid {P : Program} {N : Nat} {Q : Exit → Act → World → Prop} {s : List (Nat × Value)} {x y : Code} {w : World} (I : Act → World → Prop) (h1 : TW P N (Exit.then I Q) s x w) (h2 : ∀ a w, I a w → y.wp P Q a w) : TW P N Q s (.seq x y) w := fun a k => by
  refine wp_seq (wp_mono (h1 a k) ?_)
  intro e a' w' q
  cases e with
  | normal => exact h2 a' w' q
  | exit id => exact q
  | goto l => exact q
  | ret => exact q
  | panic ch => exact q
  | outgrown => exact q
set_option maxRecDepth 100000 in
set_option maxHeartbeats 3200000 in
theorem t_parse (s : List UInt8) (hs : s.length ≤ 1000000) (w : World) (he : ErW w) (hm : MlW w) : Calls Tryz.prog 22 #[bts s] w (PaP s w) := by
  have hg1 : 1 < w.heap.size := by obtain ⟨⟨_, _, h⟩, _⟩ := he; exact blk_lt h
  have hg2 : 2 < w.heap.size := by obtain ⟨_, ⟨_, _, h⟩⟩ := he; exact blk_lt h
  have hg3 : 0 < w.heap.size := by obtain ⟨_, h⟩ := hm; exact blk_lt h
  have hPR : parseR s = (if opF (Lib.cut s [32]).1 1 = 0 ∨ (prtsR (Lib.cut s [32]).2.1 ((layT (opF (Lib.cut s [32]).1 1)).length + 1)).length ≠ (layT (opF (Lib.cut s [32]).1 1)).length then none else ldR (layT (opF (Lib.cut s [32]).1 1)) (prtsR (Lib.cut s [32]).2.1 ((layT (opF (Lib.cut s [32]).1 1)).length + 1)) ⟨opF (Lib.cut s [32]).1 1, 0, 0, 0, 0⟩) := rfl
  have hPP : PaP s w = fun e w' => e = .returned (match parseR s with | some i => .tuple #[.agg i.vals, .bool true] | none => .tuple #[.agg z5.vals, .bool false]) ∧ Fr (fun _ => False) w w' := rfl
  refine calls_tw Tryz.func22 rfl rfl (Nat.le_of_ble_eq_true rfl) ?_
  rw [hPP]
  clear hPP
  refine TW.sreg ?_
  refine WL.alloc rfl rfl rfl rfl (pal_ins _) ?_
  refine WL.op rfl rfl rfl (Go.Proofs.YtlagdgkjpnocfaaGreatDoor.W.quiet_assign rfl rfl) ?_
  refine WL.nil ?_
  have f1 := fr_al (Fr.refl (fun _ => False) w) (.cells #[.int .i64 0, .int .i64 0, .int .i64 0, .int .i64 0, .int .i64 0] 23)
  have r2 : RwL (w.alloc (.cells #[.int .i64 0, .int .i64 0, .int .i64 0, .int .i64 0, .int .i64 0] 23)) w.heap.size #[.int .i64 0, .int .i64 0, .int .i64 0, .int .i64 0, .int .i64 0] 23 := heap_alloc_new w _
  generalize w.alloc (.cells #[.int .i64 0, .int .i64 0, .int .i64 0, .int .i64 0, .int .i64 0] 23) = w1 at *
  obtain ⟨b2, hb2⟩ : ∃ z, w.heap.size = z := ⟨_, rfl⟩
  rw [hb2] at r2 ⊢
  obtain ⟨m, hm0⟩ := hm
  have hm1 := f1.cell hm0 id
  have KC := Tryz.strings_Cut ⟨s.toArray⟩ ⟨#[32]⟩ m w1 (by simp [ByteArray.size]; omega) hm1
  rw [show (⟨s.toArray⟩ : ByteArray).data.toList = s by simp, show (⟨#[32]⟩ : ByteArray).data.toList = [32] by rfl] at KC
  obtain ⟨cl1, cl2⟩ := cut_len s [32]
  generalize Lib.cut s [32] = c at *
  obtain ⟨ca, cb, cc⟩ := c
  simp only at KC hPR cl1 cl2
  refine TW.sreg ?_
  refine WL.op rfl rfl rfl (Go.Proofs.YtlagdgkjpnocfaaGreatDoor.W.quiet_move rfl rfl) ?_
  refine WL.call (hr := KC) rfl rfl rfl rfl rfl (fun W => cf_cut2 W _) ?_
  rintro e w2 ⟨rfl, nd, rfl⟩
  refine ⟨_, rfl, ?_⟩
  have fd : Fr (fun _ => False) w1 (w1.drewN nd) := (Fr.refl _ _).drewN nd
  replace r2 := r2.fr fd id
  replace f1 := f1.trans fd
  clear fd KC hm1
  generalize w1.drewN nd = w2 at *
  refine WL.op rfl rfl rfl (Go.Proofs.YtlagdgkjpnocfaaGreatDoor.W.quiet_move rfl rfl) ?_
  refine WL.ext rfl rfl rfl rfl rfl rfl ?_
  refine WL.ext rfl rfl rfl rfl rfl rfl ?_
  refine WL.ext rfl rfl rfl rfl rfl rfl ?_
  refine WL.op rfl rfl rfl (Go.Proofs.YtlagdgkjpnocfaaGreatDoor.W.quiet_assign rfl rfl) ?_
  refine WL.op rfl rfl rfl (Go.Proofs.YtlagdgkjpnocfaaGreatDoor.W.quiet_assign rfl rfl) ?_
  refine WL.op rfl rfl rfl (Go.Proofs.YtlagdgkjpnocfaaGreatDoor.W.quiet_assign rfl rfl) ?_
  refine WL.nil ?_
  refine TW.sreg ?_
  refine WL.op rfl rfl rfl (Go.Proofs.YtlagdgkjpnocfaaGreatDoor.W.quiet_move rfl rfl) ?_
  refine WL.call (hr := t_opNamed ca w2) rfl rfl rfl rfl rfl (fun W => cf_on W _) ?_
  rintro e w3 ⟨rfl, f3⟩
  refine ⟨_, rfl, ?_⟩
  replace r2 := r2.fr f3 id
  replace f1 := f1.trans f3
  clear f3 w1 w2
  generalize opF ca 1 = op at *
  refine WL.gen rfl rfl rfl (fun e h _ => by simp only [execOp, List.map_toArray, List.map_cons, List.map_nil, h (.tmp 19) _ rfl, Sem.run_bind, bd_op, Result.andThen_ok, Sem.run_pure]; rfl) ?_
  refine WL.alloc rfl rfl rfl rfl (pal_ins _) ?_
  refine WL.store rfl rfl rfl rfl rfl (pst_ins _ _ _ _ _ _) ?_
  refine WL.nil ?_
  have fa := fr_al (Fr.refl (fun _ => False) w3) (.cells #[.int .i64 op, .int .i64 0, .int .i64 0, .int .i64 0, .int .i64 0] 23)
  have r7 : RwL (w3.alloc (.cells #[.int .i64 op, .int .i64 0, .int .i64 0, .int .i64 0, .int .i64 0] 23)) w3.heap.size #[.int .i64 op, .int .i64 0, .int .i64 0, .int .i64 0, .int .i64 0] 23 := heap_alloc_new w3 _
  have hb7 : b2 < w3.heap.size := (Array.getElem?_eq_some_iff.1 r2).1
  have hb7' := f1.size
  replace r2 := r2.fr fa id
  replace f1 := f1.trans fa
  clear fa
  generalize w3.alloc (.cells #[.int .i64 op, .int .i64 0, .int .i64 0, .int .i64 0, .int .i64 0] 23) = w4 at *
  generalize w3.heap.size = b7 at *
  refine TW.sreg ?_
  refine WL.op rfl rfl rfl (Go.Proofs.YtlagdgkjpnocfaaGreatDoor.W.quiet_field rfl rfl (fun W => li0 W _ _)) ?_
  refine WL.ld rfl rfl rfl rfl rfl (ldi _ _ _ (r7.cell rfl)) ?_
  refine WL.call (hr := t_layout op w4) rfl rfl rfl rfl rfl (fun W => cf_lay W _) ?_
  rintro e w5 ⟨rfl, f5⟩
  refine ⟨_, rfl, ?_⟩
  refine WL.op rfl rfl rfl (Go.Proofs.YtlagdgkjpnocfaaGreatDoor.W.quiet_assign rfl rfl) ?_
  refine WL.nil ?_
  replace r2 := r2.fr f5 id
  replace r7 := r7.fr f5 id
  replace f1 := f1.trans f5
  clear f5 w4
  have hch := lay_chars op
  have hll := lay_len op
  generalize layT op = lay at *
  have KS := Tryz.strings_SplitN ⟨cb.toArray⟩ ⟨#[44, 32]⟩ (lay.length + 1) m w5 (by simp [ByteArray.size]; omega) (f1.cell hm0 id) (by decide) (by omega) (by omega)
  rw [show (⟨cb.toArray⟩ : ByteArray).size = cb.length by simp [ByteArray.size]] at KS
  have hpl := prts_len cb (lay.length + 1)
  have hspl := spl_len ⟨#[44, 32]⟩ (min (lay.length + 1) (cb.length + 1) - 1) ⟨cb.toArray⟩
  have hpc := prts_cell cb (lay.length + 1) w5 (by omega)
  have hpn : (Lib.splitB ⟨#[44, 32]⟩ 0 (min (lay.length + 1) (cb.length + 1) - 1) ⟨cb.toArray⟩).length = (prtsR cb (lay.length + 1)).length := by simp [prtsR]
  rw [hpn] at KS
  generalize prtsR cb (lay.length + 1) = ps at *
  clear hspl hpn
  refine TW.sreg ?_
  refine WL.op rfl rfl rfl (Go.Proofs.YtlagdgkjpnocfaaGreatDoor.W.quiet_move rfl rfl) ?_
  refine WL.op rfl rfl rfl (Go.Proofs.YtlagdgkjpnocfaaGreatDoor.W.quiet_move rfl rfl) ?_
  refine WL.lns rfl rfl rfl rfl rfl (ln_str _ _) ?_
  refine WL.op rfl rfl rfl (Go.Proofs.YtlagdgkjpnocfaaGreatDoor.W.quiet_bin rfl rfl rfl (fun W => bn_add2 W _ _ (lay.length : Int) 1 (by omega) (by omega))) ?_
  refine WL.call (hr := KS) rfl rfl rfl rfl rfl (fun W => cf_spn W _) ?_
  rintro e w6 ⟨rfl, rfl⟩
  refine ⟨_, rfl, ?_⟩
  refine WL.op rfl rfl rfl (Go.Proofs.YtlagdgkjpnocfaaGreatDoor.W.quiet_assign rfl rfl) ?_
  refine WL.nil ?_
  have fa := fr_al (Fr.refl (fun _ => False) w5) (.cells (Lib.cellsOf (Lib.splitB ⟨#[44, 32]⟩ 0 (min (lay.length + 1) (cb.length + 1) - 1) ⟨cb.toArray⟩) (min (lay.length + 1) (cb.length + 1))) 9)
  have hgw := (Array.getElem?_eq_some_iff.1 (heap_alloc_new w5 (.cells (Lib.cellsOf (Lib.splitB ⟨#[44, 32]⟩ 0 (min (lay.length + 1) (cb.length + 1) - 1) ⟨cb.toArray⟩) (min (lay.length + 1) (cb.length + 1))) 9))).1
  have hgp : b7 < w5.heap.size := (Array.getElem?_eq_some_iff.1 r7).1
  replace r2 := r2.fr fa id
  replace r7 := r7.fr fa id
  replace f1 := f1.trans fa
  clear fa KS
  generalize w5.alloc (.cells (Lib.cellsOf (Lib.splitB ⟨#[44, 32]⟩ 0 (min (lay.length + 1) (cb.length + 1) - 1) ⟨cb.toArray⟩) (min (lay.length + 1) (cb.length + 1))) 9) = w6 at *
  generalize w5.heap.size = gp at *
  generalize min (lay.length + 1) (cb.length + 1) = pcap at *
  obtain ⟨b0, hb0⟩ : ∃ z, (op == 0) = z := ⟨_, rfl⟩
  obtain ⟨bn, hbn⟩ : ∃ z, ((ps.length : Int) != (lay.length : Int)) = z := ⟨_, rfl⟩
  have hbad : (op = 0 ∨ ps.length ≠ lay.length) ↔ (b0 || bn) = true := by
    rw [← hb0, ← hbn, Bool.or_eq_true, beq_iff_eq, bne_iff_ne]
    constructor
    · rintro (h | h)
      · exact .inl h
      · exact .inr (by omega)
    · rintro (h | h)
      · exact .inl h
      · exact .inr (by omega)
  refine TW.seq ?_
  refine TW.mid (fun a W => W = w6 ∧ Kn Tryz.f22.ntmps [(38, .bool (b0 || bn)), (2, .pointer (some ⟨b2, 0, none⟩)), (7, .pointer (some ⟨b7, 0, none⟩)), (8, bts lay), (9, .slice (some ⟨gp, 0, none⟩) ps.length pcap), (3, .bool false)] a) ?_ ?_
  · refine TW.reg ?_
    refine WL.op rfl rfl rfl (Go.Proofs.YtlagdgkjpnocfaaGreatDoor.W.quiet_field rfl rfl (fun W => li0 W _ _)) ?_
    refine WL.ld rfl rfl rfl rfl rfl (ldi _ _ _ (r7.cell rfl)) ?_
    refine WL.op rfl rfl rfl (Go.Proofs.YtlagdgkjpnocfaaGreatDoor.W.quiet_bin rfl rfl rfl (fun W => (bn_eqi W _ _ _ _).trans (by rw [hb0]))) ?_
    refine WL.op rfl rfl rfl (Go.Proofs.YtlagdgkjpnocfaaGreatDoor.W.quiet_move rfl rfl) ?_
    cases b0
    · refine WL.op rfl rfl rfl (Go.Proofs.YtlagdgkjpnocfaaGreatDoor.W.quiet_move rfl rfl) ?_
      refine WL.op rfl rfl rfl (Go.Proofs.YtlagdgkjpnocfaaGreatDoor.W.quiet_len rfl rfl (fun W => ln_sl W _ _ _)) ?_
      refine WL.op rfl rfl rfl (Go.Proofs.YtlagdgkjpnocfaaGreatDoor.W.quiet_move rfl rfl) ?_
      refine WL.lns rfl rfl rfl rfl rfl (ln_str _ _) ?_
      refine WL.op rfl rfl rfl (Go.Proofs.YtlagdgkjpnocfaaGreatDoor.W.quiet_bin rfl rfl rfl (fun W => (bn_nei W _ _ _ _).trans (by rw [hbn]))) ?_
      refine WL.op rfl rfl rfl (Go.Proofs.YtlagdgkjpnocfaaGreatDoor.W.quiet_pick rfl rfl rfl) ?_
      refine WL.end ?_
      refine Xw.any fun b h => ⟨rfl, (by (repeat (refine Kn.cons h rfl ?_)); exact h.base)⟩
    · refine WL.skip rfl rfl rfl ?_
      refine WL.skip rfl rfl rfl ?_
      refine WL.skip rfl rfl rfl ?_
      refine WL.skip rfl rfl rfl ?_
      refine WL.skip rfl rfl rfl ?_
      refine WL.op rfl rfl rfl (Go.Proofs.YtlagdgkjpnocfaaGreatDoor.W.quiet_pick rfl rfl rfl) ?_
      refine WL.end ?_
      refine Xw.any fun b h => ⟨rfl, (by (repeat (refine Kn.cons h rfl ?_)); exact h.base)⟩
  · rintro b W ⟨rfl, hkn⟩
    refine TW.app ?_ hkn
    clear hkn b
    refine TW.cond rfl (fun hb => ?_) (fun hb => ?_)
    · rw [if_pos (hbad.2 hb)] at hPR
      refine TW.sreg ?_
      refine WL.gen rfl rfl rfl (fun e h _ => by simp only [execOp, List.map_toArray, List.map_nil, Sem.run_bind, bd_no, Result.andThen_ok, Sem.run_pure]; rfl) ?_
      obtain ⟨w7, s7, q7, f7⟩ := st_ins W b2 _ _ _ _ _ 0 0 0 0 0 r2
      refine WL.store rfl rfl rfl rfl rfl s7 ?_
      refine WL.op rfl rfl rfl (Go.Proofs.YtlagdgkjpnocfaaGreatDoor.W.quiet_assign rfl rfl) ?_
      refine WL.nil ?_
      refine TW.rt ?_
      repeat (with_reducible first | refine Xw.thn (by simp) ?_ | refine Xw.rblk ?_)
      refine bodyw_retct rfl rfl rfl q7 Tryz.underlying23 rfl (by kernel_rfl) ?_
      exact ⟨by rw [hPR]; rfl, f1.trans' f7 (fun q hq e => by omega)⟩
    · have hgood : ¬(op = 0 ∨ ps.length ≠ lay.length) := fun z => by rw [hbad.1 z] at hb; cases hb
      rw [if_neg hgood] at hPR
      have hlen : ps.length = lay.length := by
        rcases Nat.lt_trichotomy ps.length lay.length with h | h | h
        · exact absurd (Or.inr (by omega)) hgood
        · exact h
        · exact absurd (Or.inr (by omega)) hgood
      clear hbad hgood hb hb0 hbn
      refine TW.skip ?_
      refine TW.seq ?_
      refine TW.sreg ?_
      refine WL.op rfl rfl rfl (Go.Proofs.YtlagdgkjpnocfaaGreatDoor.W.quiet_move rfl rfl) ?_
      refine WL.rg rfl rfl rfl rfl rfl (rg_str _ _) ?_
      refine WL.nil ?_
      have fi : Fr (fun _ => False) W (W.iter ⟨lay.toArray⟩ 0) := fr_al (Fr.refl _ _) _
      have hit := World.iter_heap W ⟨lay.toArray⟩ 0
      have hgl : gp < W.heap.size := hgw
      replace r2 := r2.fr fi id
      replace r7 := r7.fr fi id
      replace f1 := f1.trans fi
      have hpc' := fun j hj => fi.cell (hpc j hj) id
      clear fi hpc
      generalize W.iter ⟨lay.toArray⟩ 0 = w7 at *
      generalize W.heap.size = g at *
      refine TW.block ?_
      refine TW.loopG (n := lay.length) (fun _ W => match W.heap[g]? with | some (.stringIter _ p) => p | _ => 0) (fun j b W => ∃ i : I5, Kn Tryz.f22.ntmps [(2, .pointer (some ⟨b2, 0, none⟩)), (7, .pointer (some ⟨b7, 0, none⟩)), (9, .slice (some ⟨gp, 0, none⟩) ps.length pcap), (41, .pointer (some ⟨g, 0, none⟩)), (3, .bool false)] b ∧ W.heap[g]? = some (.stringIter ⟨lay.toArray⟩ j) ∧ RwL W b7 i.vals 23 ∧ RwL W b2 #[.int .i64 0, .int .i64 0, .int .i64 0, .int .i64 0, .int .i64 0] 23 ∧ Fr (fun q => q = b7 ∨ q = g) w7 W ∧ parseR s = ldR (lay.drop j) (ps.drop j) i) (fun j b W h => by obtain ⟨_, _, h, _⟩ := h; rw [h]) 0 (Nat.zero_le _) (fun b h => ⟨⟨op, 0, 0, 0, 0⟩, (by (repeat (refine Kn.cons h rfl ?_)); exact h.base), hit, r7, r2, Fr.refl _ _, by rw [hPR]; rfl⟩) ?_
      clear hit r7 r2 hPR
      rintro j b W hj ⟨i, hkn, hit, r7, r2, hf, hPR⟩
      refine TW.app ?_ hkn
      clear hkn b
      by_cases hlt : j < lay.length
      · have hjs : j < (⟨lay.toArray⟩ : ByteArray).size := by simpa [ByteArray.size] using hlt
        obtain ⟨o, ho⟩ : ∃ o, lay[j]'hlt = o := ⟨_, rfl⟩
        have hso : (⟨lay.toArray⟩ : ByteArray)[j]'hjs = o := by rw [← ho]; rfl
        have hoc := hch o (by rw [← ho]; exact List.getElem_mem hlt)
        have hoa : ((⟨lay.toArray⟩ : ByteArray)[j]'hjs).toNat < 128 := by rw [hso]; rcases hoc with rfl | rfl | rfl | rfl | rfl <;> decide
        have hpj : j < ps.length := by omega
        obtain ⟨p, hp⟩ : ∃ p, ps[j]'hpj = p := ⟨_, rfl⟩
        have hpp : ps.getD j [] = p := by rw [← hp, List.getD_eq_getElem?_getD, List.getElem?_eq_getElem hpj]; rfl
        have hpln := hpl p (by rw [← hp]; exact List.getElem_mem hpj)
        have hst : ldR (lay.drop j) (ps.drop j) i = if (opR o p i).2 = true then ldR (lay.drop (j + 1)) (ps.drop (j + 1)) (opR o p i).1 else none := by
          rw [List.drop_eq_getElem_cons hlt, List.drop_eq_getElem_cons hpj, ho, hp]
          rfl
        rw [hst] at hPR
        have fi := it_fr W g ⟨lay.toArray⟩ (j + 1)
        have hit2 := it_at hit ⟨lay.toArray⟩ (j + 1)
        have hgb : ¬b7 = g := by omega
        have hgb2 : ¬b2 = g := by omega
        replace r7 := r7.fr fi hgb
        replace r2 := r2.fr fi hgb2
        have hf2 : Fr (fun q => q = b7 ∨ q = g) w7 (itSet W g ⟨lay.toArray⟩ (j + 1)) := hf.trans (fi.mono fun _ _ e => Or.inr e)
        refine TW.sreg ?_
        refine WL.nx rfl rfl rfl rfl rfl (nx_more W g ⟨lay.toArray⟩ j _ hit hjs hoa) ?_
        rw [hso]
        refine WL.ext rfl rfl rfl rfl rfl rfl ?_
        refine WL.nil ?_
        clear fi hf
        generalize itSet W g ⟨lay.toArray⟩ (j + 1) = W1 at *
        refine TW.seq ?_
        refine TW.cond rfl (fun _ => ?_) (fun hb => by cases hb)
        refine TW.skip ?_
        refine TW.block ?_
        refine TW.sreg ?_
        refine WL.ext rfl rfl rfl rfl rfl rfl ?_
        refine WL.ext rfl rfl rfl rfl rfl rfl ?_
        refine WL.op rfl rfl rfl (Go.Proofs.YtlagdgkjpnocfaaGreatDoor.W.quiet_assign rfl rfl) ?_
        refine WL.op rfl rfl rfl (Go.Proofs.YtlagdgkjpnocfaaGreatDoor.W.quiet_assign rfl rfl) ?_
        refine WL.nil ?_
        have he1 : ErW W1 := (he.fr f1 id id).fr hf2 (by omega) (by omega)
        have hm1 : MlW W1 := ⟨m, hf2.cell (f1.cell hm0 id) (by show ¬(0 = b7 ∨ 0 = g); omega)⟩
        refine TW.sreg ?_
        refine WL.op rfl rfl rfl (Go.Proofs.YtlagdgkjpnocfaaGreatDoor.W.quiet_move rfl rfl) ?_
        refine WL.op rfl rfl rfl (Go.Proofs.YtlagdgkjpnocfaaGreatDoor.W.quiet_move rfl rfl) ?_
        refine WL.op rfl rfl rfl (Go.Proofs.YtlagdgkjpnocfaaGreatDoor.W.quiet_move rfl rfl) ?_
        refine WL.op rfl rfl rfl (Go.Proofs.YtlagdgkjpnocfaaGreatDoor.W.quiet_index rfl rfl rfl (fun W => ix_s W gp 0 ps.length pcap j hpj)) ?_
        refine WL.ld rfl rfl rfl rfl rfl (ld_s _ p _ (by rw [Nat.zero_add, ← hpp]; exact hf2.cell (hpc' j hpj) (by show ¬(gp = b7 ∨ gp = g); omega))) ?_
        refine WL.call (hr := t_parseOperand o hoc p (by omega) i b7 _ W1 r7 he1 hm1 (by omega) (by omega)) rfl rfl rfl rfl rfl (fun W => cf_po W _) ?_
        rintro e W2 ⟨rfl, q7, q8⟩
        refine ⟨_, rfl, ?_⟩
        refine WL.op rfl rfl rfl (Go.Proofs.YtlagdgkjpnocfaaGreatDoor.W.quiet_not rfl rfl) ?_
        refine WL.nil ?_
        have q2 := r2.fr q8 (by omega)
        have qit : W2.heap[g]? = some (.stringIter ⟨lay.toArray⟩ (j + 1)) := (q8.block g (Array.getElem?_eq_some_iff.1 hit2).1 (by omega)).trans hit2
        have hf3 : Fr (fun q => q = b7 ∨ q = g) w7 W2 := hf2.trans (q8.mono fun _ _ e => Or.inl e)
        generalize opR o p i = rr at *
        obtain ⟨i2, bb⟩ := rr
        simp only at hPR q7 ⊢
        cases bb
        · refine TW.cond rfl (fun _ => ?_) (fun hb => by cases hb)
          refine TW.sreg ?_
          refine WL.gen rfl rfl rfl (fun e h _ => by simp only [execOp, List.map_toArray, List.map_nil, Sem.run_bind, bd_no, Result.andThen_ok, Sem.run_pure]; rfl) ?_
          obtain ⟨w8, s8, q9, f8⟩ := st_ins W2 b2 _ _ _ _ _ 0 0 0 0 0 q2
          refine WL.store rfl rfl rfl rfl rfl s8 ?_
          refine WL.op rfl rfl rfl (Go.Proofs.YtlagdgkjpnocfaaGreatDoor.W.quiet_assign rfl rfl) ?_
          refine WL.nil ?_
          refine TW.rt ?_
          repeat (with_reducible first | refine Xw.thn (by simp) ?_ | refine Xw.rblk ?_)
          refine bodyw_retct rfl rfl rfl q9 Tryz.underlying23 rfl (by kernel_rfl) ?_
          exact ⟨by rw [hPR]; rfl, (f1.trans' hf3 (fun q hq e => by omega)).trans' f8 (fun q hq e => by omega)⟩
        · refine TW.cond rfl (fun hb => by cases hb) (fun _ => ?_)
          refine TW.skipx ?_
          repeat (with_reducible refine Xw.nblk ?_)
          refine Xw.any fun b h => ⟨j + 1, by omega, by omega, i2, (by (repeat (refine Kn.cons h rfl ?_)); exact h.base), qit, q7, q2, hf3, hPR⟩
      · have hjn : j = lay.length := by omega
        have hjs : ¬ j < (⟨lay.toArray⟩ : ByteArray).size := by simpa [ByteArray.size] using hlt
        have hend : ldR (lay.drop j) (ps.drop j) i = some i := by
          rw [List.drop_eq_nil_of_le (by omega)]
          unfold ldR
          rfl
        rw [hend] at hPR
        refine TW.sreg ?_
        refine WL.nx rfl rfl rfl rfl rfl (nx_end W g ⟨lay.toArray⟩ j _ hit hjs) ?_
        refine WL.ext rfl rfl rfl rfl rfl rfl ?_
        refine WL.nil ?_
        refine TW.seq ?_
        refine TW.cond rfl (fun hb => by cases hb) (fun _ => ?_)
        refine TW.exit ?_
        repeat (with_reducible refine Xw.thn (by simp) ?_)
        refine Xw.hit ?_
        refine Xw.nrm ?_
        refine TW.sreg ?_
        refine WL.ld rfl rfl rfl rfl rfl (ldins _ _ _ _ _ _ _ _ (r7.cell (j := 0) rfl) (by rw [Nat.zero_add]; exact r7.cell (j := 1) rfl) (by rw [Nat.zero_add]; exact r7.cell (j := 2) rfl) (by rw [Nat.zero_add]; exact r7.cell (j := 3) rfl) (by rw [Nat.zero_add]; exact r7.cell (j := 4) rfl)) ?_
        obtain ⟨w8, s8, q9, f8⟩ := st_ins W b2 _ _ _ _ _ i.op i.rd i.r1 i.r2 i.imm r2
        refine WL.store rfl rfl rfl rfl rfl s8 ?_
        refine WL.op rfl rfl rfl (Go.Proofs.YtlagdgkjpnocfaaGreatDoor.W.quiet_assign rfl rfl) ?_
        refine WL.nil ?_
        refine TW.rt ?_
        repeat (with_reducible first | refine Xw.thn (by simp) ?_ | refine Xw.rblk ?_)
        refine bodyw_retct rfl rfl rfl q9 Tryz.underlying23 rfl (by kernel_rfl) ?_
        exact ⟨by rw [hPR]; rfl, (f1.trans' hf (fun q hq e => by omega)).trans' f8 (fun q hq e => by omega)⟩
/-- The instruction of a line. -/
def readT (s : List UInt8) : Option I5 := match parseR s with
  | some i => if fitsB i.rd i.r1 i.r2 i.imm (fm (ix i.op)) = true ∧ lineT i.op i.rd i.r1 i.r2 i.imm = s then some i else none
  | none => none
def RdV (o : Option I5) : Value := match o with | some i => .tuple #[.agg i.vals, .int .i64 0] | none => .tuple #[.agg z5.vals, .int .i64 3]
theorem cf_pa (w : World) (vs : Array Value) : (callFunc 22 vs).run Tryz.prog w = .ok (.enter 22 vs) w := by simp [go_sem]
theorem bn_nes (w : World) (x y : Operand) (a b : List UInt8) : (do eqGuard .neq 9 x y (bts a) (bts b); binOp .neq 9 (bts a) (bts b) : Sem Value).run Tryz.prog w = .ok (.bool (!decide (a = b))) w := by
  have h : ((⟨a.toArray⟩ : ByteArray) = ⟨b.toArray⟩) ↔ a = b := ⟨fun h => by simpa using h, fun h => by rw [h]⟩
  by_cases e : a = b
  · subst e; simp [go_sem, bts]
  · have e2 : ¬ ((⟨a.toArray⟩ : ByteArray) = ⟨b.toArray⟩) := fun z => e (h.1 z)
    simp [go_sem, bts, e, e2]
set_option maxRecDepth 100000 in
set_option maxHeartbeats 3200000 in
theorem t_Read (s : List UInt8) (hs : s.length ≤ 1000000) (HI : ∀ i, parseR s = some i → I64 i.rd ∧ I64 i.r1 ∧ I64 i.r2 ∧ I64 i.imm ∧ 0 < (layT i.op).length) (w : World) (he : ErW w) (hm : MlW w) (ht : TabW w) : Calls Tryz.prog 11 #[bts s] w fun e w' => e = .returned (RdV (readT s)) ∧ Fr (fun _ => False) w w' := by
  have hRT : readT s = (match parseR s with | some i => if fitsB i.rd i.r1 i.r2 i.imm (fm (ix i.op)) = true ∧ lineT i.op i.rd i.r1 i.r2 i.imm = s then some i else none | none => none) := rfl
  refine calls_tw Tryz.func11 rfl rfl (Nat.le_of_ble_eq_true rfl) ?_
  refine TW.sreg ?_
  refine WL.alloc rfl rfl rfl rfl (pal_ins _) ?_
  refine WL.op rfl rfl rfl (Go.Proofs.YtlagdgkjpnocfaaGreatDoor.W.quiet_assign rfl rfl) ?_
  refine WL.nil ?_
  have f1 := fr_al (Fr.refl (fun _ => False) w) (.cells #[.int .i64 0, .int .i64 0, .int .i64 0, .int .i64 0, .int .i64 0] 23)
  have r2 : RwL (w.alloc (.cells #[.int .i64 0, .int .i64 0, .int .i64 0, .int .i64 0, .int .i64 0] 23)) w.heap.size #[.int .i64 0, .int .i64 0, .int .i64 0, .int .i64 0, .int .i64 0] 23 := heap_alloc_new w _
  generalize w.alloc (.cells #[.int .i64 0, .int .i64 0, .int .i64 0, .int .i64 0, .int .i64 0] 23) = w1 at *
  obtain ⟨b2, hb2⟩ : ∃ z, w.heap.size = z := ⟨_, rfl⟩
  rw [hb2] at r2 ⊢
  refine TW.sreg ?_
  refine WL.op rfl rfl rfl (Go.Proofs.YtlagdgkjpnocfaaGreatDoor.W.quiet_move rfl rfl) ?_
  refine WL.call (hr := t_parse s hs w1 (he.fr f1 id id) (hm.fr f1 id)) rfl rfl rfl rfl rfl (fun W => cf_pa W _) ?_
  rintro e w2 ⟨rfl, f2⟩
  replace r2 := r2.fr f2 id
  replace f1 := f1.trans f2
  clear f2
  have r2o := r2
  cases hp : parseR s with
  | none =>
    rw [hp] at hRT
    dsimp only at hRT
    refine ⟨.tuple #[.agg z5.vals, .bool false], rfl, ?_⟩
    dsimp only [z5, I5.vals]
    refine WL.op rfl rfl rfl (Go.Proofs.YtlagdgkjpnocfaaGreatDoor.W.quiet_move rfl rfl) ?_
    refine WL.ext rfl rfl rfl rfl rfl rfl ?_
    refine WL.ext rfl rfl rfl rfl rfl rfl ?_
    refine WL.alloc rfl rfl rfl rfl (pal_ins _) ?_
    have f3 := fr_al (Fr.refl (fun _ => False) w2) (.cells #[.int .i64 0, .int .i64 0, .int .i64 0, .int .i64 0, .int .i64 0] 23)
    have r4 : RwL (w2.alloc (.cells #[.int .i64 0, .int .i64 0, .int .i64 0, .int .i64 0, .int .i64 0] 23)) w2.heap.size #[.int .i64 0, .int .i64 0, .int .i64 0, .int .i64 0, .int .i64 0] 23 := heap_alloc_new w2 _
    replace r2 := r2.fr f3 id
    generalize w2.alloc (.cells #[.int .i64 0, .int .i64 0, .int .i64 0, .int .i64 0, .int .i64 0] 23) = w3 at *
    obtain ⟨b4, hb4⟩ : ∃ z, w2.heap.size = z := ⟨_, rfl⟩
    rw [hb4] at r4 ⊢
    obtain ⟨w4, s4, q4, f4⟩ := st_ins w3 b4 _ _ _ _ _ 0 0 0 0 0 r4
    refine WL.store rfl rfl rfl rfl rfl s4 ?_
    refine WL.op rfl rfl rfl (Go.Proofs.YtlagdgkjpnocfaaGreatDoor.W.quiet_assign rfl rfl) ?_
    refine WL.nil ?_
    have hbb : ¬ b2 = b4 := by
      have := (Array.getElem?_eq_some_iff.1 r2o).1
      omega
    replace r2 := r2.fr f4 hbb
    refine TW.seq ?_
    refine TW.sreg ?_
    refine WL.op rfl rfl rfl (Go.Proofs.YtlagdgkjpnocfaaGreatDoor.W.quiet_move rfl rfl) ?_
    refine WL.op rfl rfl rfl (Go.Proofs.YtlagdgkjpnocfaaGreatDoor.W.quiet_not rfl rfl) ?_
    refine WL.op rfl rfl rfl (Go.Proofs.YtlagdgkjpnocfaaGreatDoor.W.quiet_move rfl rfl) ?_
    refine WL.skip rfl rfl rfl ?_
    refine WL.skip rfl rfl rfl ?_
    refine WL.skip rfl rfl rfl ?_
    refine WL.op rfl rfl rfl (Go.Proofs.YtlagdgkjpnocfaaGreatDoor.W.quiet_pick rfl rfl rfl) ?_
    refine WL.op rfl rfl rfl (Go.Proofs.YtlagdgkjpnocfaaGreatDoor.W.quiet_move rfl rfl) ?_
    refine WL.skip rfl rfl rfl ?_
    refine WL.skip rfl rfl rfl ?_
    refine WL.skip rfl rfl rfl ?_
    refine WL.skip rfl rfl rfl ?_
    refine WL.op rfl rfl rfl (Go.Proofs.YtlagdgkjpnocfaaGreatDoor.W.quiet_pick rfl rfl rfl) ?_
    refine WL.nil ?_
    refine TW.cond rfl (fun _ => ?_) (fun hb => by cases hb)
    refine TW.sreg ?_
    refine WL.gen rfl rfl rfl (fun e h _ => by simp only [execOp, List.map_toArray, List.map_nil, Sem.run_bind, bd_no, Result.andThen_ok, Sem.run_pure]; rfl) ?_
    obtain ⟨w8, s8, q9, f8⟩ := st_ins w4 b2 _ _ _ _ _ 0 0 0 0 0 r2
    refine WL.store rfl rfl rfl rfl rfl s8 ?_
    refine WL.op rfl rfl rfl (Go.Proofs.YtlagdgkjpnocfaaGreatDoor.W.quiet_assign rfl rfl) ?_
    refine WL.nil ?_
    refine TW.rt ?_
    repeat (with_reducible first | refine Xw.thn (by simp) ?_ | refine Xw.rblk ?_)
    refine bodyw_retct rfl rfl rfl q9 Tryz.underlying23 rfl (by kernel_rfl) ?_
    exact ⟨by rw [hRT]; rfl, ((f1.trans f3).trans' f4 (fun q hq e => by have := f1.size; omega)).trans' f8 (fun q hq e => by omega)⟩
  | some i =>
    rw [hp] at hRT
    dsimp only at hRT
    refine ⟨.tuple #[.agg i.vals, .bool true], rfl, ?_⟩
    dsimp only [I5.vals]
    refine WL.op rfl rfl rfl (Go.Proofs.YtlagdgkjpnocfaaGreatDoor.W.quiet_move rfl rfl) ?_
    refine WL.ext rfl rfl rfl rfl rfl rfl ?_
    refine WL.ext rfl rfl rfl rfl rfl rfl ?_
    refine WL.alloc rfl rfl rfl rfl (pal_ins _) ?_
    have f3 := fr_al (Fr.refl (fun _ => False) w2) (.cells #[.int .i64 0, .int .i64 0, .int .i64 0, .int .i64 0, .int .i64 0] 23)
    have r4 : RwL (w2.alloc (.cells #[.int .i64 0, .int .i64 0, .int .i64 0, .int .i64 0, .int .i64 0] 23)) w2.heap.size #[.int .i64 0, .int .i64 0, .int .i64 0, .int .i64 0, .int .i64 0] 23 := heap_alloc_new w2 _
    replace r2 := r2.fr f3 id
    generalize w2.alloc (.cells #[.int .i64 0, .int .i64 0, .int .i64 0, .int .i64 0, .int .i64 0] 23) = w3 at *
    obtain ⟨b4, hb4⟩ : ∃ z, w2.heap.size = z := ⟨_, rfl⟩
    rw [hb4] at r4 ⊢
    obtain ⟨w4, s4, q4, f4⟩ := st_ins w3 b4 _ _ _ _ _ i.op i.rd i.r1 i.r2 i.imm r4
    refine WL.store rfl rfl rfl rfl rfl s4 ?_
    refine WL.op rfl rfl rfl (Go.Proofs.YtlagdgkjpnocfaaGreatDoor.W.quiet_assign rfl rfl) ?_
    refine WL.nil ?_
    have hbb : ¬ b2 = b4 := by
      have := (Array.getElem?_eq_some_iff.1 r2o).1
      omega
    replace r2 := r2.fr f4 hbb
    have f5 : Fr (fun _ => False) w w4 := (f1.trans f3).trans' f4 (fun q hq e => by have := f1.size; omega)
    obtain ⟨h1, h2, h3, h4, h0⟩ := HI i hp
    have KR := fun w => c13 i.op i.rd i.r1 i.r2 i.imm w
    generalize fitsB i.rd i.r1 i.r2 i.imm (fm (ix i.op)) = fb at *
    refine TW.seq ?_
    refine TW.sreg ?_
    refine WL.op rfl rfl rfl (Go.Proofs.YtlagdgkjpnocfaaGreatDoor.W.quiet_move rfl rfl) ?_
    refine WL.op rfl rfl rfl (Go.Proofs.YtlagdgkjpnocfaaGreatDoor.W.quiet_not rfl rfl) ?_
    refine WL.op rfl rfl rfl (Go.Proofs.YtlagdgkjpnocfaaGreatDoor.W.quiet_move rfl rfl) ?_
    refine WL.ld rfl rfl rfl rfl rfl (ldins _ _ _ _ _ _ _ _ (q4.cell (j := 0) rfl) (by rw [Nat.zero_add]; exact q4.cell (j := 1) rfl) (by rw [Nat.zero_add]; exact q4.cell (j := 2) rfl) (by rw [Nat.zero_add]; exact q4.cell (j := 3) rfl) (by rw [Nat.zero_add]; exact q4.cell (j := 4) rfl)) ?_
    refine WL.call (hr := KR w4) rfl rfl rfl rfl rfl (fun W => cf_rt W _) ?_
    rintro e w5 ⟨rfl, hg⟩
    refine ⟨_, rfl, ?_⟩
    have f6 : Fr (fun _ => False) w4 w5 := Fr.of_grown hg
    replace r2 := r2.fr f6 id
    replace q4 := q4.fr f6 id
    refine WL.op rfl rfl rfl (Go.Proofs.YtlagdgkjpnocfaaGreatDoor.W.quiet_not rfl rfl) ?_
    refine WL.op rfl rfl rfl (Go.Proofs.YtlagdgkjpnocfaaGreatDoor.W.quiet_pick rfl rfl rfl) ?_
    refine WL.op rfl rfl rfl (Go.Proofs.YtlagdgkjpnocfaaGreatDoor.W.quiet_move rfl rfl) ?_
    cases fb
    · refine WL.skip rfl rfl rfl ?_
      refine WL.skip rfl rfl rfl ?_
      refine WL.skip rfl rfl rfl ?_
      refine WL.skip rfl rfl rfl ?_
      refine WL.op rfl rfl rfl (Go.Proofs.YtlagdgkjpnocfaaGreatDoor.W.quiet_pick rfl rfl rfl) ?_
      refine WL.nil ?_
      refine TW.cond rfl (fun _ => ?_) (fun hb => by cases hb)
      refine TW.sreg ?_
      refine WL.gen rfl rfl rfl (fun e h _ => by simp only [execOp, List.map_toArray, List.map_nil, Sem.run_bind, bd_no, Result.andThen_ok, Sem.run_pure]; rfl) ?_
      obtain ⟨w8, s8, q9, f8⟩ := st_ins w5 b2 _ _ _ _ _ 0 0 0 0 0 r2
      refine WL.store rfl rfl rfl rfl rfl s8 ?_
      refine WL.op rfl rfl rfl (Go.Proofs.YtlagdgkjpnocfaaGreatDoor.W.quiet_assign rfl rfl) ?_
      refine WL.nil ?_
      refine TW.rt ?_
      repeat (with_reducible first | refine Xw.thn (by simp) ?_ | refine Xw.rblk ?_)
      refine bodyw_retct rfl rfl rfl q9 Tryz.underlying23 rfl (by kernel_rfl) ?_
      exact ⟨by rw [hRT]; rfl, (f5.trans f6).trans' f8 (fun q hq e => by omega)⟩
    · refine WL.ld rfl rfl rfl rfl rfl (ldins _ _ _ _ _ _ _ _ (q4.cell (j := 0) rfl) (by rw [Nat.zero_add]; exact q4.cell (j := 1) rfl) (by rw [Nat.zero_add]; exact q4.cell (j := 2) rfl) (by rw [Nat.zero_add]; exact q4.cell (j := 3) rfl) (by rw [Nat.zero_add]; exact q4.cell (j := 4) rfl)) ?_
      refine WL.call (hr := t_line i.op i.rd i.r1 i.r2 i.imm h1 h2 h3 h4 h0 w5 ((ht.fr f5 id).fr f6 id)) rfl rfl rfl rfl rfl (fun W => cf_ln W _) ?_
      rintro e w6 ⟨rfl, f7⟩
      refine ⟨_, rfl, ?_⟩
      replace r2 := r2.fr f7 id
      replace q4 := q4.fr f7 id
      refine WL.op rfl rfl rfl (Go.Proofs.YtlagdgkjpnocfaaGreatDoor.W.quiet_move rfl rfl) ?_
      refine WL.op rfl rfl rfl (Go.Proofs.YtlagdgkjpnocfaaGreatDoor.W.quiet_bin rfl rfl rfl (fun W => bn_nes W _ _ _ _)) ?_
      refine WL.op rfl rfl rfl (Go.Proofs.YtlagdgkjpnocfaaGreatDoor.W.quiet_pick rfl rfl rfl) ?_
      refine WL.nil ?_
      by_cases hl : lineT i.op i.rd i.r1 i.r2 i.imm = s
      · simp only [hl, decide_true, Bool.not_true]
        refine TW.cond rfl (fun hb => by cases hb) (fun _ => ?_)
        refine TW.skip ?_
        refine TW.sreg ?_
        refine WL.ld rfl rfl rfl rfl rfl (ldins _ _ _ _ _ _ _ _ (q4.cell (j := 0) rfl) (by rw [Nat.zero_add]; exact q4.cell (j := 1) rfl) (by rw [Nat.zero_add]; exact q4.cell (j := 2) rfl) (by rw [Nat.zero_add]; exact q4.cell (j := 3) rfl) (by rw [Nat.zero_add]; exact q4.cell (j := 4) rfl)) ?_
        obtain ⟨w8, s8, q9, f8⟩ := st_ins w6 b2 _ _ _ _ _ i.op i.rd i.r1 i.r2 i.imm r2
        refine WL.store rfl rfl rfl rfl rfl s8 ?_
        refine WL.op rfl rfl rfl (Go.Proofs.YtlagdgkjpnocfaaGreatDoor.W.quiet_assign rfl rfl) ?_
        refine WL.nil ?_
        refine TW.rt ?_
        repeat (with_reducible first | refine Xw.thn (by simp) ?_ | refine Xw.rblk ?_)
        refine bodyw_retct rfl rfl rfl q9 Tryz.underlying23 rfl (by kernel_rfl) ?_
        exact ⟨by rw [hRT, if_pos ⟨rfl, hl⟩]; rfl, ((f5.trans f6).trans f7).trans' f8 (fun q hq e => by omega)⟩
      · simp only [hl, decide_false, Bool.not_false]
        refine TW.cond rfl (fun _ => ?_) (fun hb => by cases hb)
        refine TW.sreg ?_
        refine WL.gen rfl rfl rfl (fun e h _ => by simp only [execOp, List.map_toArray, List.map_nil, Sem.run_bind, bd_no, Result.andThen_ok, Sem.run_pure]; rfl) ?_
        obtain ⟨w8, s8, q9, f8⟩ := st_ins w6 b2 _ _ _ _ _ 0 0 0 0 0 r2
        refine WL.store rfl rfl rfl rfl rfl s8 ?_
        refine WL.op rfl rfl rfl (Go.Proofs.YtlagdgkjpnocfaaGreatDoor.W.quiet_assign rfl rfl) ?_
        refine WL.nil ?_
        refine TW.rt ?_
        repeat (with_reducible first | refine Xw.thn (by simp) ?_ | refine Xw.rblk ?_)
        refine bodyw_retct rfl rfl rfl q9 Tryz.underlying23 rfl (by kernel_rfl) ?_
        exact ⟨by rw [hRT, if_neg (fun z => hl z.2)]; rfl, ((f5.trans f6).trans f7).trans' f8 (fun q hq e => by omega)⟩
end Go.Proofs.YtlagdgkjpnocfaaGreatDoor
