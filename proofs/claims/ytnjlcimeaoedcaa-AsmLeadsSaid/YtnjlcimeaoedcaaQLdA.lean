/-
  Items (layer 5): what the law on the labels' places needs, plainly; a word is decoded; a jump of a far branch. Items (layer 5): a jump of a far branch; closed facts. Items (layer 5): the walk of the law on where labels lead.
-/
import Derived.Test.YtnjlcimeaoedcaaQAxL
namespace Go.Proofs.Ytnjlcimeaoedcaa
open Go.RowKit
set_option linter.unusedVariables false
set_option linter.unusedSimpArgs false
theorem p_dec (i : In) (h : fitI i = true) (w : World) : Calls Try.prog 10 #[.int .u32 (encI i)] w fun e w' => e = .returned (.tuple #[.agg #[.int .i64 i.op, .int .i64 i.rd, .int .i64 i.r1, .int .i64 i.r2, .int .i64 i.imm], .int .i64 0]) ∧ Fr (fun _ => False) w w' := by
  unfold fitI at h
  obtain ⟨e0, e1, ⟨u0, u1⟩, e3, e4, e5, e6, e7⟩ := enc_back h
  have K56 := c10_some (encW i.op i.rd i.r1 i.r2 i.imm) u0 u1 (ix i.op) e3 e0 w
  rw [e4, e5, e6, e7, e1] at K56
  exact K56.mono fun e w' h => ⟨h.1, Fr.of_grown h.2⟩
/-- Behind a part of the code: what it leaves. -/
theorem TW.mid {P : Program} {N : Nat} {Q : Exit → Act → World → Prop} {s : List (Nat × Value)} {x y : Code} {w : World} (I : Act → World → Prop) (h1 : TW P N (Exit.then I Q) s x w) (h2 : ∀ a w, I a w → y.wp P Q a w) : TW P N Q s (.seq x y) w := fun a k => by
  refine wp_seq (wp_mono (h1 a k) ?_)
  intro e a' w' q
  cases e with
  | normal => exact h2 a' w' q
  | exit id => exact q
  | goto l => exact q
  | ret => exact q
  | panic ch => exact q
  | outgrown => exact q
theorem prog_asm (l : List It) (hfew : l.length ≤ 32768) :
    (∃ er : Int, er ≠ 0 ∧ ∀ a c w, ItAt w.heap.size w a l → Calls Try.prog 7 #[.slice a l.length c] w (ProgR [] [] er w)) ∨
    ((∀ k, k < l.length → rightB (l.getD k it0) = true) ∧ twiceK l l.length = false ∧ lackK l (accL l) l.length = false ∧ ∀ a c w, ItAt w.heap.size w a l → Calls Try.prog 7 #[.slice a l.length c] w (ProgR (wrdD l l.length) (labD l (szF l (farL l)) l.length) 0 w)) := by
  rcases may_cases l with ⟨k, hk, hb, hm⟩ | ⟨hr, ⟨ht, hm⟩ | ⟨ht, ⟨hl, hm⟩ | ⟨hl, hm⟩⟩⟩
  · refine .inl ⟨1, by decide, fun a c w hat => ?_⟩
    exact (asm_bad a c l hfew k hk hb w hat).mono fun e w' h => by
      obtain ⟨rfl, hf⟩ := h
      exact ⟨none, 0, none, 0, rfl, hf, cellsU_nil _, cellsI_nil _⟩
  · refine .inl ⟨6, by decide, fun a c w hat => ?_⟩
    exact (asm_twice a c l hfew hr ht w hat).mono fun e w' h => by
      obtain ⟨rfl, hf⟩ := h
      exact ⟨none, 0, none, 0, rfl, hf, cellsU_nil _, cellsI_nil _⟩
  · refine .inl ⟨4, by decide, fun a c w hat => ?_⟩
    exact (asm_lack a c l hfew hr ht hl w hat).mono fun e w' h => by
      obtain ⟨rfl, hf⟩ := h
      exact ⟨none, 0, none, 0, rfl, hf, cellsU_nil _, cellsI_nil _⟩
  · refine .inr ⟨hr, ht, hl, fun a c w hat => ?_⟩
    refine (asm_all a c l _ hfew hr (right_fit hr) ht hl (words_is hfew hr hl l.length (Nat.le_refl _)) (fun k hk L hL => ?_) w hat).mono fun e w' h => ?_
    · have := ins_some hfew hr hl hk
      rw [this.1] at hL
      cases hL
      exact this.2
    · obtain ⟨a, c, b, d, he, hf, h1, h2⟩ := h
      rw [labs_same l hr ht] at he h2
      exact ⟨a, c, b, d, he, hf, h1, h2⟩
theorem wrdD_pre (l : List It) (k : Nat) : ∀ d : Nat, ∃ R, wrdD l (k + d) = wrdD l k ++ R
  | 0 => ⟨[], by simp⟩
  | d + 1 => by
    obtain ⟨R, h⟩ := wrdD_pre l k d
    exact ⟨R ++ (insD l (k + d)).map encI, by rw [show wrdD l (k + (d + 1)) = wrdD l (k + d) ++ (insD l (k + d)).map encI by rfl, h, List.append_assoc]⟩
theorem wrdD_at (l : List It) {i j : Nat} (hi : i < l.length) (hj : j < (insD l i).length) : (wrdD l i).length + j < (wrdD l l.length).length ∧ (wrdD l l.length).getD ((wrdD l i).length + j) 0 = encI ((insD l i).getD j in0) := by
  obtain ⟨R, h⟩ := wrdD_pre l (i + 1) (l.length - (i + 1))
  rw [show i + 1 + (l.length - (i + 1)) = l.length by omega, show wrdD l (i + 1) = wrdD l i ++ (insD l i).map encI by rfl] at h
  rw [h]
  refine ⟨by simp; omega, ?_⟩
  rw [getD_app, if_pos (by simp; omega), getD_app, if_neg (by omega), Nat.add_sub_cancel_left]
  simp [List.getD_eq_getElem?_getD, hj]
theorem val_self (l : List It) : ∀ k i : Nat, i < k → twiceK l k = false → (l.getD i it0).k = 2 → hasL (labsK l k) (l.getD i it0).lab = true ∧ valL (labsK l k) (l.getD i it0).lab = i
  | 0, i, h, _, _ => by omega
  | k + 1, i, h, ht, h2 => by
    have f : labsK l (k + 1) = if (l.getD k it0).k = 2 then labsK l k ++ [((l.getD k it0).lab, k)] else labsK l k := rfl
    have ft : twiceK l (k + 1) = (twiceK l k || ((l.getD k it0).k == 2 && hasL (labsK l k) (l.getD k it0).lab)) := rfl
    rw [ft, Bool.or_eq_false_iff] at ht
    by_cases hik : i = k
    · subst hik
      have hh : hasL (labsK l i) (l.getD i it0).lab = false := by
        have := ht.2
        rw [h2] at this
        simpa using this
      rw [f, if_pos h2, hasL_snoc, valL_snoc_same hh]
      exact ⟨by simp, rfl⟩
    · obtain ⟨q1, q2⟩ := val_self l k i (by omega) ht.1 h2
      rw [f]
      split
      · rw [hasL_snoc, valL_snoc_other q1, q1]
        exact ⟨rfl, q2⟩
      · exact ⟨q1, q2⟩
/-- Of a label that stands: its place. -/
theorem lab_at {l : List It} (hr : ∀ k, k < l.length → rightB (l.getD k it0) = true) (ht : twiceK l l.length = false) (s : List Int) {b : Nat} (h : hasL (accL l) (b : Int) = true) : b < (labD l s l.length).length ∧ (labD l s l.length).getD b 0 = 4 * sumK s (valL (accL l) (b : Int)) := by
  obtain ⟨b1, b2⟩ := labD_ok l s hr l.length (Nat.le_refl _) ht
  have hb := (b1 b).2 ⟨b, Nat.le_refl _, h⟩
  refine ⟨hb, ?_⟩
  rw [b2 b hb, if_pos h]
theorem ins_size {l : List It} (hfew : l.length ≤ 32768) (hr : ∀ k, k < l.length → rightB (l.getD k it0) = true) (hlk : lackK l (accL l) l.length = false) {k : Nat} (hk : k < l.length) : ((insD l k).length : Int) = (szF l (farL l)).getD k 0 := by
  have h := (ins_some hfew hr hlk hk).1
  have hf := far_br l (golL l) l.length k
  have hbr : isBr l k = ((l.getD k it0).k == 3) := rfl
  rw [hbr] at hf
  have hkd := right_kind (hr k hk)
  rw [szF_get hk]
  unfold insK at h
  simp only at h
  unfold sz0
  generalize l.getD k it0 = x at *
  generalize insD l k = L at *
  have hF : farL l k = true → x.k = 3 := fun e => by simpa using hf e
  cases q : farL l k
  · rw [q] at h
    rcases hkd with e | e | e | e | e
    · simp [e] at h ⊢; subst h; rfl
    · simp [e] at h ⊢; subst h; rfl
    · simp [e] at h ⊢; subst h; rfl
    · simp [e] at h ⊢
      rw [← h.2]; rfl
    · simp [e] at h ⊢; subst h; rfl
  · have e := hF q
    rw [q] at h
    simp [e] at h ⊢
    rw [← h.2]; rfl
theorem wrdD_sum {l : List It} (hfew : l.length ≤ 32768) (hr : ∀ k, k < l.length → rightB (l.getD k it0) = true) (hlk : lackK l (accL l) l.length = false) : ∀ k, k ≤ l.length → ((wrdD l k).length : Int) = sumK (szF l (farL l)) k
  | 0, _ => by simp [wrdD, sumK]
  | k + 1, hk => by
    have ih := wrdD_sum hfew hr hlk k (by omega)
    have h := ins_size hfew hr hlk (k := k) (by omega)
    have hs := sumK_succ (s := szF l (farL l)) (k := k) (by rw [szF_len]; omega)
    rw [hs, show wrdD l (k + 1) = wrdD l k ++ (insD l k).map encI by rfl, List.length_append, List.length_map]
    omega
theorem bn_neE (w : World) (x y : Operand) (m n : Int) : (do eqGuard .neq 27 x y (.int .i64 m) (.int .i64 n); binOp .neq 27 (.int .i64 m) (.int .i64 n) : Sem Value).run Try.prog w = .ok (.bool (m != n)) w := by simp [go_sem]
theorem bn_eqE (w : World) (x y : Operand) (m n : Int) : (do eqGuard .eql 27 x y (.int .i64 m) (.int .i64 n); binOp .eql 27 (.int .i64 m) (.int .i64 n) : Sem Value).run Try.prog w = .ok (.bool (m == n)) w := by simp [go_sem]
section
variable (w : World) (b o : Nat)
theorem pf2 : (Instr.fieldAt 40 (.pointer (some ⟨b, o, none⟩)) 2).run Try.prog w = .ok (.pointer (some ⟨b, o + 6, none⟩)) w := by simp [go_sem]
theorem pn0 : (Instr.fieldAt 38 (.pointer (some ⟨b, o, none⟩)) 0).run Try.prog w = .ok (.pointer (some ⟨b, o, none⟩)) w := by simp [go_sem]
theorem pn4 : (Instr.fieldAt 38 (.pointer (some ⟨b, o, none⟩)) 4).run Try.prog w = .ok (.pointer (some ⟨b, o + 4, none⟩)) w := by simp [go_sem]
theorem cf_dec (vs : Array Value) : (callFunc 10 vs).run Try.prog w = .ok (.enter 10 vs) w := by simp [go_sem]
theorem cf_pcn (vs : Array Value) : (callFunc 11 vs).run Try.prog w = .ok (.enter 11 vs) w := by simp [go_sem]
theorem cf_fr (vs : Array Value) : (callFunc 12 vs).run Try.prog w = .ok (.enter 12 vs) w := by simp [go_sem]
theorem pst_in2 (g : Nat) (z : Array Value) (u0 u1 u2 u3 u4 : Int) (h : Rw w g z 38) (hz : z.size = 5) : (Instr.storeAt 38 (.pointer (some ⟨g, 0, none⟩)) (.agg #[.int .i64 u0, .int .i64 u1, .int .i64 u2, .int .i64 u3, .int .i64 u4])).run Try.prog w = .ok () (((((w.setCell ⟨g, 0, none⟩ (.int .i64 u0)).setCell ⟨g, 1, none⟩ (.int .i64 u1)).setCell ⟨g, 2, none⟩ (.int .i64 u2)).setCell ⟨g, 3, none⟩ (.int .i64 u3)).setCell ⟨g, 4, none⟩ (.int .i64 u4)) := by
  have a0 := h.cell (j := 0) (v := z[0]) (by simp [hz])
  have a1 := h.cell (j := 1) (v := z[1]) (by simp [hz])
  have a2 := h.cell (j := 2) (v := z[2]) (by simp [hz])
  have a3 := h.cell (j := 3) (v := z[3]) (by simp [hz])
  have a4 := h.cell (j := 4) (v := z[4]) (by simp [hz])
  simp [go_sem, a0, a1, a2, a3, a4, h.free]
end
def inA (i : In) : Array Value := #[.int .i64 i.op, .int .i64 i.rd, .int .i64 i.r1, .int .i64 i.r2, .int .i64 i.imm]
/-- The row of an instruction that is stored. -/
theorem Rw.putIn {w : World} {g : Nat} {z0 z1 z2 z3 z4 : Value} {t : TypeId} (h : Rw w g #[z0, z1, z2, z3, z4] t) (u0 u1 u2 u3 u4 : Value) : Rw (((((w.setCell ⟨g, 0, none⟩ u0).setCell ⟨g, 1, none⟩ u1).setCell ⟨g, 2, none⟩ u2).setCell ⟨g, 3, none⟩ u3).setCell ⟨g, 4, none⟩ u4) g #[u0, u1, u2, u3, u4] t :=
  ((((h.set 0 u0).set 1 u1).set 2 u2).set 3 u3).set 4 u4
theorem Rw.put5 {w : World} {g b : Nat} {z : Array Value} {t : TypeId} (h : Rw w b z t) (hne : b ≠ g) (u0 u1 u2 u3 u4 : Value) : Rw (((((w.setCell ⟨g, 0, none⟩ u0).setCell ⟨g, 1, none⟩ u1).setCell ⟨g, 2, none⟩ u2).setCell ⟨g, 3, none⟩ u3).setCell ⟨g, 4, none⟩ u4) b z t := by
  have f : ∀ (w : World) (j : Nat) (u : Value), Fr (fun q => q = g) w (w.setCell ⟨g, j, none⟩ u) := fun w j u => Fr.setCell (F := fun q => q = g) w ⟨g, j, none⟩ u rfl
  exact ((((h.fr (f _ 0 u0) hne).fr (f _ 1 u1) hne).fr (f _ 2 u2) hne).fr (f _ 3 u3) hne).fr (f _ 4 u4) hne
theorem fr_put5 {w0 w : World} {g : Nat} (h : Fr (fun _ => False) w0 w) (hb : w0.heap.size ≤ g) (u0 u1 u2 u3 u4 : Value) : Fr (fun _ => False) w0 (((((w.setCell ⟨g, 0, none⟩ u0).setCell ⟨g, 1, none⟩ u1).setCell ⟨g, 2, none⟩ u2).setCell ⟨g, 3, none⟩ u3).setCell ⟨g, 4, none⟩ u4) :=
  fr_set (fr_set (fr_set (fr_set (fr_set h hb 0 _) hb 1 _) hb 2 _) hb 3 _) hb 4 _
set_option maxRecDepth 100000 in
theorem p_far (i : In) (h : fitI i = true) (w : World) : Calls Try.prog 12 #[.int .u32 (encI i)] w fun e w' => e = .returned (.bool ((i.op == 3) && (i.rd == 0))) ∧ Fr (fun _ => False) w w' := by
  refine calls_tw Try.func12 rfl rfl (Nat.le_of_ble_eq_true rfl) ?_
  refine TW.sreg ?_
  refine WL.op rfl rfl rfl (Go.Proofs.Ytnjlcimeaoedcaa.W.quiet_assign rfl rfl) ?_
  refine WL.nil ?_
  refine TW.sreg ?_
  refine WL.op rfl rfl rfl (Go.Proofs.Ytnjlcimeaoedcaa.W.quiet_move rfl rfl) ?_
  refine WL.call (hr := p_dec i h w) rfl rfl rfl rfl rfl (fun W => cf_dec W _) ?_
  rintro e w1 ⟨rfl, f1⟩
  refine ⟨_, rfl, ?_⟩
  refine WL.op rfl rfl rfl (Go.Proofs.Ytnjlcimeaoedcaa.W.quiet_move rfl rfl) ?_
  refine WL.ext rfl rfl rfl rfl rfl rfl ?_
  refine WL.ext rfl rfl rfl rfl rfl rfl ?_
  refine WL.alloc rfl rfl rfl rfl (pal_in _) ?_
  have r1 := Rw.new w1 #[.int .i64 0, .int .i64 0, .int .i64 0, .int .i64 0, .int .i64 0] 38
  have f2 := fr_al f1 (.cells #[.int .i64 0, .int .i64 0, .int .i64 0, .int .i64 0, .int .i64 0] 38)
  have hb := f1.size
  generalize w1.alloc (.cells #[.int .i64 0, .int .i64 0, .int .i64 0, .int .i64 0, .int .i64 0] 38) = w2 at *
  generalize w1.heap.size = bn at *
  refine WL.store rfl rfl rfl rfl rfl (pst_in _ _ _ _ _ _ _ r1) ?_
  have r3 := r1.putIn (.int .i64 i.op) (.int .i64 i.rd) (.int .i64 i.r1) (.int .i64 i.r2) (.int .i64 i.imm)
  have f3 := fr_put5 f2 hb (.int .i64 i.op) (.int .i64 i.rd) (.int .i64 i.r1) (.int .i64 i.r2) (.int .i64 i.imm)
  generalize ((((w2.setCell ⟨bn, 0, none⟩ (.int .i64 i.op)).setCell ⟨bn, 1, none⟩ (.int .i64 i.rd)).setCell ⟨bn, 2, none⟩ (.int .i64 i.r1)).setCell ⟨bn, 3, none⟩ (.int .i64 i.r2)).setCell ⟨bn, 4, none⟩ (.int .i64 i.imm) = w3 at *
  refine WL.op rfl rfl rfl (Go.Proofs.Ytnjlcimeaoedcaa.W.quiet_assign rfl rfl) ?_
  refine WL.nil ?_
  obtain ⟨b1, hb1⟩ : ∃ q, (i.op == 3) = q := ⟨_, rfl⟩
  obtain ⟨b2, hb2⟩ : ∃ q, (i.rd == 0) = q := ⟨_, rfl⟩
  have B1 := fun W xo yo => (bn_eq W xo yo i.op 3).trans (by rw [hb1])
  have B2 := fun W xo yo => (bn_eq W xo yo i.rd 0).trans (by rw [hb2])
  rw [hb1, hb2]
  refine TW.sreg ?_
  refine WL.op rfl rfl rfl (Go.Proofs.Ytnjlcimeaoedcaa.W.quiet_move rfl rfl) ?_
  refine WL.op rfl rfl rfl (Go.Proofs.Ytnjlcimeaoedcaa.W.quiet_bin rfl rfl rfl (fun W => bn_eqE W _ _ _ _)) ?_
  refine WL.op rfl rfl rfl (Go.Proofs.Ytnjlcimeaoedcaa.W.quiet_move rfl rfl) ?_
  refine WL.op rfl rfl rfl (Go.Proofs.Ytnjlcimeaoedcaa.W.quiet_field rfl rfl (fun W => pn0 W _ _)) ?_
  refine WL.ld rfl rfl rfl rfl rfl (ld_int _ _ _ (r3.cell rfl)) ?_
  refine WL.op rfl rfl rfl (Go.Proofs.Ytnjlcimeaoedcaa.W.quiet_bin rfl rfl rfl (fun W => B1 W _ _)) ?_
  refine WL.op rfl rfl rfl (Go.Proofs.Ytnjlcimeaoedcaa.W.quiet_pick rfl rfl rfl) ?_
  refine WL.op rfl rfl rfl (Go.Proofs.Ytnjlcimeaoedcaa.W.quiet_move rfl rfl) ?_
  cases b1
  · refine WL.skip rfl rfl rfl ?_
    refine WL.skip rfl rfl rfl ?_
    refine WL.skip rfl rfl rfl ?_
    refine WL.op rfl rfl rfl (Go.Proofs.Ytnjlcimeaoedcaa.W.quiet_pick rfl rfl rfl) ?_
    refine WL.op rfl rfl rfl (Go.Proofs.Ytnjlcimeaoedcaa.W.quiet_assign rfl rfl) ?_
    refine WL.nil ?_
    refine TW.rt ?_
    repeat (with_reducible first | refine Xw.thn (by simp) ?_ | refine Xw.rblk ?_)
    refine bodyw_ret rfl rfl ?_
    exact ⟨rfl, f3⟩
  · refine WL.op rfl rfl rfl (Go.Proofs.Ytnjlcimeaoedcaa.W.quiet_field rfl rfl (fun W => pn1 W _ _)) ?_
    refine WL.ld rfl rfl rfl rfl rfl (ld_int _ _ _ (r3.cell rfl)) ?_
    refine WL.op rfl rfl rfl (Go.Proofs.Ytnjlcimeaoedcaa.W.quiet_bin rfl rfl rfl (fun W => B2 W _ _)) ?_
    refine WL.op rfl rfl rfl (Go.Proofs.Ytnjlcimeaoedcaa.W.quiet_pick rfl rfl rfl) ?_
    refine WL.op rfl rfl rfl (Go.Proofs.Ytnjlcimeaoedcaa.W.quiet_assign rfl rfl) ?_
    refine WL.nil ?_
    refine TW.rt ?_
    repeat (with_reducible first | refine Xw.thn (by simp) ?_ | refine Xw.rblk ?_)
    refine bodyw_ret rfl rfl ?_
    exact ⟨rfl, f3⟩
/-- What an item is turned into, by its kind. -/
theorem ins_form {l : List It} (hfew : l.length ≤ 32768) (hr : ∀ k, k < l.length → rightB (l.getD k it0) = true) (hlk : lackK l (accL l) l.length = false) {k : Nat} (hk : k < l.length) (x : It) (hx : l.getD k it0 = x) :
    (x.k = 1 ∧ insD l k = [⟨x.op, x.rd, x.r1, x.r2, x.imm⟩]) ∨ (x.k = 2 ∧ insD l k = []) ∨ (x.k = 3 ∧ x.op ≠ contr x.op ∧ insD l k = [⟨x.op, x.rd, x.r1, x.r2, offK (golL l) (szF l (farL l)) k⟩]) ∨
    (x.k = 3 ∧ insD l k = [⟨contr x.op, 0, x.r1, x.r2, 8⟩, ⟨3, 0, 0, 0, offK (golL l) (szF l (farL l)) k - 4⟩]) ∨ (x.k = 4 ∧ insD l k = [⟨3, x.rd, 0, 0, offK (golL l) (szF l (farL l)) k⟩]) ∨ (x.k = 5 ∧ insD l k = numI x.rd x.imm) := by
  have h := (ins_some hfew hr hlk hk).1
  have hrk := hr k hk
  unfold insK at h
  simp only at h
  rw [hx] at h hrk
  generalize insD l k = L at *
  rcases right_kind hrk with e | e | e | e | e
  · simp [e] at h; exact .inl ⟨e, h.symm⟩
  · simp [e] at h; exact .inr (.inl ⟨e, h⟩)
  · obtain ⟨h1, _⟩ := right_3 hrk e
    cases q : farL l k
    · rw [q] at h
      simp [e] at h
      refine .inr (.inr (.inl ⟨e, ?_, h.symm⟩))
      unfold contr
      repeat' split
      all_goals first | omega | skip
      intro e0
      rw [e0] at h1
      exact absurd h1 (by decide)
    · rw [q] at h
      simp [e] at h
      exact .inr (.inr (.inr (.inl ⟨e, h.2.symm⟩)))
  · simp [e] at h; exact .inr (.inr (.inr (.inr (.inl ⟨e, h.2.symm⟩))))
  · simp [e] at h; exact .inr (.inr (.inr (.inr (.inr ⟨e, h.symm⟩))))
set_option maxRecDepth 100000 in
set_option maxHeartbeats 6400000 in
theorem asmLeads_walk (l : List It) (a : Option Addr) (n c : Nat) (p q : Int) (hn : n = l.length) (w : World) (hat : ItAt w.heap.size w a l) : Calls Try.prog 4 #[.slice a n c, .int .i64 p, .int .i64 q] w fun e w' => e = .returned (.bool true) ∧ Fr (fun _ => False) w w' := by
  refine calls_tw Try.func4 rfl rfl (Nat.le_of_ble_eq_true rfl) ?_
  refine TW.sreg ?_
  refine WL.op rfl rfl rfl (Go.Proofs.Ytnjlcimeaoedcaa.W.quiet_assign rfl rfl) ?_
  refine WL.nil ?_
  refine TW.seq ?_
  refine TW.sreg ?_
  refine WL.op rfl rfl rfl (Go.Proofs.Ytnjlcimeaoedcaa.W.quiet_move rfl rfl) ?_
  refine WL.op rfl rfl rfl (Go.Proofs.Ytnjlcimeaoedcaa.W.quiet_len rfl rfl (fun W => pln W _ _ _)) ?_
  refine WL.op rfl rfl rfl (Go.Proofs.Ytnjlcimeaoedcaa.W.quiet_bin rfl rfl rfl (fun W => bn_gt W _ _ _ _)) ?_
  refine WL.nil ?_
  refine TW.cond rfl (fun hb => ?_) (fun hb => ?_)
  · refine TW.sreg ?_
    refine WL.call (hr := c5 w) rfl rfl rfl rfl rfl (fun W => cf_awk W _) ?_
    rintro e w1 ⟨rfl, f1⟩
    refine ⟨_, rfl, ?_⟩
    refine WL.op rfl rfl rfl (Go.Proofs.Ytnjlcimeaoedcaa.W.quiet_assign rfl rfl) ?_
    refine WL.nil ?_
    refine TW.rt ?_
    repeat (with_reducible first | refine Xw.thn (by simp) ?_ | refine Xw.rblk ?_)
    refine bodyw_ret rfl rfl ?_
    exact ⟨rfl, f1⟩
  have h60 : n ≤ 60 := by have := of_decide_eq_false hb; omega
  refine TW.skip ?_
  refine TW.sreg ?_
  refine WL.op rfl rfl rfl (Go.Proofs.Ytnjlcimeaoedcaa.W.quiet_move rfl rfl) ?_
  refine WL.op rfl rfl rfl (Go.Proofs.Ytnjlcimeaoedcaa.W.quiet_move rfl rfl) ?_
  refine WL.op rfl rfl rfl (Go.Proofs.Ytnjlcimeaoedcaa.W.quiet_move rfl rfl) ?_
  refine WL.call (hr := r_padded l a n c p q hn h60 w hat) rfl rfl rfl rfl rfl (fun W => cf_pad W _) ?_
  rintro e w1 ⟨ap, cp, rfl, hat1, f1⟩
  refine ⟨_, rfl, ?_⟩
  refine WL.op rfl rfl rfl (Go.Proofs.Ytnjlcimeaoedcaa.W.quiet_assign rfl rfl) ?_
  refine WL.nil ?_
  have hlen := padL_len l p q n
  have hlen2 : (padL l p q n).length ≤ 32768 := by split at hlen <;> omega
  clear hat hn hlen hb
  generalize padL l p q n = P at *
  rcases prog_asm P hlen2 with ⟨er, he, H1⟩ | ⟨hr, ht, hl, H1⟩
  · refine TW.sreg ?_
    refine WL.op rfl rfl rfl (Go.Proofs.Ytnjlcimeaoedcaa.W.quiet_move rfl rfl) ?_
    refine WL.call (hr := H1 ap cp w1 hat1) rfl rfl rfl rfl rfl (fun W => cf_asm W _) ?_
    rintro e w2 ⟨a1, c1, b1, d1, rfl, f2, _, _⟩
    refine ⟨_, rfl, ?_⟩
    refine WL.op rfl rfl rfl (Go.Proofs.Ytnjlcimeaoedcaa.W.quiet_move rfl rfl) ?_
    refine WL.ext rfl rfl rfl rfl rfl rfl ?_
    refine WL.ext rfl rfl rfl rfl rfl rfl ?_
    refine WL.ext rfl rfl rfl rfl rfl rfl ?_
    refine WL.op rfl rfl rfl (Go.Proofs.Ytnjlcimeaoedcaa.W.quiet_assign rfl rfl) ?_
    refine WL.op rfl rfl rfl (Go.Proofs.Ytnjlcimeaoedcaa.W.quiet_assign rfl rfl) ?_
    refine WL.op rfl rfl rfl (Go.Proofs.Ytnjlcimeaoedcaa.W.quiet_assign rfl rfl) ?_
    refine WL.nil ?_
    refine TW.seq ?_
    refine TW.sreg ?_
    refine WL.op rfl rfl rfl (Go.Proofs.Ytnjlcimeaoedcaa.W.quiet_move rfl rfl) ?_
    refine WL.op rfl rfl rfl (Go.Proofs.Ytnjlcimeaoedcaa.W.quiet_bin rfl rfl rfl (fun W => bn_neE W _ _ _ _)) ?_
    refine WL.nil ?_
    refine TW.cond rfl (fun _ => ?_) (fun hb => absurd (by simpa using hb) he)
    refine TW.sreg ?_
    refine WL.call (hr := c5 w2) rfl rfl rfl rfl rfl (fun W => cf_awk W _) ?_
    rintro e w3 ⟨rfl, f3⟩
    refine ⟨_, rfl, ?_⟩
    refine WL.op rfl rfl rfl (Go.Proofs.Ytnjlcimeaoedcaa.W.quiet_assign rfl rfl) ?_
    refine WL.nil ?_
    refine TW.rt ?_
    repeat (with_reducible first | refine Xw.thn (by simp) ?_ | refine Xw.rblk ?_)
    refine bodyw_ret rfl rfl ?_
    exact ⟨rfl, f1.trans (f2.trans f3)⟩
  refine TW.sreg ?_
  refine WL.op rfl rfl rfl (Go.Proofs.Ytnjlcimeaoedcaa.W.quiet_move rfl rfl) ?_
  refine WL.call (hr := H1 ap cp w1 hat1) rfl rfl rfl rfl rfl (fun W => cf_asm W _) ?_
  rintro e w2 ⟨a1, c1, b1, d1, rfl, f2, hu, hi⟩
  refine ⟨_, rfl, ?_⟩
  refine WL.op rfl rfl rfl (Go.Proofs.Ytnjlcimeaoedcaa.W.quiet_move rfl rfl) ?_
  refine WL.ext rfl rfl rfl rfl rfl rfl ?_
  refine WL.ext rfl rfl rfl rfl rfl rfl ?_
  refine WL.ext rfl rfl rfl rfl rfl rfl ?_
  refine WL.op rfl rfl rfl (Go.Proofs.Ytnjlcimeaoedcaa.W.quiet_assign rfl rfl) ?_
  refine WL.op rfl rfl rfl (Go.Proofs.Ytnjlcimeaoedcaa.W.quiet_assign rfl rfl) ?_
  refine WL.op rfl rfl rfl (Go.Proofs.Ytnjlcimeaoedcaa.W.quiet_assign rfl rfl) ?_
  refine WL.nil ?_
  replace hat1 := (hat1.fr f2 (fun _ h => h.elim)).mono f2.size
  replace f1 := f1.trans f2
  clear f2 H1
  refine TW.seq ?_
  refine TW.sreg ?_
  refine WL.op rfl rfl rfl (Go.Proofs.Ytnjlcimeaoedcaa.W.quiet_move rfl rfl) ?_
  refine WL.op rfl rfl rfl (Go.Proofs.Ytnjlcimeaoedcaa.W.quiet_bin rfl rfl rfl (fun W => bn_neE W _ _ _ _)) ?_
  refine WL.nil ?_
  refine TW.cond rfl (fun hb => by cases hb) (fun _ => ?_)
  refine TW.skip ?_
  obtain ⟨s, hs⟩ : ∃ z, szF P (farL P) = z := ⟨_, rfl⟩
  have hsl : s.length = P.length := by rw [← hs, szF_len]
  have hsz : Sizes s := by rw [← hs]; exact szF_in P (farL P)
  have hwsum := fun k hk => wrdD_sum hlen2 hr hl k hk
  have hwlen := wrdD_len hlen2 hr hl P.length (Nat.le_refl _)
  have hllen := labD_len hr s P.length (Nat.le_refl _)
  rw [hs] at hi hwsum ⊢
  refine TW.sreg ?_
  refine WL.op rfl rfl rfl (Go.Proofs.Ytnjlcimeaoedcaa.W.quiet_assign rfl rfl) ?_
  refine WL.nil ?_
  refine TW.seq ?_
  refine TW.seq ?_
  refine TW.reg ?_
  refine WL.op rfl rfl rfl (Go.Proofs.Ytnjlcimeaoedcaa.W.quiet_assign rfl rfl) ?_
  refine WL.nil ?_
  refine TW.block ?_
  refine TW.loop (t := 12) (n := P.length) (fun j b W => Kn Try.f4.ntmps [(11, .int .i64 (((wrdD P j).length : Nat) : Int)), (12, .int .i64 ((j : Nat) : Int)), (7, .slice ap P.length cp), (8, .slice a1 (wrdD P P.length).length c1), (9, .slice b1 (labD P s P.length).length d1)] b ∧ Fr (fun _ => False) w2 W) (fun j b wr h => h.1.has 12 _ rfl) (fun b h => ⟨(by (repeat (refine Kn.cons h rfl ?_)); exact h.base), Fr.refl _ _⟩) ?_
  rintro j b W hj ⟨hkn, hf⟩
  refine TW.app ?_ hkn
  clear hkn b
  refine TW.seq ?_
  refine TW.sreg ?_
  refine WL.op rfl rfl rfl (Go.Proofs.Ytnjlcimeaoedcaa.W.quiet_move rfl rfl) ?_
  refine WL.op rfl rfl rfl (Go.Proofs.Ytnjlcimeaoedcaa.W.quiet_move rfl rfl) ?_
  refine WL.op rfl rfl rfl (Go.Proofs.Ytnjlcimeaoedcaa.W.quiet_len rfl rfl (fun W => pln W _ _ _)) ?_
  refine WL.op rfl rfl rfl (Go.Proofs.Ytnjlcimeaoedcaa.W.quiet_bin rfl rfl rfl (fun W => bn_lt W _ _ (j : Int) (P.length : Int))) ?_
  refine WL.nil ?_
  refine TW.cond rfl (fun hlt => ?_) (fun hge => ?_)
  rotate_left
  · have hjn : j = P.length := by have := of_decide_eq_false hge; omega
    refine TW.exit ?_
    repeat (with_reducible refine Xw.thn (by simp) ?_)
    refine Xw.hit ?_
    refine Xw.nrm ?_
    have BE : (((wrdD P j).length : Int) == ((wrdD P P.length).length : Int)) = true := by rw [hjn]; simp
    refine TW.sreg ?_
    refine WL.call (hr := c5 W) rfl rfl rfl rfl rfl (fun W => cf_awk W _) ?_
    rintro e w3 ⟨rfl, f3⟩
    refine ⟨_, rfl, ?_⟩
    refine WL.op rfl rfl rfl (Go.Proofs.Ytnjlcimeaoedcaa.W.quiet_move rfl rfl) ?_
    refine WL.op rfl rfl rfl (Go.Proofs.Ytnjlcimeaoedcaa.W.quiet_move rfl rfl) ?_
    refine WL.op rfl rfl rfl (Go.Proofs.Ytnjlcimeaoedcaa.W.quiet_move rfl rfl) ?_
    refine WL.op rfl rfl rfl (Go.Proofs.Ytnjlcimeaoedcaa.W.quiet_len rfl rfl (fun W => ln_w W _ _ _)) ?_
    refine WL.op rfl rfl rfl (Go.Proofs.Ytnjlcimeaoedcaa.W.quiet_bin rfl rfl rfl (fun W => (bn_eq W _ _ _ _).trans (by rw [BE]))) ?_
    refine WL.op rfl rfl rfl (Go.Proofs.Ytnjlcimeaoedcaa.W.quiet_pick rfl rfl rfl) ?_
    refine WL.op rfl rfl rfl (Go.Proofs.Ytnjlcimeaoedcaa.W.quiet_assign rfl rfl) ?_
    refine WL.nil ?_
    refine TW.rt ?_
    repeat (with_reducible first | refine Xw.thn (by simp) ?_ | refine Xw.rblk ?_)
    refine bodyw_ret rfl rfl ?_
    exact ⟨rfl, f1.trans (hf.trans f3)⟩
  have hlt' : j < P.length := by have := of_decide_eq_true hlt; omega
  refine TW.skip ?_
  refine TW.seq ?_
  refine TW.block ?_
  obtain ⟨x, hx⟩ : ∃ z, P.getD j it0 = z := ⟨_, rfl⟩
  have hrx := hr j hlt'
  have hform := ins_form hlen2 hr hl hlt' x hx
  have hfits := (ins_some hlen2 hr hl hlt').2
  have hws2 : (wrdD P (j + 1)).length = (wrdD P j).length + (insD P j).length := by
    rw [show wrdD P (j + 1) = wrdD P j ++ (insD P j).map encI by rfl, List.length_append, List.length_map]
  have hwj := hwsum j (by omega)
  have hw1 := hwsum (j + 1) (by omega)
  have hbj := sumK_in hsz j (by omega)
  have hbj1 := sumK_in hsz (j + 1) (by omega)
  have hwat := fun i (h : i < (insD P j).length) => wrdD_at P hlt' h
  have hto : isTo x = true → ∃ lb : Nat, x.lab = (lb : Int) ∧ lb < (labD P s P.length).length ∧ (labD P s P.length).getD lb 0 = 4 * sumK s j + offK (golL P) s j := fun h => by
    have h' : isTo (P.getD j it0) = true := by rw [hx]; exact h
    have hh := not_lack hl hlt' h'
    have hw := way_is P s hsl hlt' h' hh
    rw [staL_val P _ hh, Int.toNat_natCast, hx] at hw
    rw [hx] at hh
    have hlb : labB x.lab = true := by
      rw [hx] at hrx
      exact (right_lab hrx).2 h
    unfold labB at hlb
    simp only [Bool.and_eq_true, decide_eq_true_eq] at hlb
    obtain ⟨lb, hlb'⟩ : ∃ z : Nat, x.lab = (z : Int) := ⟨x.lab.toNat, by omega⟩
    rw [hlb'] at hh hw
    obtain ⟨q1, q2⟩ := lab_at hr ht s hh
    exact ⟨lb, hlb', q1, by rw [q2, ← hw]; omega⟩
  have h2l : x.k = 2 → ∃ lb : Nat, x.lab = (lb : Int) ∧ lb < (labD P s P.length).length ∧ (labD P s P.length).getD lb 0 = 4 * sumK s j := fun h => by
    obtain ⟨q1, q2⟩ := val_self P P.length j hlt' ht (by rw [hx]; exact h)
    rw [hx] at q1 q2 hrx
    have hlb := (right_lab hrx).1 h
    unfold labB at hlb
    simp only [Bool.and_eq_true, decide_eq_true_eq] at hlb
    obtain ⟨lb, hlb'⟩ : ∃ z : Nat, x.lab = (z : Int) := ⟨x.lab.toNat, by omega⟩
    rw [hlb'] at q1 q2
    obtain ⟨q3, q4⟩ := lab_at hr ht s q1
    exact ⟨lb, hlb', q3, by rw [q4]; rw [show valL (accL P) (lb : Int) = j from q2]⟩
  rw [hx] at hrx
  have hoff : -1000000 ≤ offK (golL P) s j ∧ offK (golL P) s j ≤ 1000000 := off_in hsz hsl hlen2 (goals_ok P) hlt'
  rw [hs] at hform
  generalize offK (golL P) s j = way at *
  generalize insD P j = L at *
  obtain ⟨gx, ox, rfl, _, x0, x1, x2, x3, x4, x5, x6⟩ := hat1.get hf (fun _ h => h.elim) j hlt' x hx
  have IXX := fun W => pix W gx ox P.length cp j hlt'
  refine TW.sreg ?_
  refine WL.op rfl rfl rfl (Go.Proofs.Ytnjlcimeaoedcaa.W.quiet_move rfl rfl) ?_
  refine WL.op rfl rfl rfl (Go.Proofs.Ytnjlcimeaoedcaa.W.quiet_move rfl rfl) ?_
  refine WL.op rfl rfl rfl (Go.Proofs.Ytnjlcimeaoedcaa.W.quiet_index rfl rfl rfl IXX) ?_
  refine WL.ld rfl rfl rfl rfl rfl (pld_item _ _ _ _ _ _ _ _ _ _ x0 x1 x2 x3 x4 x5 x6) ?_
  refine WL.alloc rfl rfl rfl rfl (pal_it _) ?_
  refine WL.store rfl rfl rfl rfl rfl (pst_it _ _ _ _ _ _ _ _) ?_
  refine WL.nil ?_
  have rx := Rw.new W #[.int .i64 x.k, .int .i64 x.op, .int .i64 x.rd, .int .i64 x.r1, .int .i64 x.r2, .int .i64 x.imm, .int .i64 x.lab] 40
  replace hf := fr_al hf (.cells #[.int .i64 x.k, .int .i64 x.op, .int .i64 x.rd, .int .i64 x.r1, .int .i64 x.r2, .int .i64 x.imm, .int .i64 x.lab] 40)
  clear x0 x1 x2 x3 x4 x5 x6
  generalize W.alloc (.cells #[.int .i64 x.k, .int .i64 x.op, .int .i64 x.rd, .int .i64 x.r1, .int .i64 x.r2, .int .i64 x.imm, .int .i64 x.lab] 40) = V at *
  generalize W.heap.size = bx at *
  obtain ⟨k2, hk2⟩ : ∃ z, (x.k == 2) = z := ⟨_, rfl⟩
  have BJ := fun W xo yo => bn_add W xo yo (j : Int) 1 (by omega) (by omega)
  refine TW.seq ?_
  refine TW.sreg ?_
  refine WL.op rfl rfl rfl (Go.Proofs.Ytnjlcimeaoedcaa.W.quiet_field rfl rfl (fun W => pf0 W _ _)) ?_
  refine WL.ld rfl rfl rfl rfl rfl (ld_int _ _ _ (rx.cell rfl)) ?_
  refine WL.op rfl rfl rfl (Go.Proofs.Ytnjlcimeaoedcaa.W.quiet_bin rfl rfl rfl (fun W => (bn_eq W _ _ _ _).trans (by rw [hk2]))) ?_
  refine WL.nil ?_
  refine TW.cond rfl (fun hb => ?_) (fun hb => ?_)
  · have h2 : x.k = 2 := by rw [← hk2] at hb; simpa using hb
    obtain ⟨lb, hlb, hlbl, hlbv⟩ := h2l h2
    have hL : L = [] := by
      rcases hform with ⟨e, _⟩ | ⟨_, e⟩ | ⟨e, _⟩ | ⟨e, _⟩ | ⟨e, _⟩ | ⟨e, _⟩ <;> first | exact e | omega
    obtain ⟨gm, rfl, hm⟩ := hi lb hlbl
    have cm := hf.cell hm id
    rw [hlbv] at cm
    have rl := rx.cell (j := 6) rfl
    rw [hlb] at rl
    have B1 : decide (((labD P s P.length).length : Int) ≤ (lb : Int)) = false := decide_eq_false (by omega)
    have B2 : ((4 * sumK s j) != (4 * ((wrdD P j).length : Int))) = false := by rw [hwj]; simp
    have IM := fun W => ixi W gm 0 (labD P s P.length).length d1 lb hlbl
    refine TW.seq ?_
    refine TW.sreg ?_
    refine WL.op rfl rfl rfl (Go.Proofs.Ytnjlcimeaoedcaa.W.quiet_field rfl rfl (fun W => pf2 W _ _)) ?_
    refine WL.ld rfl rfl rfl rfl rfl (ld_int _ _ _ (by rw [Nat.zero_add]; exact rl)) ?_
    refine WL.op rfl rfl rfl (Go.Proofs.Ytnjlcimeaoedcaa.W.quiet_move rfl rfl) ?_
    refine WL.op rfl rfl rfl (Go.Proofs.Ytnjlcimeaoedcaa.W.quiet_len rfl rfl (fun W => ln_i W _ _ _)) ?_
    refine WL.op rfl rfl rfl (Go.Proofs.Ytnjlcimeaoedcaa.W.quiet_bin rfl rfl rfl (fun W => (bn_ge W _ _ _ _).trans (by rw [B1]))) ?_
    refine WL.op rfl rfl rfl (Go.Proofs.Ytnjlcimeaoedcaa.W.quiet_move rfl rfl) ?_
    refine WL.op rfl rfl rfl (Go.Proofs.Ytnjlcimeaoedcaa.W.quiet_move rfl rfl) ?_
    refine WL.op rfl rfl rfl (Go.Proofs.Ytnjlcimeaoedcaa.W.quiet_field rfl rfl (fun W => pf2 W _ _)) ?_
    refine WL.ld rfl rfl rfl rfl rfl (ld_int _ _ _ (by rw [Nat.zero_add]; exact rl)) ?_
    refine WL.op rfl rfl rfl (Go.Proofs.Ytnjlcimeaoedcaa.W.quiet_index rfl rfl rfl IM) ?_
    refine WL.ld rfl rfl rfl rfl rfl (ld_int _ _ _ (by rw [Nat.zero_add]; exact cm)) ?_
    refine WL.op rfl rfl rfl (Go.Proofs.Ytnjlcimeaoedcaa.W.quiet_move rfl rfl) ?_
    refine WL.op rfl rfl rfl (Go.Proofs.Ytnjlcimeaoedcaa.W.quiet_bin rfl rfl rfl (fun W => bn_mul4 W _ _ _ (by omega) (by omega))) ?_
    refine WL.op rfl rfl rfl (Go.Proofs.Ytnjlcimeaoedcaa.W.quiet_bin rfl rfl rfl (fun W => (bn_ne W _ _ _ _).trans (by rw [B2]))) ?_
    refine WL.op rfl rfl rfl (Go.Proofs.Ytnjlcimeaoedcaa.W.quiet_pick rfl rfl rfl) ?_
    refine WL.nil ?_
    refine TW.cond rfl (fun hb => by cases hb) (fun _ => ?_)
    refine TW.skip ?_
    refine TW.exit ?_
    repeat (with_reducible refine Xw.thn (by simp) ?_)
    refine Xw.hit ?_
    refine Xw.nrm ?_
    refine TW.reg ?_
    refine WL.op rfl rfl rfl (Go.Proofs.Ytnjlcimeaoedcaa.W.quiet_move rfl rfl) ?_
    refine WL.op rfl rfl rfl (Go.Proofs.Ytnjlcimeaoedcaa.W.quiet_bin rfl rfl rfl (fun W => BJ W _ _)) ?_
    refine WL.op rfl rfl rfl (Go.Proofs.Ytnjlcimeaoedcaa.W.quiet_assign rfl rfl) ?_
    refine WL.end ?_
    refine Xw.any fun b h => ⟨j + 1, by omega, by omega, ⟨by rw [hws2, hL]; exact (by (repeat (refine Kn.cons h rfl ?_)); exact h.base), hf⟩⟩
  have h2 : ¬x.k = 2 := by rw [← hk2] at hb; simpa using hb
  refine TW.skip ?_
  clear h2l hb
  have hL0 : 0 < L.length := by
    rcases hform with ⟨_, e⟩ | ⟨e, _⟩ | ⟨_, _, e⟩ | ⟨_, e⟩ | ⟨_, e⟩ | ⟨_, e⟩ <;> first | (rw [e]; simp; done) | omega | (rw [e]; have := numI_len x.rd x.imm; omega)
  obtain ⟨k, hk⟩ : ∃ z, (wrdD P j).length = z := ⟨_, rfl⟩
  rw [hk] at hwj hwat hws2 ⊢
  obtain ⟨hkl, hkv⟩ := hwat 0 hL0
  rw [Nat.add_zero] at hkl hkv
  obtain ⟨i0, hi0⟩ : ∃ z, L.getD 0 in0 = z := ⟨_, rfl⟩
  rw [hi0] at hkv
  have hif : fitI i0 = true := hfits i0 (by rw [← hi0, List.getD_eq_getElem?_getD, List.getElem?_eq_getElem hL0]; exact List.getElem_mem hL0)
  obtain ⟨gw, rfl, hgw⟩ := hu k hkl
  rw [hkv] at hgw
  have B15 : decide (((wrdD P P.length).length : Int) ≤ (k : Int)) = false := decide_eq_false (by omega)
  have IW := fun W => ixu W gw 0 (wrdD P P.length).length c1 k hkl
  refine TW.seq ?_
  refine TW.sreg ?_
  refine WL.op rfl rfl rfl (Go.Proofs.Ytnjlcimeaoedcaa.W.quiet_move rfl rfl) ?_
  refine WL.op rfl rfl rfl (Go.Proofs.Ytnjlcimeaoedcaa.W.quiet_move rfl rfl) ?_
  refine WL.op rfl rfl rfl (Go.Proofs.Ytnjlcimeaoedcaa.W.quiet_len rfl rfl (fun W => ln_w W _ _ _)) ?_
  refine WL.op rfl rfl rfl (Go.Proofs.Ytnjlcimeaoedcaa.W.quiet_bin rfl rfl rfl (fun W => (bn_ge W _ _ _ _).trans (by rw [B15]))) ?_
  refine WL.nil ?_
  refine TW.cond rfl (fun hb => by cases hb) (fun _ => ?_)
  refine TW.skip ?_
  refine TW.sreg ?_
  refine WL.op rfl rfl rfl (Go.Proofs.Ytnjlcimeaoedcaa.W.quiet_move rfl rfl) ?_
  refine WL.op rfl rfl rfl (Go.Proofs.Ytnjlcimeaoedcaa.W.quiet_move rfl rfl) ?_
  refine WL.op rfl rfl rfl (Go.Proofs.Ytnjlcimeaoedcaa.W.quiet_index rfl rfl rfl IW) ?_
  refine WL.ld rfl rfl rfl rfl rfl (ld_u _ _ _ (by rw [Nat.zero_add]; exact hf.cell hgw id)) ?_
  refine WL.call (hr := p_dec i0 hif V) rfl rfl rfl rfl rfl (fun W => cf_dec W _) ?_
  rintro e V1 ⟨rfl, f1'⟩
  refine ⟨_, rfl, ?_⟩
  replace rx := rx.fr f1' id
  replace hf := hf.trans f1'
  clear f1' V
  refine WL.op rfl rfl rfl (Go.Proofs.Ytnjlcimeaoedcaa.W.quiet_move rfl rfl) ?_
  refine WL.ext rfl rfl rfl rfl rfl rfl ?_
  refine WL.ext rfl rfl rfl rfl rfl rfl ?_
  refine WL.alloc rfl rfl rfl rfl (pal_in _) ?_
  have rn := Rw.new V1 #[.int .i64 0, .int .i64 0, .int .i64 0, .int .i64 0, .int .i64 0] 38
  have fa := fr_al (Fr.refl (fun _ => False) V1) (.cells #[.int .i64 0, .int .i64 0, .int .i64 0, .int .i64 0, .int .i64 0] 38)
  have hbn : w2.heap.size ≤ V1.heap.size := hf.size
  have hxn : bx ≠ V1.heap.size := by have := rx.lt; omega
  replace rx := rx.fr fa id
  replace hf := hf.trans fa
  clear fa
  generalize V1.alloc (.cells #[.int .i64 0, .int .i64 0, .int .i64 0, .int .i64 0, .int .i64 0] 38) = V2 at *
  generalize V1.heap.size = bn at *
  refine WL.store rfl rfl rfl rfl rfl (pst_in _ _ _ _ _ _ _ rn) ?_
  replace rn := rn.putIn (.int .i64 i0.op) (.int .i64 i0.rd) (.int .i64 i0.r1) (.int .i64 i0.r2) (.int .i64 i0.imm)
  replace hf := fr_put5 hf hbn (.int .i64 i0.op) (.int .i64 i0.rd) (.int .i64 i0.r1) (.int .i64 i0.r2) (.int .i64 i0.imm)
  replace rx := rx.put5 hxn (.int .i64 i0.op) (.int .i64 i0.rd) (.int .i64 i0.r1) (.int .i64 i0.r2) (.int .i64 i0.imm)
  generalize ((((V2.setCell ⟨bn, 0, none⟩ (.int .i64 i0.op)).setCell ⟨bn, 1, none⟩ (.int .i64 i0.rd)).setCell ⟨bn, 2, none⟩ (.int .i64 i0.r1)).setCell ⟨bn, 3, none⟩ (.int .i64 i0.r2)).setCell ⟨bn, 4, none⟩ (.int .i64 i0.imm) = V at *
  refine WL.op rfl rfl rfl (Go.Proofs.Ytnjlcimeaoedcaa.W.quiet_assign rfl rfl) ?_
  refine WL.nil ?_
  refine TW.seq ?_
  refine TW.sreg ?_
  refine WL.op rfl rfl rfl (Go.Proofs.Ytnjlcimeaoedcaa.W.quiet_move rfl rfl) ?_
  refine WL.op rfl rfl rfl (Go.Proofs.Ytnjlcimeaoedcaa.W.quiet_bin rfl rfl rfl (fun W => bn_neE W _ _ _ _)) ?_
  refine WL.nil ?_
  refine TW.cond rfl (fun hb => by cases hb) (fun _ => ?_)
  refine TW.skip ?_
  refine TW.sreg ?_
  refine WL.op rfl rfl rfl (Go.Proofs.Ytnjlcimeaoedcaa.W.quiet_move rfl rfl) ?_
  refine WL.op rfl rfl rfl (Go.Proofs.Ytnjlcimeaoedcaa.W.quiet_bin rfl rfl rfl (fun W => bn_mul4 W _ _ (k : Int) (by omega) (by omega))) ?_
  refine WL.op rfl rfl rfl (Go.Proofs.Ytnjlcimeaoedcaa.W.quiet_assign rfl rfl) ?_
  refine WL.nil ?_
  refine TW.mid (fun a W => ∃ (kk : Nat) (iz : In), Kn Try.f4.ntmps [(11, .int .i64 (kk : Int)), (16, .int .i64 (4 * (kk : Int))), (15, .int .i64 0), (13, .pointer (some ⟨bx, 0, none⟩)), (14, .pointer (some ⟨bn, 0, none⟩)), (12, .int .i64 ((j : Nat) : Int)), (7, .slice (some ⟨gx, ox, none⟩) P.length cp), (8, .slice (some ⟨gw, 0, none⟩) (wrdD P P.length).length c1), (9, .slice b1 (labD P s P.length).length d1)] a ∧ Fr (fun _ => False) w2 W ∧ Rw W bx #[.int .i64 x.k, .int .i64 x.op, .int .i64 x.rd, .int .i64 x.r1, .int .i64 x.r2, .int .i64 x.imm, .int .i64 x.lab] 40 ∧ Rw W bn #[.int .i64 iz.op, .int .i64 iz.rd, .int .i64 iz.r1, .int .i64 iz.r2, .int .i64 iz.imm] 38 ∧ kk ≤ 100000 ∧ (wrdD P (j + 1)).length = kk + 1 + (if x.k = 5 ∧ L.length = 2 then 1 else 0) ∧ (isTo x = true → 4 * (kk : Int) + iz.imm = 4 * sumK s j + way)) ?_ ?_
  ·
    obtain ⟨b3, hb3⟩ : ∃ q, (x.k == 3) = q := ⟨_, rfl⟩
    obtain ⟨bo, hbo⟩ : ∃ q, (i0.op == contr x.op) = q := ⟨_, rfl⟩
    have Bb3 : ∀ (xo yo : Operand) (W : World), (do eqGuard .eql 3 xo yo (.int .i64 x.k) (.int .i64 3); binOp .eql 3 (.int .i64 x.k) (.int .i64 3) : Sem Value).run Try.prog W = .ok (.bool b3) W := fun xo yo W => by rw [← hb3]; exact bn_eq W xo yo x.k (3)
    have Bbo : ∀ (xo yo : Operand) (W : World), (do eqGuard .eql 3 xo yo (.int .i64 i0.op) (.int .i64 (contr x.op)); binOp .eql 3 (.int .i64 i0.op) (.int .i64 (contr x.op)) : Sem Value).run Try.prog W = .ok (.bool bo) W := fun xo yo W => by rw [← hbo]; exact bn_eq W xo yo i0.op ((contr x.op))
    have LK : ∀ W, Fr (fun _ => False) V W → (Instr.loadAt 3 (.pointer (some ⟨bx, 0, none⟩))).run Try.prog W = .ok (.int .i64 x.k) W := fun W hW => ld_int _ _ _ ((rx.fr hW id).cell rfl)
    have LO : ∀ W, Fr (fun _ => False) V W → (Instr.loadAt 3 (.pointer (some ⟨bn, 0, none⟩))).run Try.prog W = .ok (.int .i64 i0.op) W := fun W hW => ld_int _ _ _ ((rn.fr hW id).cell rfl)
    have LX : ∀ W, Fr (fun _ => False) V W → (Instr.loadAt 3 (.pointer (some ⟨bx, 0 + 1, none⟩))).run Try.prog W = .ok (.int .i64 x.op) W := fun W hW => ld_int _ _ _ ((rx.fr hW id).cell rfl)
    have KC : ∀ W, Fr (fun _ => False) V W → Calls Try.prog 11 #[.int .i64 x.op] W fun e w' => e = .returned (.int .i64 (contr x.op)) ∧ Fr (fun _ => False) V w' := fun W hW => (c11 x.op W).mono fun e w' q => ⟨q.1, by rw [← q.2]; exact hW⟩
    by_cases hfar : x.k = 3 ∧ L = [⟨contr x.op, 0, x.r1, x.r2, 8⟩, ⟨3, 0, 0, 0, way - 4⟩]
    · obtain ⟨h3, hL⟩ := hfar
      have hL2 : L.length = 2 := by rw [hL]; rfl
      obtain ⟨hkl1, hkv1⟩ := hwat 1 (by omega)
      obtain ⟨i1, hi1⟩ : ∃ z, L.getD 1 in0 = z := ⟨_, rfl⟩
      rw [hi1] at hkv1
      have hif1 : fitI i1 = true := hfits i1 (by rw [← hi1, List.getD_eq_getElem?_getD, List.getElem?_eq_getElem (show 1 < L.length by omega)]; exact List.getElem_mem (show 1 < L.length by omega))
      have e0 : i0 = ⟨contr x.op, 0, x.r1, x.r2, 8⟩ := by rw [← hi0, hL]; rfl
      have e1 : i1 = ⟨3, 0, 0, 0, way - 4⟩ := by rw [← hi1, hL]; rfl
      have c3 : b3 = true := by rw [← hb3, h3]; rfl
      have co : bo = true := by rw [← hbo, e0]; simp
      subst c3
      subst co
      obtain ⟨gw', ew, hgw1⟩ := hu (k + 1) hkl1
      cases ew
      rw [hkv1] at hgw1
      have hgw2 := hf.cell hgw1 id
      have LI : ∀ W, Fr (fun _ => False) V W → (Instr.loadAt 3 (.pointer (some ⟨bn, 0 + 4, none⟩))).run Try.prog W = .ok (.int .i64 8) W := fun W hW => ld_int _ _ _ (by have := (rn.fr hW id).cell (j := 4) rfl; rw [e0] at this; exact this)
      have LW : ∀ W, Fr (fun _ => False) V W → (Instr.loadAt 35 (.pointer (some ⟨gw, 0 + (k + 1), none⟩))).run Try.prog W = .ok (.int .u32 (encI i1)) W := fun W hW => ld_u _ _ _ (hW.cell (by rw [Nat.zero_add]; exact hgw2) id)
      have Bb8 := fun xo yo W => (bn_eq W xo yo 8 8).trans (by rw [show ((8 : Int) == 8) = true by rfl])
      have BA := fun xo yo W => bn_add W xo yo (k : Int) 1 (by omega) (by omega)
      have Bbl := fun xo yo W => (bn_lt W xo yo ((k : Int) + 1) ((wrdD P P.length).length : Int)).trans (by rw [decide_eq_true (by omega)])
      have IW1 := fun W => ixu W gw 0 (wrdD P P.length).length c1 (k + 1) hkl1
      have KF : ∀ W, Fr (fun _ => False) V W → Calls Try.prog 12 #[.int .u32 (encI i1)] W fun e w' => e = .returned (.bool true) ∧ Fr (fun _ => False) V w' := fun W hW => (p_far i1 hif1 W).mono fun e w' q => ⟨by rw [q.1, e1]; rfl, hW.trans q.2⟩
      refine TW.to (fun W => Fr (fun _ => False) V W) (Fr.refl _ _) ?_
      refine T.sregD (by kernel_rfl) (by kernel_rfl) (fun W hW => hW.drewN 1) [(109, .bool true), (11, .int .i64 (k : Int)), (16, .int .i64 (4 * (k : Int))), (15, .int .i64 0), (13, .pointer (some ⟨bx, 0, none⟩)), (14, .pointer (some ⟨bn, 0, none⟩)), (12, .int .i64 ((j : Nat) : Int)), (7, .slice (some ⟨gx, ox, none⟩) P.length cp), (8, .slice (some ⟨gw, 0, none⟩) (wrdD P P.length).length c1), (9, .slice b1 (labD P s P.length).length d1)] ?_ ?_
      ·
        refine Go.Proofs.Ytnjlcimeaoedcaa.W.op rfl rfl rfl (Go.Proofs.Ytnjlcimeaoedcaa.W.quiet_field rfl rfl (fun W => pf0 W _ _)) ?_
        refine Go.Proofs.Ytnjlcimeaoedcaa.W.op rfl rfl rfl (Go.Proofs.Ytnjlcimeaoedcaa.W.quiet_load rfl rfl (by first | exact LK | exact LO | exact LX | exact LI | exact LW)) ?_
        refine Go.Proofs.Ytnjlcimeaoedcaa.W.op rfl rfl rfl (Go.Proofs.Ytnjlcimeaoedcaa.W.quiet_bin rfl rfl rfl (by first | exact Bb3 _ _ | exact Bbo _ _ | exact Bb8 _ _ | exact Bbl _ _ | exact BA _ _)) ?_
        refine Go.Proofs.Ytnjlcimeaoedcaa.W.op rfl rfl rfl (Go.Proofs.Ytnjlcimeaoedcaa.W.quiet_move rfl rfl) ?_
        refine Go.Proofs.Ytnjlcimeaoedcaa.W.op rfl rfl rfl (Go.Proofs.Ytnjlcimeaoedcaa.W.quiet_field rfl rfl (fun W => pn0 W _ _)) ?_
        refine Go.Proofs.Ytnjlcimeaoedcaa.W.op rfl rfl rfl (Go.Proofs.Ytnjlcimeaoedcaa.W.quiet_load rfl rfl (by first | exact LK | exact LO | exact LX | exact LI | exact LW)) ?_
        refine Go.Proofs.Ytnjlcimeaoedcaa.W.op rfl rfl rfl (Go.Proofs.Ytnjlcimeaoedcaa.W.quiet_field rfl rfl (fun W => pf1 W _ _)) ?_
        refine Go.Proofs.Ytnjlcimeaoedcaa.W.op rfl rfl rfl (Go.Proofs.Ytnjlcimeaoedcaa.W.quiet_field rfl rfl (fun W => pn0 W _ _)) ?_
        refine Go.Proofs.Ytnjlcimeaoedcaa.W.op rfl rfl rfl (Go.Proofs.Ytnjlcimeaoedcaa.W.quiet_load rfl rfl (by first | exact LK | exact LO | exact LX | exact LI | exact LW)) ?_
        refine Go.Proofs.Ytnjlcimeaoedcaa.W.op rfl rfl rfl (Go.Proofs.Ytnjlcimeaoedcaa.W.quiet_call (hr := KC) rfl rfl (fun W => cf_pcn W _)) ?_
        refine Go.Proofs.Ytnjlcimeaoedcaa.W.op rfl rfl rfl (Go.Proofs.Ytnjlcimeaoedcaa.W.quiet_bin rfl rfl rfl (by first | exact Bb3 _ _ | exact Bbo _ _ | exact Bb8 _ _ | exact Bbl _ _ | exact BA _ _)) ?_
        refine Go.Proofs.Ytnjlcimeaoedcaa.W.op rfl rfl rfl (Go.Proofs.Ytnjlcimeaoedcaa.W.quiet_pick rfl rfl rfl) ?_
        refine Go.Proofs.Ytnjlcimeaoedcaa.W.op rfl rfl rfl (Go.Proofs.Ytnjlcimeaoedcaa.W.quiet_move rfl rfl) ?_
        refine Go.Proofs.Ytnjlcimeaoedcaa.W.op rfl rfl rfl (Go.Proofs.Ytnjlcimeaoedcaa.W.quiet_field rfl rfl (fun W => pn4 W _ _)) ?_
        refine Go.Proofs.Ytnjlcimeaoedcaa.W.op rfl rfl rfl (Go.Proofs.Ytnjlcimeaoedcaa.W.quiet_load rfl rfl (by first | exact LK | exact LO | exact LX | exact LI | exact LW)) ?_
        refine Go.Proofs.Ytnjlcimeaoedcaa.W.op rfl rfl rfl (Go.Proofs.Ytnjlcimeaoedcaa.W.quiet_bin rfl rfl rfl (by first | exact Bb3 _ _ | exact Bbo _ _ | exact Bb8 _ _ | exact Bbl _ _ | exact BA _ _)) ?_
        refine Go.Proofs.Ytnjlcimeaoedcaa.W.op rfl rfl rfl (Go.Proofs.Ytnjlcimeaoedcaa.W.quiet_pick rfl rfl rfl) ?_
        refine Go.Proofs.Ytnjlcimeaoedcaa.W.op rfl rfl rfl (Go.Proofs.Ytnjlcimeaoedcaa.W.quiet_move rfl rfl) ?_
        refine Go.Proofs.Ytnjlcimeaoedcaa.W.op rfl rfl rfl (Go.Proofs.Ytnjlcimeaoedcaa.W.quiet_move rfl rfl) ?_
        refine Go.Proofs.Ytnjlcimeaoedcaa.W.op rfl rfl rfl (Go.Proofs.Ytnjlcimeaoedcaa.W.quiet_bin rfl rfl rfl (by first | exact Bb3 _ _ | exact Bbo _ _ | exact Bb8 _ _ | exact Bbl _ _ | exact BA _ _)) ?_
        refine Go.Proofs.Ytnjlcimeaoedcaa.W.op rfl rfl rfl (Go.Proofs.Ytnjlcimeaoedcaa.W.quiet_move rfl rfl) ?_
        refine Go.Proofs.Ytnjlcimeaoedcaa.W.op rfl rfl rfl (Go.Proofs.Ytnjlcimeaoedcaa.W.quiet_len rfl rfl (fun W => ln_w W _ _ _)) ?_
        refine Go.Proofs.Ytnjlcimeaoedcaa.W.op rfl rfl rfl (Go.Proofs.Ytnjlcimeaoedcaa.W.quiet_bin rfl rfl rfl (by first | exact Bb3 _ _ | exact Bbo _ _ | exact Bb8 _ _ | exact Bbl _ _ | exact BA _ _)) ?_
        refine Go.Proofs.Ytnjlcimeaoedcaa.W.op rfl rfl rfl (Go.Proofs.Ytnjlcimeaoedcaa.W.quiet_pick rfl rfl rfl) ?_
        refine Go.Proofs.Ytnjlcimeaoedcaa.W.op rfl rfl rfl (Go.Proofs.Ytnjlcimeaoedcaa.W.quiet_move rfl rfl) ?_
        refine Go.Proofs.Ytnjlcimeaoedcaa.W.op rfl rfl rfl (Go.Proofs.Ytnjlcimeaoedcaa.W.quiet_move rfl rfl) ?_
        refine Go.Proofs.Ytnjlcimeaoedcaa.W.op rfl rfl rfl (Go.Proofs.Ytnjlcimeaoedcaa.W.quiet_move rfl rfl) ?_
        refine Go.Proofs.Ytnjlcimeaoedcaa.W.op rfl rfl rfl (Go.Proofs.Ytnjlcimeaoedcaa.W.quiet_bin rfl rfl rfl (by first | exact Bb3 _ _ | exact Bbo _ _ | exact Bb8 _ _ | exact Bbl _ _ | exact BA _ _)) ?_
        refine Go.Proofs.Ytnjlcimeaoedcaa.W.op rfl rfl rfl (Go.Proofs.Ytnjlcimeaoedcaa.W.quiet_index rfl rfl rfl IW1) ?_
        refine Go.Proofs.Ytnjlcimeaoedcaa.W.op rfl rfl rfl (Go.Proofs.Ytnjlcimeaoedcaa.W.quiet_load rfl rfl (by first | exact LK | exact LO | exact LX | exact LI | exact LW)) ?_
        refine Go.Proofs.Ytnjlcimeaoedcaa.W.op rfl rfl rfl (Go.Proofs.Ytnjlcimeaoedcaa.W.quiet_call (hr := KF) rfl rfl (fun W => cf_fr W _)) ?_
        refine Go.Proofs.Ytnjlcimeaoedcaa.W.op rfl rfl rfl (Go.Proofs.Ytnjlcimeaoedcaa.W.quiet_pick rfl rfl rfl) ?_
        exact Go.Proofs.Ytnjlcimeaoedcaa.W.nil (fun a h => (by (repeat (refine Kn.cons h rfl ?_)); exact h.base))
      refine T.cond rfl (fun _ => ?_) (fun hb => by cases hb)
      refine T.tw fun V2 hV2 => ?_
      refine TW.sreg ?_
      refine WL.op rfl rfl rfl (Go.Proofs.Ytnjlcimeaoedcaa.W.quiet_move rfl rfl) ?_
      refine WL.op rfl rfl rfl (Go.Proofs.Ytnjlcimeaoedcaa.W.quiet_bin rfl rfl rfl (fun W => BA _ _ W)) ?_
      refine WL.op rfl rfl rfl (Go.Proofs.Ytnjlcimeaoedcaa.W.quiet_assign rfl rfl) ?_
      refine WL.nil ?_
      refine TW.sreg ?_
      refine WL.op rfl rfl rfl (Go.Proofs.Ytnjlcimeaoedcaa.W.quiet_move rfl rfl) ?_
      refine WL.op rfl rfl rfl (Go.Proofs.Ytnjlcimeaoedcaa.W.quiet_bin rfl rfl rfl (fun W => (bn_add W _ _ (4 * (k : Int)) 4 (by omega) (by omega)).trans (by rw [show 4 * (k : Int) + 4 = 4 * (((k + 1 : Nat)) : Int) by omega]))) ?_
      refine WL.op rfl rfl rfl (Go.Proofs.Ytnjlcimeaoedcaa.W.quiet_assign rfl rfl) ?_
      refine WL.nil ?_
      refine TW.reg ?_
      refine WL.op rfl rfl rfl (Go.Proofs.Ytnjlcimeaoedcaa.W.quiet_move rfl rfl) ?_
      refine WL.op rfl rfl rfl (Go.Proofs.Ytnjlcimeaoedcaa.W.quiet_move rfl rfl) ?_
      refine WL.op rfl rfl rfl (Go.Proofs.Ytnjlcimeaoedcaa.W.quiet_index rfl rfl rfl IW1) ?_
      refine WL.ld rfl rfl rfl rfl rfl (ld_u _ _ _ (by rw [Nat.zero_add]; exact hV2.cell hgw2 id)) ?_
      refine WL.call (hr := p_dec i1 hif1 V2) rfl rfl rfl rfl rfl (fun W => cf_dec W _) ?_
      rintro e V3 ⟨rfl, f3'⟩
      refine ⟨_, rfl, ?_⟩
      refine WL.op rfl rfl rfl (Go.Proofs.Ytnjlcimeaoedcaa.W.quiet_move rfl rfl) ?_
      refine WL.ext rfl rfl rfl rfl rfl rfl ?_
      refine WL.ext rfl rfl rfl rfl rfl rfl ?_
      have hv := hV2.trans f3'
      have rn3 := rn.fr hv id
      have rx3 := rx.fr hv id
      refine WL.store rfl rfl rfl rfl rfl (pst_in2 _ _ _ _ _ _ _ _ rn3 rfl) ?_
      have rn4 := rn3.putIn (.int .i64 i1.op) (.int .i64 i1.rd) (.int .i64 i1.r1) (.int .i64 i1.r2) (.int .i64 i1.imm)
      have hf4 := fr_put5 (hf.trans hv) hbn (.int .i64 i1.op) (.int .i64 i1.rd) (.int .i64 i1.r1) (.int .i64 i1.r2) (.int .i64 i1.imm)
      have rx4 := rx3.put5 hxn (.int .i64 i1.op) (.int .i64 i1.rd) (.int .i64 i1.r1) (.int .i64 i1.r2) (.int .i64 i1.imm)
      generalize ((((V3.setCell ⟨bn, 0, none⟩ (.int .i64 i1.op)).setCell ⟨bn, 1, none⟩ (.int .i64 i1.rd)).setCell ⟨bn, 2, none⟩ (.int .i64 i1.r1)).setCell ⟨bn, 3, none⟩ (.int .i64 i1.r2)).setCell ⟨bn, 4, none⟩ (.int .i64 i1.imm) = V4 at *
      refine WL.op rfl rfl rfl (Go.Proofs.Ytnjlcimeaoedcaa.W.quiet_assign rfl rfl) ?_
      refine WL.end ?_
      refine Xw.any fun b h => ⟨k + 1, i1, (by (repeat (refine Kn.cons h rfl ?_)); exact h.base), hf4, rx4, rn4, by omega, by rw [hws2, hL2, if_neg (by omega)], fun _ => by rw [e1]; simp only; omega⟩
    have hno : b3 = true → bo = false := fun e => by
      have h3 : x.k = 3 := by rw [← hb3] at e; simpa using e
      rw [← hbo]
      rcases hform with ⟨e, _⟩ | ⟨e, _⟩ | ⟨_, ne, eL⟩ | ⟨_, eL⟩ | ⟨e, _⟩ | ⟨e, _⟩
      · omega
      · omega
      · have : i0 = ⟨x.op, x.rd, x.r1, x.r2, way⟩ := by rw [← hi0, eL]; rfl
        rw [this]
        simpa using ne
      · exact absurd ⟨h3, eL⟩ hfar
      · omega
      · omega
    have hlenL : L.length = 1 + (if x.k = 5 ∧ L.length = 2 then 1 else 0) := by
      rcases hform with ⟨e, eL⟩ | ⟨e, _⟩ | ⟨e, _, eL⟩ | ⟨e, eL⟩ | ⟨e, eL⟩ | ⟨e, eL⟩
      · rw [if_neg (by omega), eL]; rfl
      · omega
      · rw [if_neg (by omega), eL]; rfl
      · exact absurd ⟨e, eL⟩ hfar
      · rw [if_neg (by omega), eL]; rfl
      · have := numI_len x.rd x.imm
        rw [← eL] at this
        rcases this with h | h
        · rw [if_neg (by omega)]; omega
        · rw [if_pos ⟨e, h⟩]; omega
    have hwayN : isTo x = true → 4 * (k : Int) + i0.imm = 4 * sumK s j + way := fun hT => by
      unfold isTo at hT
      simp only [Bool.or_eq_true, beq_iff_eq] at hT
      rcases hform with ⟨e, eL⟩ | ⟨e, _⟩ | ⟨e, _, eL⟩ | ⟨e, eL⟩ | ⟨e, eL⟩ | ⟨e, eL⟩
      · omega
      · omega
      · have : i0 = ⟨x.op, x.rd, x.r1, x.r2, way⟩ := by rw [← hi0, eL]; rfl
        rw [this, ← hwj]
      · exact absurd ⟨e, eL⟩ hfar
      · have : i0 = ⟨3, x.rd, 0, 0, way⟩ := by rw [← hi0, eL]; rfl
        rw [this, ← hwj]
      · omega
    refine TW.to (fun W => Fr (fun _ => False) V W) (Fr.refl _ _) ?_
    refine T.sregD (by kernel_rfl) (by kernel_rfl) (fun W hW => hW.drewN 1) [(109, .bool false), (11, .int .i64 (k : Int)), (16, .int .i64 (4 * (k : Int))), (15, .int .i64 0), (13, .pointer (some ⟨bx, 0, none⟩)), (14, .pointer (some ⟨bn, 0, none⟩)), (12, .int .i64 ((j : Nat) : Int)), (7, .slice (some ⟨gx, ox, none⟩) P.length cp), (8, .slice (some ⟨gw, 0, none⟩) (wrdD P P.length).length c1), (9, .slice b1 (labD P s P.length).length d1)] ?_ ?_
    · cases b3
      all_goals try (have e9 := hno rfl; subst e9)
      all_goals
        refine Go.Proofs.Ytnjlcimeaoedcaa.W.op rfl rfl rfl (Go.Proofs.Ytnjlcimeaoedcaa.W.quiet_field rfl rfl (fun W => pf0 W _ _)) ?_
        refine Go.Proofs.Ytnjlcimeaoedcaa.W.op rfl rfl rfl (Go.Proofs.Ytnjlcimeaoedcaa.W.quiet_load rfl rfl (by first | exact LK | exact LO | exact LX)) ?_
        refine Go.Proofs.Ytnjlcimeaoedcaa.W.op rfl rfl rfl (Go.Proofs.Ytnjlcimeaoedcaa.W.quiet_bin rfl rfl rfl (by first | exact Bb3 _ _ | exact Bbo _ _)) ?_
        refine Go.Proofs.Ytnjlcimeaoedcaa.W.op rfl rfl rfl (Go.Proofs.Ytnjlcimeaoedcaa.W.quiet_move rfl rfl) ?_
        first | refine Go.Proofs.Ytnjlcimeaoedcaa.W.skip rfl rfl rfl ?_ | refine Go.Proofs.Ytnjlcimeaoedcaa.W.op rfl rfl rfl (Go.Proofs.Ytnjlcimeaoedcaa.W.quiet_field rfl rfl (fun W => pn0 W _ _)) ?_
        first | refine Go.Proofs.Ytnjlcimeaoedcaa.W.skip rfl rfl rfl ?_ | refine Go.Proofs.Ytnjlcimeaoedcaa.W.op rfl rfl rfl (Go.Proofs.Ytnjlcimeaoedcaa.W.quiet_load rfl rfl (by first | exact LK | exact LO | exact LX)) ?_
        first | refine Go.Proofs.Ytnjlcimeaoedcaa.W.skip rfl rfl rfl ?_ | refine Go.Proofs.Ytnjlcimeaoedcaa.W.op rfl rfl rfl (Go.Proofs.Ytnjlcimeaoedcaa.W.quiet_field rfl rfl (fun W => pf1 W _ _)) ?_
        first | refine Go.Proofs.Ytnjlcimeaoedcaa.W.skip rfl rfl rfl ?_ | refine Go.Proofs.Ytnjlcimeaoedcaa.W.op rfl rfl rfl (Go.Proofs.Ytnjlcimeaoedcaa.W.quiet_field rfl rfl (fun W => pn0 W _ _)) ?_
        first | refine Go.Proofs.Ytnjlcimeaoedcaa.W.skip rfl rfl rfl ?_ | refine Go.Proofs.Ytnjlcimeaoedcaa.W.op rfl rfl rfl (Go.Proofs.Ytnjlcimeaoedcaa.W.quiet_load rfl rfl (by first | exact LK | exact LO | exact LX)) ?_
        first | refine Go.Proofs.Ytnjlcimeaoedcaa.W.skip rfl rfl rfl ?_ | refine Go.Proofs.Ytnjlcimeaoedcaa.W.op rfl rfl rfl (Go.Proofs.Ytnjlcimeaoedcaa.W.quiet_call (hr := KC) rfl rfl (fun W => cf_pcn W _)) ?_
        first | refine Go.Proofs.Ytnjlcimeaoedcaa.W.skip rfl rfl rfl ?_ | refine Go.Proofs.Ytnjlcimeaoedcaa.W.op rfl rfl rfl (Go.Proofs.Ytnjlcimeaoedcaa.W.quiet_bin rfl rfl rfl (by first | exact Bb3 _ _ | exact Bbo _ _)) ?_
        refine Go.Proofs.Ytnjlcimeaoedcaa.W.op rfl rfl rfl (Go.Proofs.Ytnjlcimeaoedcaa.W.quiet_pick rfl rfl rfl) ?_
        refine Go.Proofs.Ytnjlcimeaoedcaa.W.op rfl rfl rfl (Go.Proofs.Ytnjlcimeaoedcaa.W.quiet_move rfl rfl) ?_
        refine Go.Proofs.Ytnjlcimeaoedcaa.W.skip rfl rfl rfl ?_
        refine Go.Proofs.Ytnjlcimeaoedcaa.W.skip rfl rfl rfl ?_
        refine Go.Proofs.Ytnjlcimeaoedcaa.W.skip rfl rfl rfl ?_
        refine Go.Proofs.Ytnjlcimeaoedcaa.W.op rfl rfl rfl (Go.Proofs.Ytnjlcimeaoedcaa.W.quiet_pick rfl rfl rfl) ?_
        refine Go.Proofs.Ytnjlcimeaoedcaa.W.op rfl rfl rfl (Go.Proofs.Ytnjlcimeaoedcaa.W.quiet_move rfl rfl) ?_
        refine Go.Proofs.Ytnjlcimeaoedcaa.W.skip rfl rfl rfl ?_
        refine Go.Proofs.Ytnjlcimeaoedcaa.W.skip rfl rfl rfl ?_
        refine Go.Proofs.Ytnjlcimeaoedcaa.W.skip rfl rfl rfl ?_
        refine Go.Proofs.Ytnjlcimeaoedcaa.W.skip rfl rfl rfl ?_
        refine Go.Proofs.Ytnjlcimeaoedcaa.W.skip rfl rfl rfl ?_
        refine Go.Proofs.Ytnjlcimeaoedcaa.W.op rfl rfl rfl (Go.Proofs.Ytnjlcimeaoedcaa.W.quiet_pick rfl rfl rfl) ?_
        refine Go.Proofs.Ytnjlcimeaoedcaa.W.op rfl rfl rfl (Go.Proofs.Ytnjlcimeaoedcaa.W.quiet_move rfl rfl) ?_
        refine Go.Proofs.Ytnjlcimeaoedcaa.W.skip rfl rfl rfl ?_
        refine Go.Proofs.Ytnjlcimeaoedcaa.W.skip rfl rfl rfl ?_
        refine Go.Proofs.Ytnjlcimeaoedcaa.W.skip rfl rfl rfl ?_
        refine Go.Proofs.Ytnjlcimeaoedcaa.W.skip rfl rfl rfl ?_
        refine Go.Proofs.Ytnjlcimeaoedcaa.W.skip rfl rfl rfl ?_
        refine Go.Proofs.Ytnjlcimeaoedcaa.W.skip rfl rfl rfl ?_
        refine Go.Proofs.Ytnjlcimeaoedcaa.W.op rfl rfl rfl (Go.Proofs.Ytnjlcimeaoedcaa.W.quiet_pick rfl rfl rfl) ?_
        exact Go.Proofs.Ytnjlcimeaoedcaa.W.nil (fun a h => (by (repeat (refine Kn.cons h rfl ?_)); exact h.base))
    refine T.cond rfl (fun hb => by cases hb) (fun _ => ?_)
    refine T.tw fun V2 hV2 => ?_
    refine TW.skipx ?_
    refine Xw.any fun b h => ⟨k, i0, (by (repeat (refine Kn.cons h rfl ?_)); exact h.base), hf.trans hV2, rx.fr hV2 id, rn.fr hV2 id, by omega, by rw [hws2]; omega, hwayN⟩
  · have hform5 : x.k ≠ 5 ∧ True ∨ L = numI x.rd x.imm := by
      rcases hform with ⟨e, _⟩ | ⟨e, _⟩ | ⟨e, _⟩ | ⟨e, _⟩ | ⟨e, _⟩ | ⟨_, e⟩
      · exact .inl ⟨by omega, trivial⟩
      · exact .inl ⟨by omega, trivial⟩
      · exact .inl ⟨by omega, trivial⟩
      · exact .inl ⟨by omega, trivial⟩
      · exact .inl ⟨by omega, trivial⟩
      · exact .inr e
    clear rx rn hf hform hwat hkv hgw hif hi0 hwj hk B15 hws2
    rintro b V ⟨k, iz, hkn, hf, rx, rn, hkk, hws2, hwy⟩
    refine TW.app ?_ hkn
    clear hkn b
    refine TW.seq ?_
    obtain ⟨b3, hb3⟩ : ∃ z, (x.k == 3) = z := ⟨_, rfl⟩
    obtain ⟨b4, hb4⟩ : ∃ z, (x.k == 4) = z := ⟨_, rfl⟩
    have hTo : isTo x = (b3 || b4) := by rw [← hb3, ← hb4]; rfl
    have Bb3 : ∀ (xo yo : Operand) (W : World), (do eqGuard .eql 3 xo yo (.int .i64 x.k) (.int .i64 3); binOp .eql 3 (.int .i64 x.k) (.int .i64 3) : Sem Value).run Try.prog W = .ok (.bool b3) W := fun xo yo W => by rw [← hb3]; exact bn_eq W xo yo x.k (3)
    have Bb4 : ∀ (xo yo : Operand) (W : World), (do eqGuard .eql 3 xo yo (.int .i64 x.k) (.int .i64 4); binOp .eql 3 (.int .i64 x.k) (.int .i64 4) : Sem Value).run Try.prog W = .ok (.bool b4) W := fun xo yo W => by rw [← hb4]; exact bn_eq W xo yo x.k (4)
    have LK : ∀ W, Fr (fun _ => False) V W → (Instr.loadAt 3 (.pointer (some ⟨bx, 0, none⟩))).run Try.prog W = .ok (.int .i64 x.k) W := fun W hW => ld_int _ _ _ ((rx.fr hW id).cell rfl)
    refine TW.to (fun W => Fr (fun _ => False) V W) (Fr.refl _ _) ?_
    refine T.sregD (by kernel_rfl) (by kernel_rfl) (fun W hW => hW.drewN 1) [(152, .bool false), (11, .int .i64 (k : Int)), (16, .int .i64 (4 * (k : Int))), (15, .int .i64 0), (13, .pointer (some ⟨bx, 0, none⟩)), (14, .pointer (some ⟨bn, 0, none⟩)), (12, .int .i64 ((j : Nat) : Int)), (7, .slice (some ⟨gx, ox, none⟩) P.length cp), (8, .slice (some ⟨gw, 0, none⟩) (wrdD P P.length).length c1), (9, .slice b1 (labD P s P.length).length d1)] ?_ ?_
    · by_cases hT : isTo x = true
      · obtain ⟨lb, hlb, hlbl, hlbv⟩ := hto hT
        have hway := hwy hT
        have LL : ∀ W, Fr (fun _ => False) V W → (Instr.loadAt 3 (.pointer (some ⟨bx, 0 + 6, none⟩))).run Try.prog W = .ok (.int .i64 (lb : Int)) W := fun W hW => ld_int _ _ _ (by have := (rx.fr hW id).cell (j := 6) rfl; rw [hlb] at this; exact this)
        have LI : ∀ W, Fr (fun _ => False) V W → (Instr.loadAt 3 (.pointer (some ⟨bn, 0 + 4, none⟩))).run Try.prog W = .ok (.int .i64 iz.imm) W := fun W hW => ld_int _ _ _ ((rn.fr hW id).cell rfl)
        obtain ⟨gm, em, hm⟩ := hi lb hlbl
        rw [hlbv] at hm
        have LM : ∀ W, Fr (fun _ => False) V W → (Instr.loadAt 3 (.pointer (some ⟨gm, 0 + lb, none⟩))).run Try.prog W = .ok (.int .i64 (4 * sumK s j + way)) W := fun W hW => ld_int _ _ _ ((hf.trans hW).cell (by rw [Nat.zero_add]; exact hm) id)
        have IM := fun W => ixi W gm 0 (labD P s P.length).length d1 lb hlbl
        subst em
        have BZ := fun xo yo W => (bn_neE W xo yo 0 0).trans (by rw [show ((0 : Int) != 0) = false by rfl])
        have BG := fun xo yo W => (bn_ge W xo yo (lb : Int) ((labD P s P.length).length : Int)).trans (by rw [decide_eq_false (by omega)])
        have BA := fun xo yo W => (bn_add W xo yo (4 * (k : Int)) iz.imm (by omega) (by omega)).trans (by rw [hway])
        have BN := fun xo yo W => (bn_ne W xo yo (4 * sumK s j + way) (4 * sumK s j + way)).trans (by rw [show ((4 * sumK s j + way) != (4 * sumK s j + way)) = false by simp])
        cases b3
        · have e4 : b4 = true := by rw [hT] at hTo; simpa using hTo.symm
          subst e4
          refine Go.Proofs.Ytnjlcimeaoedcaa.W.op rfl rfl rfl (Go.Proofs.Ytnjlcimeaoedcaa.W.quiet_field rfl rfl (fun W => pf0 W _ _)) ?_
          refine Go.Proofs.Ytnjlcimeaoedcaa.W.op rfl rfl rfl (Go.Proofs.Ytnjlcimeaoedcaa.W.quiet_load rfl rfl (by first | exact LK | exact LL | exact LI | exact LM)) ?_
          refine Go.Proofs.Ytnjlcimeaoedcaa.W.op rfl rfl rfl (Go.Proofs.Ytnjlcimeaoedcaa.W.quiet_bin rfl rfl rfl (by first | exact Bb3 _ _ | exact Bb4 _ _ | exact BZ _ _ | exact BG _ _ | exact BA _ _ | exact BN _ _)) ?_
          refine Go.Proofs.Ytnjlcimeaoedcaa.W.op rfl rfl rfl (Go.Proofs.Ytnjlcimeaoedcaa.W.quiet_move rfl rfl) ?_
          first | refine Go.Proofs.Ytnjlcimeaoedcaa.W.skip rfl rfl rfl ?_ | refine Go.Proofs.Ytnjlcimeaoedcaa.W.op rfl rfl rfl (Go.Proofs.Ytnjlcimeaoedcaa.W.quiet_field rfl rfl (fun W => pf0 W _ _)) ?_
          first | refine Go.Proofs.Ytnjlcimeaoedcaa.W.skip rfl rfl rfl ?_ | refine Go.Proofs.Ytnjlcimeaoedcaa.W.op rfl rfl rfl (Go.Proofs.Ytnjlcimeaoedcaa.W.quiet_load rfl rfl (by first | exact LK | exact LL | exact LI | exact LM)) ?_
          first | refine Go.Proofs.Ytnjlcimeaoedcaa.W.skip rfl rfl rfl ?_ | refine Go.Proofs.Ytnjlcimeaoedcaa.W.op rfl rfl rfl (Go.Proofs.Ytnjlcimeaoedcaa.W.quiet_bin rfl rfl rfl (by first | exact Bb3 _ _ | exact Bb4 _ _ | exact BZ _ _ | exact BG _ _ | exact BA _ _ | exact BN _ _)) ?_
          refine Go.Proofs.Ytnjlcimeaoedcaa.W.op rfl rfl rfl (Go.Proofs.Ytnjlcimeaoedcaa.W.quiet_pick rfl rfl rfl) ?_
          refine Go.Proofs.Ytnjlcimeaoedcaa.W.op rfl rfl rfl (Go.Proofs.Ytnjlcimeaoedcaa.W.quiet_move rfl rfl) ?_
          first | refine Go.Proofs.Ytnjlcimeaoedcaa.W.skip rfl rfl rfl ?_ | refine Go.Proofs.Ytnjlcimeaoedcaa.W.op rfl rfl rfl (Go.Proofs.Ytnjlcimeaoedcaa.W.quiet_move rfl rfl) ?_
          first | refine Go.Proofs.Ytnjlcimeaoedcaa.W.skip rfl rfl rfl ?_ | refine Go.Proofs.Ytnjlcimeaoedcaa.W.op rfl rfl rfl (Go.Proofs.Ytnjlcimeaoedcaa.W.quiet_bin rfl rfl rfl (by first | exact Bb3 _ _ | exact Bb4 _ _ | exact BZ _ _ | exact BG _ _ | exact BA _ _ | exact BN _ _)) ?_
          first | refine Go.Proofs.Ytnjlcimeaoedcaa.W.skip rfl rfl rfl ?_ | refine Go.Proofs.Ytnjlcimeaoedcaa.W.op rfl rfl rfl (Go.Proofs.Ytnjlcimeaoedcaa.W.quiet_move rfl rfl) ?_
          first | refine Go.Proofs.Ytnjlcimeaoedcaa.W.skip rfl rfl rfl ?_ | refine Go.Proofs.Ytnjlcimeaoedcaa.W.op rfl rfl rfl (Go.Proofs.Ytnjlcimeaoedcaa.W.quiet_field rfl rfl (fun W => pf2 W _ _)) ?_
          first | refine Go.Proofs.Ytnjlcimeaoedcaa.W.skip rfl rfl rfl ?_ | refine Go.Proofs.Ytnjlcimeaoedcaa.W.op rfl rfl rfl (Go.Proofs.Ytnjlcimeaoedcaa.W.quiet_load rfl rfl (by first | exact LK | exact LL | exact LI | exact LM)) ?_
          first | refine Go.Proofs.Ytnjlcimeaoedcaa.W.skip rfl rfl rfl ?_ | refine Go.Proofs.Ytnjlcimeaoedcaa.W.op rfl rfl rfl (Go.Proofs.Ytnjlcimeaoedcaa.W.quiet_move rfl rfl) ?_
          first | refine Go.Proofs.Ytnjlcimeaoedcaa.W.skip rfl rfl rfl ?_ | refine Go.Proofs.Ytnjlcimeaoedcaa.W.op rfl rfl rfl (Go.Proofs.Ytnjlcimeaoedcaa.W.quiet_len rfl rfl (fun W => ln_i W _ _ _)) ?_
          first | refine Go.Proofs.Ytnjlcimeaoedcaa.W.skip rfl rfl rfl ?_ | refine Go.Proofs.Ytnjlcimeaoedcaa.W.op rfl rfl rfl (Go.Proofs.Ytnjlcimeaoedcaa.W.quiet_bin rfl rfl rfl (by first | exact Bb3 _ _ | exact Bb4 _ _ | exact BZ _ _ | exact BG _ _ | exact BA _ _ | exact BN _ _)) ?_
          first | refine Go.Proofs.Ytnjlcimeaoedcaa.W.skip rfl rfl rfl ?_ | refine Go.Proofs.Ytnjlcimeaoedcaa.W.op rfl rfl rfl (Go.Proofs.Ytnjlcimeaoedcaa.W.quiet_pick rfl rfl rfl) ?_
          first | refine Go.Proofs.Ytnjlcimeaoedcaa.W.skip rfl rfl rfl ?_ | refine Go.Proofs.Ytnjlcimeaoedcaa.W.op rfl rfl rfl (Go.Proofs.Ytnjlcimeaoedcaa.W.quiet_move rfl rfl) ?_
          first | refine Go.Proofs.Ytnjlcimeaoedcaa.W.skip rfl rfl rfl ?_ | refine Go.Proofs.Ytnjlcimeaoedcaa.W.op rfl rfl rfl (Go.Proofs.Ytnjlcimeaoedcaa.W.quiet_move rfl rfl) ?_
          first | refine Go.Proofs.Ytnjlcimeaoedcaa.W.skip rfl rfl rfl ?_ | refine Go.Proofs.Ytnjlcimeaoedcaa.W.op rfl rfl rfl (Go.Proofs.Ytnjlcimeaoedcaa.W.quiet_field rfl rfl (fun W => pn4 W _ _)) ?_
          first | refine Go.Proofs.Ytnjlcimeaoedcaa.W.skip rfl rfl rfl ?_ | refine Go.Proofs.Ytnjlcimeaoedcaa.W.op rfl rfl rfl (Go.Proofs.Ytnjlcimeaoedcaa.W.quiet_load rfl rfl (by first | exact LK | exact LL | exact LI | exact LM)) ?_
          first | refine Go.Proofs.Ytnjlcimeaoedcaa.W.skip rfl rfl rfl ?_ | refine Go.Proofs.Ytnjlcimeaoedcaa.W.op rfl rfl rfl (Go.Proofs.Ytnjlcimeaoedcaa.W.quiet_bin rfl rfl rfl (by first | exact Bb3 _ _ | exact Bb4 _ _ | exact BZ _ _ | exact BG _ _ | exact BA _ _ | exact BN _ _)) ?_
          first | refine Go.Proofs.Ytnjlcimeaoedcaa.W.skip rfl rfl rfl ?_ | refine Go.Proofs.Ytnjlcimeaoedcaa.W.op rfl rfl rfl (Go.Proofs.Ytnjlcimeaoedcaa.W.quiet_move rfl rfl) ?_
          first | refine Go.Proofs.Ytnjlcimeaoedcaa.W.skip rfl rfl rfl ?_ | refine Go.Proofs.Ytnjlcimeaoedcaa.W.op rfl rfl rfl (Go.Proofs.Ytnjlcimeaoedcaa.W.quiet_field rfl rfl (fun W => pf2 W _ _)) ?_
          first | refine Go.Proofs.Ytnjlcimeaoedcaa.W.skip rfl rfl rfl ?_ | refine Go.Proofs.Ytnjlcimeaoedcaa.W.op rfl rfl rfl (Go.Proofs.Ytnjlcimeaoedcaa.W.quiet_load rfl rfl (by first | exact LK | exact LL | exact LI | exact LM)) ?_
          first | refine Go.Proofs.Ytnjlcimeaoedcaa.W.skip rfl rfl rfl ?_ | refine Go.Proofs.Ytnjlcimeaoedcaa.W.op rfl rfl rfl (Go.Proofs.Ytnjlcimeaoedcaa.W.quiet_index rfl rfl rfl IM) ?_
          first | refine Go.Proofs.Ytnjlcimeaoedcaa.W.skip rfl rfl rfl ?_ | refine Go.Proofs.Ytnjlcimeaoedcaa.W.op rfl rfl rfl (Go.Proofs.Ytnjlcimeaoedcaa.W.quiet_load rfl rfl (by first | exact LK | exact LL | exact LI | exact LM)) ?_
          first | refine Go.Proofs.Ytnjlcimeaoedcaa.W.skip rfl rfl rfl ?_ | refine Go.Proofs.Ytnjlcimeaoedcaa.W.op rfl rfl rfl (Go.Proofs.Ytnjlcimeaoedcaa.W.quiet_bin rfl rfl rfl (by first | exact Bb3 _ _ | exact Bb4 _ _ | exact BZ _ _ | exact BG _ _ | exact BA _ _ | exact BN _ _)) ?_
          first | refine Go.Proofs.Ytnjlcimeaoedcaa.W.skip rfl rfl rfl ?_ | refine Go.Proofs.Ytnjlcimeaoedcaa.W.op rfl rfl rfl (Go.Proofs.Ytnjlcimeaoedcaa.W.quiet_pick rfl rfl rfl) ?_
          refine Go.Proofs.Ytnjlcimeaoedcaa.W.op rfl rfl rfl (Go.Proofs.Ytnjlcimeaoedcaa.W.quiet_pick rfl rfl rfl) ?_
          exact Go.Proofs.Ytnjlcimeaoedcaa.W.nil (fun a h => (by (repeat (refine Kn.cons h rfl ?_)); exact h.base))
        ·
          refine Go.Proofs.Ytnjlcimeaoedcaa.W.op rfl rfl rfl (Go.Proofs.Ytnjlcimeaoedcaa.W.quiet_field rfl rfl (fun W => pf0 W _ _)) ?_
          refine Go.Proofs.Ytnjlcimeaoedcaa.W.op rfl rfl rfl (Go.Proofs.Ytnjlcimeaoedcaa.W.quiet_load rfl rfl (by first | exact LK | exact LL | exact LI | exact LM)) ?_
          refine Go.Proofs.Ytnjlcimeaoedcaa.W.op rfl rfl rfl (Go.Proofs.Ytnjlcimeaoedcaa.W.quiet_bin rfl rfl rfl (by first | exact Bb3 _ _ | exact Bb4 _ _ | exact BZ _ _ | exact BG _ _ | exact BA _ _ | exact BN _ _)) ?_
          refine Go.Proofs.Ytnjlcimeaoedcaa.W.op rfl rfl rfl (Go.Proofs.Ytnjlcimeaoedcaa.W.quiet_move rfl rfl) ?_
          first | refine Go.Proofs.Ytnjlcimeaoedcaa.W.skip rfl rfl rfl ?_ | refine Go.Proofs.Ytnjlcimeaoedcaa.W.op rfl rfl rfl (Go.Proofs.Ytnjlcimeaoedcaa.W.quiet_field rfl rfl (fun W => pf0 W _ _)) ?_
          first | refine Go.Proofs.Ytnjlcimeaoedcaa.W.skip rfl rfl rfl ?_ | refine Go.Proofs.Ytnjlcimeaoedcaa.W.op rfl rfl rfl (Go.Proofs.Ytnjlcimeaoedcaa.W.quiet_load rfl rfl (by first | exact LK | exact LL | exact LI | exact LM)) ?_
          first | refine Go.Proofs.Ytnjlcimeaoedcaa.W.skip rfl rfl rfl ?_ | refine Go.Proofs.Ytnjlcimeaoedcaa.W.op rfl rfl rfl (Go.Proofs.Ytnjlcimeaoedcaa.W.quiet_bin rfl rfl rfl (by first | exact Bb3 _ _ | exact Bb4 _ _ | exact BZ _ _ | exact BG _ _ | exact BA _ _ | exact BN _ _)) ?_
          refine Go.Proofs.Ytnjlcimeaoedcaa.W.op rfl rfl rfl (Go.Proofs.Ytnjlcimeaoedcaa.W.quiet_pick rfl rfl rfl) ?_
          refine Go.Proofs.Ytnjlcimeaoedcaa.W.op rfl rfl rfl (Go.Proofs.Ytnjlcimeaoedcaa.W.quiet_move rfl rfl) ?_
          first | refine Go.Proofs.Ytnjlcimeaoedcaa.W.skip rfl rfl rfl ?_ | refine Go.Proofs.Ytnjlcimeaoedcaa.W.op rfl rfl rfl (Go.Proofs.Ytnjlcimeaoedcaa.W.quiet_move rfl rfl) ?_
          first | refine Go.Proofs.Ytnjlcimeaoedcaa.W.skip rfl rfl rfl ?_ | refine Go.Proofs.Ytnjlcimeaoedcaa.W.op rfl rfl rfl (Go.Proofs.Ytnjlcimeaoedcaa.W.quiet_bin rfl rfl rfl (by first | exact Bb3 _ _ | exact Bb4 _ _ | exact BZ _ _ | exact BG _ _ | exact BA _ _ | exact BN _ _)) ?_
          first | refine Go.Proofs.Ytnjlcimeaoedcaa.W.skip rfl rfl rfl ?_ | refine Go.Proofs.Ytnjlcimeaoedcaa.W.op rfl rfl rfl (Go.Proofs.Ytnjlcimeaoedcaa.W.quiet_move rfl rfl) ?_
          first | refine Go.Proofs.Ytnjlcimeaoedcaa.W.skip rfl rfl rfl ?_ | refine Go.Proofs.Ytnjlcimeaoedcaa.W.op rfl rfl rfl (Go.Proofs.Ytnjlcimeaoedcaa.W.quiet_field rfl rfl (fun W => pf2 W _ _)) ?_
          first | refine Go.Proofs.Ytnjlcimeaoedcaa.W.skip rfl rfl rfl ?_ | refine Go.Proofs.Ytnjlcimeaoedcaa.W.op rfl rfl rfl (Go.Proofs.Ytnjlcimeaoedcaa.W.quiet_load rfl rfl (by first | exact LK | exact LL | exact LI | exact LM)) ?_
          first | refine Go.Proofs.Ytnjlcimeaoedcaa.W.skip rfl rfl rfl ?_ | refine Go.Proofs.Ytnjlcimeaoedcaa.W.op rfl rfl rfl (Go.Proofs.Ytnjlcimeaoedcaa.W.quiet_move rfl rfl) ?_
          first | refine Go.Proofs.Ytnjlcimeaoedcaa.W.skip rfl rfl rfl ?_ | refine Go.Proofs.Ytnjlcimeaoedcaa.W.op rfl rfl rfl (Go.Proofs.Ytnjlcimeaoedcaa.W.quiet_len rfl rfl (fun W => ln_i W _ _ _)) ?_
          first | refine Go.Proofs.Ytnjlcimeaoedcaa.W.skip rfl rfl rfl ?_ | refine Go.Proofs.Ytnjlcimeaoedcaa.W.op rfl rfl rfl (Go.Proofs.Ytnjlcimeaoedcaa.W.quiet_bin rfl rfl rfl (by first | exact Bb3 _ _ | exact Bb4 _ _ | exact BZ _ _ | exact BG _ _ | exact BA _ _ | exact BN _ _)) ?_
          first | refine Go.Proofs.Ytnjlcimeaoedcaa.W.skip rfl rfl rfl ?_ | refine Go.Proofs.Ytnjlcimeaoedcaa.W.op rfl rfl rfl (Go.Proofs.Ytnjlcimeaoedcaa.W.quiet_pick rfl rfl rfl) ?_
          first | refine Go.Proofs.Ytnjlcimeaoedcaa.W.skip rfl rfl rfl ?_ | refine Go.Proofs.Ytnjlcimeaoedcaa.W.op rfl rfl rfl (Go.Proofs.Ytnjlcimeaoedcaa.W.quiet_move rfl rfl) ?_
          first | refine Go.Proofs.Ytnjlcimeaoedcaa.W.skip rfl rfl rfl ?_ | refine Go.Proofs.Ytnjlcimeaoedcaa.W.op rfl rfl rfl (Go.Proofs.Ytnjlcimeaoedcaa.W.quiet_move rfl rfl) ?_
          first | refine Go.Proofs.Ytnjlcimeaoedcaa.W.skip rfl rfl rfl ?_ | refine Go.Proofs.Ytnjlcimeaoedcaa.W.op rfl rfl rfl (Go.Proofs.Ytnjlcimeaoedcaa.W.quiet_field rfl rfl (fun W => pn4 W _ _)) ?_
          first | refine Go.Proofs.Ytnjlcimeaoedcaa.W.skip rfl rfl rfl ?_ | refine Go.Proofs.Ytnjlcimeaoedcaa.W.op rfl rfl rfl (Go.Proofs.Ytnjlcimeaoedcaa.W.quiet_load rfl rfl (by first | exact LK | exact LL | exact LI | exact LM)) ?_
          first | refine Go.Proofs.Ytnjlcimeaoedcaa.W.skip rfl rfl rfl ?_ | refine Go.Proofs.Ytnjlcimeaoedcaa.W.op rfl rfl rfl (Go.Proofs.Ytnjlcimeaoedcaa.W.quiet_bin rfl rfl rfl (by first | exact Bb3 _ _ | exact Bb4 _ _ | exact BZ _ _ | exact BG _ _ | exact BA _ _ | exact BN _ _)) ?_
          first | refine Go.Proofs.Ytnjlcimeaoedcaa.W.skip rfl rfl rfl ?_ | refine Go.Proofs.Ytnjlcimeaoedcaa.W.op rfl rfl rfl (Go.Proofs.Ytnjlcimeaoedcaa.W.quiet_move rfl rfl) ?_
          first | refine Go.Proofs.Ytnjlcimeaoedcaa.W.skip rfl rfl rfl ?_ | refine Go.Proofs.Ytnjlcimeaoedcaa.W.op rfl rfl rfl (Go.Proofs.Ytnjlcimeaoedcaa.W.quiet_field rfl rfl (fun W => pf2 W _ _)) ?_
          first | refine Go.Proofs.Ytnjlcimeaoedcaa.W.skip rfl rfl rfl ?_ | refine Go.Proofs.Ytnjlcimeaoedcaa.W.op rfl rfl rfl (Go.Proofs.Ytnjlcimeaoedcaa.W.quiet_load rfl rfl (by first | exact LK | exact LL | exact LI | exact LM)) ?_
          first | refine Go.Proofs.Ytnjlcimeaoedcaa.W.skip rfl rfl rfl ?_ | refine Go.Proofs.Ytnjlcimeaoedcaa.W.op rfl rfl rfl (Go.Proofs.Ytnjlcimeaoedcaa.W.quiet_index rfl rfl rfl IM) ?_
          first | refine Go.Proofs.Ytnjlcimeaoedcaa.W.skip rfl rfl rfl ?_ | refine Go.Proofs.Ytnjlcimeaoedcaa.W.op rfl rfl rfl (Go.Proofs.Ytnjlcimeaoedcaa.W.quiet_load rfl rfl (by first | exact LK | exact LL | exact LI | exact LM)) ?_
          first | refine Go.Proofs.Ytnjlcimeaoedcaa.W.skip rfl rfl rfl ?_ | refine Go.Proofs.Ytnjlcimeaoedcaa.W.op rfl rfl rfl (Go.Proofs.Ytnjlcimeaoedcaa.W.quiet_bin rfl rfl rfl (by first | exact Bb3 _ _ | exact Bb4 _ _ | exact BZ _ _ | exact BG _ _ | exact BA _ _ | exact BN _ _)) ?_
          first | refine Go.Proofs.Ytnjlcimeaoedcaa.W.skip rfl rfl rfl ?_ | refine Go.Proofs.Ytnjlcimeaoedcaa.W.op rfl rfl rfl (Go.Proofs.Ytnjlcimeaoedcaa.W.quiet_pick rfl rfl rfl) ?_
          refine Go.Proofs.Ytnjlcimeaoedcaa.W.op rfl rfl rfl (Go.Proofs.Ytnjlcimeaoedcaa.W.quiet_pick rfl rfl rfl) ?_
          exact Go.Proofs.Ytnjlcimeaoedcaa.W.nil (fun a h => (by (repeat (refine Kn.cons h rfl ?_)); exact h.base))
      · have e34 : b3 = false ∧ b4 = false := by
          rw [hTo] at hT
          cases b3 <;> cases b4 <;> simp_all
        obtain ⟨e3, e4⟩ := e34
        subst e3
        subst e4
        refine Go.Proofs.Ytnjlcimeaoedcaa.W.op rfl rfl rfl (Go.Proofs.Ytnjlcimeaoedcaa.W.quiet_field rfl rfl (fun W => pf0 W _ _)) ?_
        refine Go.Proofs.Ytnjlcimeaoedcaa.W.op rfl rfl rfl (Go.Proofs.Ytnjlcimeaoedcaa.W.quiet_load rfl rfl (by first | exact LK)) ?_
        refine Go.Proofs.Ytnjlcimeaoedcaa.W.op rfl rfl rfl (Go.Proofs.Ytnjlcimeaoedcaa.W.quiet_bin rfl rfl rfl (by first | exact Bb3 _ _ | exact Bb4 _ _)) ?_
        refine Go.Proofs.Ytnjlcimeaoedcaa.W.op rfl rfl rfl (Go.Proofs.Ytnjlcimeaoedcaa.W.quiet_move rfl rfl) ?_
        refine Go.Proofs.Ytnjlcimeaoedcaa.W.op rfl rfl rfl (Go.Proofs.Ytnjlcimeaoedcaa.W.quiet_field rfl rfl (fun W => pf0 W _ _)) ?_
        refine Go.Proofs.Ytnjlcimeaoedcaa.W.op rfl rfl rfl (Go.Proofs.Ytnjlcimeaoedcaa.W.quiet_load rfl rfl (by first | exact LK)) ?_
        refine Go.Proofs.Ytnjlcimeaoedcaa.W.op rfl rfl rfl (Go.Proofs.Ytnjlcimeaoedcaa.W.quiet_bin rfl rfl rfl (by first | exact Bb3 _ _ | exact Bb4 _ _)) ?_
        refine Go.Proofs.Ytnjlcimeaoedcaa.W.op rfl rfl rfl (Go.Proofs.Ytnjlcimeaoedcaa.W.quiet_pick rfl rfl rfl) ?_
        refine Go.Proofs.Ytnjlcimeaoedcaa.W.op rfl rfl rfl (Go.Proofs.Ytnjlcimeaoedcaa.W.quiet_move rfl rfl) ?_
        refine Go.Proofs.Ytnjlcimeaoedcaa.W.skip rfl rfl rfl ?_
        refine Go.Proofs.Ytnjlcimeaoedcaa.W.skip rfl rfl rfl ?_
        refine Go.Proofs.Ytnjlcimeaoedcaa.W.skip rfl rfl rfl ?_
        refine Go.Proofs.Ytnjlcimeaoedcaa.W.skip rfl rfl rfl ?_
        refine Go.Proofs.Ytnjlcimeaoedcaa.W.skip rfl rfl rfl ?_
        refine Go.Proofs.Ytnjlcimeaoedcaa.W.skip rfl rfl rfl ?_
        refine Go.Proofs.Ytnjlcimeaoedcaa.W.skip rfl rfl rfl ?_
        refine Go.Proofs.Ytnjlcimeaoedcaa.W.skip rfl rfl rfl ?_
        refine Go.Proofs.Ytnjlcimeaoedcaa.W.skip rfl rfl rfl ?_
        refine Go.Proofs.Ytnjlcimeaoedcaa.W.skip rfl rfl rfl ?_
        refine Go.Proofs.Ytnjlcimeaoedcaa.W.skip rfl rfl rfl ?_
        refine Go.Proofs.Ytnjlcimeaoedcaa.W.skip rfl rfl rfl ?_
        refine Go.Proofs.Ytnjlcimeaoedcaa.W.skip rfl rfl rfl ?_
        refine Go.Proofs.Ytnjlcimeaoedcaa.W.skip rfl rfl rfl ?_
        refine Go.Proofs.Ytnjlcimeaoedcaa.W.skip rfl rfl rfl ?_
        refine Go.Proofs.Ytnjlcimeaoedcaa.W.skip rfl rfl rfl ?_
        refine Go.Proofs.Ytnjlcimeaoedcaa.W.skip rfl rfl rfl ?_
        refine Go.Proofs.Ytnjlcimeaoedcaa.W.skip rfl rfl rfl ?_
        refine Go.Proofs.Ytnjlcimeaoedcaa.W.skip rfl rfl rfl ?_
        refine Go.Proofs.Ytnjlcimeaoedcaa.W.skip rfl rfl rfl ?_
        refine Go.Proofs.Ytnjlcimeaoedcaa.W.skip rfl rfl rfl ?_
        refine Go.Proofs.Ytnjlcimeaoedcaa.W.op rfl rfl rfl (Go.Proofs.Ytnjlcimeaoedcaa.W.quiet_pick rfl rfl rfl) ?_
        exact Go.Proofs.Ytnjlcimeaoedcaa.W.nil (fun a h => (by (repeat (refine Kn.cons h rfl ?_)); exact h.base))
    refine T.cond rfl (fun hb => by cases hb) (fun _ => ?_)
    refine T.skip ?_
    refine T.tw fun V2 hV2 => ?_
    replace hf := hf.trans hV2
    replace rx := rx.fr hV2 id
    clear hV2 rn Bb3 Bb4 LK hwy hto
    clear V
    refine TW.sreg ?_
    refine WL.op rfl rfl rfl (Go.Proofs.Ytnjlcimeaoedcaa.W.quiet_move rfl rfl) ?_
    refine WL.op rfl rfl rfl (Go.Proofs.Ytnjlcimeaoedcaa.W.quiet_bin rfl rfl rfl (fun W => bn_add W _ _ (k : Int) 1 (by omega) (by omega))) ?_
    refine WL.op rfl rfl rfl (Go.Proofs.Ytnjlcimeaoedcaa.W.quiet_assign rfl rfl) ?_
    refine WL.nil ?_
    obtain ⟨b5, hb5⟩ : ∃ z, (x.k == 5) = z := ⟨_, rfl⟩
    refine TW.sreg ?_
    refine WL.op rfl rfl rfl (Go.Proofs.Ytnjlcimeaoedcaa.W.quiet_field rfl rfl (fun W => pf0 W _ _)) ?_
    refine WL.ld rfl rfl rfl rfl rfl (ld_int _ _ _ (rx.cell rfl)) ?_
    refine WL.op rfl rfl rfl (Go.Proofs.Ytnjlcimeaoedcaa.W.quiet_bin rfl rfl rfl (fun W => (bn_eq W _ _ _ _).trans (by rw [hb5]))) ?_
    refine WL.op rfl rfl rfl (Go.Proofs.Ytnjlcimeaoedcaa.W.quiet_move rfl rfl) ?_
    cases b5
    · have h5 : ¬x.k = 5 := fun e => by rw [e] at hb5; cases hb5
      rw [if_neg (fun e => h5 e.1)] at hws2
      refine WL.skip rfl rfl rfl ?_
      refine WL.skip rfl rfl rfl ?_
      refine WL.skip rfl rfl rfl ?_
      refine WL.skip rfl rfl rfl ?_
      refine WL.skip rfl rfl rfl ?_
      refine WL.skip rfl rfl rfl ?_
      refine WL.skip rfl rfl rfl ?_
      refine WL.skip rfl rfl rfl ?_
      refine WL.skip rfl rfl rfl ?_
      refine WL.op rfl rfl rfl (Go.Proofs.Ytnjlcimeaoedcaa.W.quiet_pick rfl rfl rfl) ?_
      refine WL.nil ?_
      refine TW.cond rfl (fun hb => by cases hb) (fun _ => ?_)
      refine TW.skipx ?_
      repeat (with_reducible refine Xw.nblk ?_)
      refine Xw.nrm ?_
      refine TW.reg ?_
      refine WL.op rfl rfl rfl (Go.Proofs.Ytnjlcimeaoedcaa.W.quiet_move rfl rfl) ?_
      refine WL.op rfl rfl rfl (Go.Proofs.Ytnjlcimeaoedcaa.W.quiet_bin rfl rfl rfl (fun W => BJ W _ _)) ?_
      refine WL.op rfl rfl rfl (Go.Proofs.Ytnjlcimeaoedcaa.W.quiet_assign rfl rfl) ?_
      refine WL.end ?_
      refine Xw.any fun b h => ⟨j + 1, by omega, by omega, ⟨by rw [hws2, Nat.add_zero]; exact (by (repeat (refine Kn.cons h rfl ?_)); exact h.base), hf⟩⟩
    · have h5 : x.k = 5 := by simpa using hb5
      obtain ⟨_, m0, m1, _⟩ := right_5 hrx h5
      have hLn : L = numI x.rd x.imm := by
        rcases hform5 with ⟨e, _⟩ | e
        · exact absurd h5 e
        · exact e
      refine WL.op rfl rfl rfl (Go.Proofs.Ytnjlcimeaoedcaa.W.quiet_field rfl rfl (fun W => pf1 W _ _)) ?_
      refine WL.op rfl rfl rfl (Go.Proofs.Ytnjlcimeaoedcaa.W.quiet_field rfl rfl (fun W => pn1 W _ _)) ?_
      refine WL.ld rfl rfl rfl rfl rfl (ld_int _ _ _ (rx.cell rfl)) ?_
      refine WL.op rfl rfl rfl (Go.Proofs.Ytnjlcimeaoedcaa.W.quiet_field rfl rfl (fun W => pf1 W _ _)) ?_
      refine WL.op rfl rfl rfl (Go.Proofs.Ytnjlcimeaoedcaa.W.quiet_field rfl rfl (fun W => pn4 W _ _)) ?_
      refine WL.ld rfl rfl rfl rfl rfl (ld_int _ _ _ (rx.cell rfl)) ?_
      refine WL.call (hr := r_number x.rd x.imm m0 m1 V2) rfl rfl rfl rfl rfl (fun W => cf_num W _) ?_
      rintro e V3 ⟨na, nc, rfl, _, f3', _⟩
      refine ⟨_, rfl, ?_⟩
      replace hf := hf.trans f3'
      refine WL.op rfl rfl rfl (Go.Proofs.Ytnjlcimeaoedcaa.W.quiet_len rfl rfl (fun W => ln_n W _ _ _)) ?_
      obtain ⟨bb, hbb⟩ : ∃ z, (((numI x.rd x.imm).length : Int) == 2) = z := ⟨_, rfl⟩
      refine WL.op rfl rfl rfl (Go.Proofs.Ytnjlcimeaoedcaa.W.quiet_bin rfl rfl rfl (fun W => (bn_eq W _ _ _ _).trans (by rw [hbb]))) ?_
      refine WL.op rfl rfl rfl (Go.Proofs.Ytnjlcimeaoedcaa.W.quiet_pick rfl rfl rfl) ?_
      refine WL.nil ?_
      refine TW.cond rfl (fun hb => ?_) (fun hb => ?_)
      · have h2 : L.length = 2 := by rw [hLn]; have : ((numI x.rd x.imm).length : Int) = 2 := by (rw [← hbb] at hb; simpa using hb)
                                     omega
        rw [if_pos ⟨h5, h2⟩] at hws2
        refine TW.reg ?_
        refine WL.op rfl rfl rfl (Go.Proofs.Ytnjlcimeaoedcaa.W.quiet_move rfl rfl) ?_
        refine WL.op rfl rfl rfl (Go.Proofs.Ytnjlcimeaoedcaa.W.quiet_bin rfl rfl rfl (fun W => bn_add W _ _ ((k : Int) + 1) 1 (by omega) (by omega))) ?_
        refine WL.op rfl rfl rfl (Go.Proofs.Ytnjlcimeaoedcaa.W.quiet_assign rfl rfl) ?_
        refine WL.end ?_
        repeat (with_reducible refine Xw.nblk ?_)
        refine Xw.nrm ?_
        refine TW.reg ?_
        refine WL.op rfl rfl rfl (Go.Proofs.Ytnjlcimeaoedcaa.W.quiet_move rfl rfl) ?_
        refine WL.op rfl rfl rfl (Go.Proofs.Ytnjlcimeaoedcaa.W.quiet_bin rfl rfl rfl (fun W => BJ W _ _)) ?_
        refine WL.op rfl rfl rfl (Go.Proofs.Ytnjlcimeaoedcaa.W.quiet_assign rfl rfl) ?_
        refine WL.end ?_
        refine Xw.any fun b h => ⟨j + 1, by omega, by omega, ⟨by rw [hws2]; exact (by (repeat (refine Kn.cons h rfl ?_)); exact h.base), hf⟩⟩
      · have h2 : ¬L.length = 2 := by rw [hLn]; intro e; rw [e] at hbb; rw [← hbb] at hb; cases hb
        rw [if_neg (fun e => h2 e.2)] at hws2
        refine TW.skipx ?_
        repeat (with_reducible refine Xw.nblk ?_)
        refine Xw.nrm ?_
        refine TW.reg ?_
        refine WL.op rfl rfl rfl (Go.Proofs.Ytnjlcimeaoedcaa.W.quiet_move rfl rfl) ?_
        refine WL.op rfl rfl rfl (Go.Proofs.Ytnjlcimeaoedcaa.W.quiet_bin rfl rfl rfl (fun W => BJ W _ _)) ?_
        refine WL.op rfl rfl rfl (Go.Proofs.Ytnjlcimeaoedcaa.W.quiet_assign rfl rfl) ?_
        refine WL.end ?_
        refine Xw.any fun b h => ⟨j + 1, by omega, by omega, ⟨by rw [hws2, Nat.add_zero]; exact (by (repeat (refine Kn.cons h rfl ?_)); exact h.base), hf⟩⟩
end Go.Proofs.Ytnjlcimeaoedcaa
