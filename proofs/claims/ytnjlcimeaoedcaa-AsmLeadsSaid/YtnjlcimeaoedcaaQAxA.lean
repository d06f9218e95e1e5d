/-
  Items (layer 5): what the document's own Assemble builds in memory. Items (layer 5): closed facts for the walk of the document's own Assemble; its labels, plainly. Items (layer 5): the document's own Assemble.
-/
import Derived.Test.YtnjlcimeaoedcaaQIn4
import Derived.Test.YtnjlcimeaoedcaaQRefE
namespace Go.Proofs.Ytnjlcimeaoedcaa
open Go.RowKit
set_option linter.unusedVariables false
set_option linter.unusedSimpArgs false
theorem r_word (i : In) (h : fitI i = true) (w : World) : Calls Try.prog 28 #[.agg #[.int .i64 i.op, .int .i64 i.rd, .int .i64 i.r1, .int .i64 i.r2, .int .i64 i.imm]] w fun e w' => e = .returned (.int .u32 (encI i)) ∧ Fr (fun _ => False) w w' := by
  obtain ⟨op, rd, r1, r2, imm⟩ := i
  unfold fitI at h
  simp only at h ⊢
  have hb : 0 ≤ op ∧ op < 46 := by
    by_cases hb : 0 ≤ op ∧ op < 46
    · exact hb
    · unfold ix at h
      rw [if_neg hb] at h
      unfold fitsB at h
      rw [show fm 0 = 0 by decide] at h
      simp at h
  obtain ⟨k, rfl⟩ : ∃ k : Nat, op = (k : Int) := ⟨op.toNat, by omega⟩
  have hk : k < 46 := by omega
  rw [ix_nat hk] at h
  have k0 : k ≠ 0 := fun e => by
    subst e
    unfold fitsB at h
    rw [show fm 0 = 0 by decide] at h
    simp at h
  refine (rv43 k hk k0 rd r1 r2 imm h w).mono ?_
  rintro e w' ⟨rfl, hg⟩
  refine ⟨?_, Fr.of_grown hg⟩
  unfold encI
  simp only
  rw [enc_sum hk h]
abbrev TM : TypeId := 31
structure DW (w1 W : World) (bo : Nat) (vw va : Value) (ws xs : List Int) : Prop where
  lt : bo < w1.heap.size
  out : Rw W bo #[vw, va, .int .i64 0] TM
  wr : WrdAt w1.heap.size W vw ws
  nr : NumAt w1.heap.size W va xs
  fr : Fr (fun j => j = bo) w1 W
theorem own_ge {w : World} {base e size n : Nat} {v : Value} {xs : List Value} (h : w.ownsRow base e size v n xs) {g : Nat} (hg : v.ownBlock = some g) : base ≤ g ∧ g < w.heap.size := World.ownsRow.lt h g hg
theorem own_apart {w : World} {b1 b2 e1 e2 s1 s2 n1 n2 : Nat} {v1 v2 : Value} {x1 x2 : List Value} (h1 : w.ownsRow b1 e1 s1 v1 n1 x1) (h2 : w.ownsRow b2 e2 s2 v2 n2 x2) (hne : e1 ≠ e2) {g : Nat} (hg1 : v1.ownBlock = some g) (hg2 : v2.ownBlock = some g) : False := by
  rcases h1.2 with ⟨rfl, _⟩ | ⟨g1, c1, cur1, rfl, _, q1, _⟩
  · simp [Value.ownBlock] at hg1
  · rcases h2.2 with ⟨rfl, _⟩ | ⟨g2, c2, cur2, rfl, _, q2, _⟩
    · simp [Value.ownBlock] at hg2
    · simp only [Value.ownBlock, Option.some.injEq] at hg1 hg2
      subst hg1
      subst hg2
      rw [q1] at q2
      injection q2 with q2
      injection q2 with _ q2
      exact hne q2
theorem DW.keep {w1 W W' : World} {bo : Nat} {vw va : Value} {ws xs : List Int} (h : DW w1 W bo vw va ws xs) (hf : Fr (fun _ => False) W W') : DW w1 W' bo vw va ws xs :=
  ⟨h.lt, h.out.fr hf id, hf.owns h.wr (fun _ _ => id), hf.owns h.nr (fun _ _ => id), h.fr.trans' hf (fun _ _ e => e.elim)⟩
theorem DW.word {w1 W Wa W' : World} {bo : Nat} {vw va v' : Value} {ws xs : List Int} {x : Int} (h : DW w1 W bo vw va ws xs) (ha : Fr (fun _ => False) W Wa) (hv : W'.ownsRow w1.heap.size 35 1 v' (ws.length + 1) (wrds ws ++ [.int .u32 x])) (hg : Wa.grownBy W' vw.ownBlock) :
    (Rw W' bo #[vw, va, .int .i64 0] TM) ∧ DW w1 (W'.setCell ⟨bo, 0, none⟩ v') bo v' va (ws ++ [x]) xs := by
  have hk := h.keep ha
  have hb := Fr.of_by hg
  have hlt := h.lt
  have hbo : ¬(vw.ownBlock = some bo) := fun e => by have := (own_ge h.wr e).1; omega
  have hr : Rw W' bo #[vw, va, .int .i64 0] TM := hk.out.fr hb hbo
  have hn : NumAt w1.heap.size W' va xs := hb.owns hk.nr (fun g e1 e2 => own_apart hk.nr hk.wr (by decide) e1 e2)
  have hw : WrdAt w1.heap.size W' v' (ws ++ [x]) := by unfold WrdAt; rw [wrds_snoc, List.length_append]; exact hv
  have hfr : Fr (fun j => j = bo) w1 W' := hk.fr.trans' hb (fun j hj e => by have := (own_ge h.wr e).1; omega)
  have hs := Fr.setCell (F := fun j => j = bo) W' ⟨bo, 0, none⟩ v' rfl
  refine ⟨hr, hlt, by have := hr.set 0 v'; exact this, hs.owns hw (fun g e1 e2 => ?_), hs.owns hn (fun g e1 e2 => ?_), hfr.trans hs⟩
  · have := (own_ge hw e1).1; omega
  · have := (own_ge hn e1).1; omega
theorem DW.num {w1 W Wa W' : World} {bo : Nat} {vw va v' : Value} {ws xs : List Int} {x : Int} (h : DW w1 W bo vw va ws xs) (ha : Fr (fun _ => False) W Wa) (hv : W'.ownsRow w1.heap.size 3 1 v' (xs.length + 1) (ints xs ++ [.int .i64 x])) (hg : Wa.grownBy W' va.ownBlock) :
    (Rw W' bo #[vw, va, .int .i64 0] TM) ∧ DW w1 (W'.setCell ⟨bo, 1, none⟩ v') bo vw v' ws (xs ++ [x]) := by
  have hk := h.keep ha
  have hb := Fr.of_by hg
  have hlt := h.lt
  have hbo : ¬(va.ownBlock = some bo) := fun e => by have := (own_ge h.nr e).1; omega
  have hr : Rw W' bo #[vw, va, .int .i64 0] TM := hk.out.fr hb hbo
  have hw : WrdAt w1.heap.size W' vw ws := hb.owns hk.wr (fun g e1 e2 => own_apart hk.wr hk.nr (by decide) e1 e2)
  have hn : NumAt w1.heap.size W' v' (xs ++ [x]) := by unfold NumAt; rw [show ints (xs ++ [x]) = ints xs ++ [.int .i64 x] by simp [ints], List.length_append]; exact hv
  have hfr : Fr (fun j => j = bo) w1 W' := hk.fr.trans' hb (fun j hj e => by have := (own_ge h.nr e).1; omega)
  have hs := Fr.setCell (F := fun j => j = bo) W' ⟨bo, 1, none⟩ v' rfl
  refine ⟨hr, hlt, by have := hr.set 1 v'; exact this, hs.owns hw (fun g e1 e2 => ?_), hs.owns hn (fun g e1 e2 => ?_), hfr.trans hs⟩
  · have := (own_ge hw e1).1; omega
  · have := (own_ge hn e1).1; omega
theorem own_set {w : World} {base e n : Nat} {g c : Nat} {xs : List Value} (h : w.ownsRow base e 1 (.slice (some ⟨g, 0, none⟩) n c) n xs) {j : Nat} (hj : j < n) (u : Value) : (w.setCell ⟨g, j, none⟩ u).ownsRow base e 1 (.slice (some ⟨g, 0, none⟩) n c) n (xs.set j u) := by
  refine ⟨by simpa using h.1, ?_⟩
  rcases h.2 with ⟨e1, _⟩ | ⟨g', cap, cur, e1, hb, hg, hc, hm, hs, ht⟩
  · cases e1
  · injection e1 with a1 a2 a3
    injection a1 with a1
    injection a1 with a1
    subst a1
    refine .inr ⟨g, cap, cur.setIfInBounds j u, by rw [a3], hb, heap_setCell_same w g j _ _ _ hg, hc, hm, by simpa using hs, ?_⟩
    rw [← ht, Array.toList_setIfInBounds]
    apply List.ext_getElem?
    intro i
    simp only [List.getElem?_take, List.getElem?_set, List.length_take]
    by_cases hi : i < n * 1
    · simp only [hi, if_true]
      by_cases hij : j = i
      · subst hij
        simp only [if_true]
        have : j < cur.size := by omega
        simp [this]
        omega
      · simp [hij]
    · simp only [hi, if_false]
      have : ¬ j = i := by omega
      simp [this]
theorem DW.put {w1 W : World} {bo g c : Nat} {vw : Value} {ws xs : List Int} (h : DW w1 W bo vw (.slice (some ⟨g, 0, none⟩) xs.length c) ws xs) {j : Nat} (hj : j < xs.length) (y : Int) :
    DW w1 (W.setCell ⟨g, j, none⟩ (.int .i64 y)) bo vw (.slice (some ⟨g, 0, none⟩) xs.length c) ws (xs.set j y) := by
  have hlt := h.lt
  have hs := Fr.setCell (F := fun k => k = g) W ⟨g, j, none⟩ (.int .i64 y) rfl
  have hge := own_ge h.nr (g := g) rfl
  refine ⟨hlt, h.out.fr hs (by omega), hs.owns h.wr (fun k e1 e2 => by subst e2; exact own_apart h.wr h.nr (by decide) e1 rfl), ?_, h.fr.trans' hs (fun k hk e => by omega)⟩
  unfold NumAt
  rw [List.length_set, show ints (xs.set j y) = (ints xs).set j (.int .i64 y) by simp [ints, List.map_set]]
  exact own_set h.nr hj _
theorem ins_apart {B : Nat} {W : World} {v : Value} {ws : List Int} {gi : Nat} {L : List In} (hi : InAt W (some ⟨gi, 0, none⟩) L) (hL : 0 < L.length) (hw : WrdAt B W v ws) (hn : 0 < ws.length) : v.ownBlock ≠ some gi := fun e => by
  obtain ⟨a, c, rfl, hc⟩ := hw.form
  obtain ⟨g, rfl, _, h0⟩ := hc 0 hn
  simp only [Value.ownBlock, Option.some.injEq] at e
  subst e
  obtain ⟨g', o', e', h1⟩ := hi 0 hL
  cases e'
  have := h1 0 (by decide)
  rw [show (0 : Nat) + (0 * 5 + 0) = 0 by rfl, h0] at this
  simp [In.vals] at this
/-- The appends. -/
theorem apd_w {w1 W : World} {bo : Nat} {vw va : Value} {ws xs : List Int} (x : Int) (ty : TypeId) (h : DW w1 W bo vw va ws xs) (hl : ws.length ≤ 1000000) : ∃ v' w', (Builtin.append_ #[25, 25] ty #[vw, .slice (some ⟨W.heap.size, 0, none⟩) 1 1]).run Try.prog (W.alloc (.cells #[.int .u32 x] 35)) = .ok v' w' ∧ (Rw w' bo #[vw, va, .int .i64 0] TM ∧ DW w1 (w'.setCell ⟨bo, 0, none⟩ v') bo v' va (ws ++ [x]) xs ∧ (W.alloc (.cells #[.int .u32 x] 35)).grownBy w' vw.ownBlock ∧ WrdAt w1.heap.size w' v' (ws ++ [x])) := by
  obtain ⟨i0, hi, hz0, hz1, hz2⟩ := info_parts infoU
  have hsz := h.fr.size
  have ha := fr_al (Fr.refl (fun _ => False) W) (.cells #[.int .u32 x] 35)
  obtain ⟨v', w', hr, h2, h3, h4⟩ := run_append_own (P := Try.prog) (W.alloc (.cells #[.int .u32 x] 35)) w1.heap.size 25 ty 35 i0 (.int .u32 0) 1 4 Try.underlying25 hi hz0 hz1 hz2 rfl (by decide) vw ws.length (wrds ws) (ha.owns h.wr (fun _ _ => id)) ⟨W.heap.size, 0, none⟩ 1 1 [.int .u32 x] rfl (one_cell W 35 (.int .u32 x)) (by simp [Value.oneCell']) (by unfold maxLen; omega) (by omega) (by simp; omega)
  obtain ⟨q1, q2⟩ := h.word ha h2 h3
  exact ⟨v', w', hr, q1, q2, h3, by unfold WrdAt; rw [wrds_snoc, List.length_append]; exact h2⟩
theorem apd_n {w1 W : World} {bo : Nat} {vw va : Value} {ws xs : List Int} (x : Int) (ty : TypeId) (h : DW w1 W bo vw va ws xs) (hl : xs.length ≤ 1000000) : ∃ v' w', (Builtin.append_ #[26, 26] ty #[va, .slice (some ⟨W.heap.size, 0, none⟩) 1 1]).run Try.prog (W.alloc (.cells #[.int .i64 x] 3)) = .ok v' w' ∧ (Rw w' bo #[vw, va, .int .i64 0] TM ∧ DW w1 (w'.setCell ⟨bo, 1, none⟩ v') bo vw v' ws (xs ++ [x])) := by
  obtain ⟨i0, hi, hz0, hz1, hz2⟩ := info_parts infoI
  have hsz := h.fr.size
  have ha := fr_al (Fr.refl (fun _ => False) W) (.cells #[.int .i64 x] 3)
  obtain ⟨v', w', hr, h2, h3, h4⟩ := run_append_own (P := Try.prog) (W.alloc (.cells #[.int .i64 x] 3)) w1.heap.size 26 ty 3 i0 (.int .i64 0) 1 8 Try.underlying26 hi hz0 hz1 hz2 rfl (by decide) va xs.length (ints xs) (ha.owns h.nr (fun _ _ => id)) ⟨W.heap.size, 0, none⟩ 1 1 [.int .i64 x] rfl (one_cell W 3 (.int .i64 x)) (by simp [Value.oneCell']) (by unfold maxLen; omega) (by omega) (by simp; omega)
  exact ⟨v', w', hr, h.num ha h2 h3⟩
set_option maxRecDepth 100000
section
variable (w : World) (b o n c : Nat)
theorem al_m : (Instr.alloc TM true (.tuple #[])).run Try.prog w = .ok (.pointer (some ⟨w.heap.size, 0, none⟩)) (w.alloc (.cells #[.slice none 0 0, .slice none 0 0, .int .i64 0] TM)) := by simp [go_sem]
theorem bd_m (e : Int) : (Instr.build TM #[(2, .int .i64 e)]).run Try.prog w = .ok (.agg #[.slice none 0 0, .slice none 0 0, .int .i64 e]) w := by simp [go_sem]
theorem fm0 : (Instr.fieldAt TM (.pointer (some ⟨b, o, none⟩)) 0).run Try.prog w = .ok (.pointer (some ⟨b, o, none⟩)) w := by simp [go_sem]
theorem fm1 : (Instr.fieldAt TM (.pointer (some ⟨b, o, none⟩)) 1).run Try.prog w = .ok (.pointer (some ⟨b, o + 1, none⟩)) w := by simp [go_sem]
theorem ld_m (u0 u1 u2 : Value) (h0 : w.cell? ⟨b, o, none⟩ = some u0) (h1 : w.cell? ⟨b, o + 1, none⟩ = some u1) (h2 : w.cell? ⟨b, o + 2, none⟩ = some u2) : (Instr.loadAt TM (.pointer (some ⟨b, o, none⟩))).run Try.prog w = .ok (.agg #[u0, u1, u2]) w := by simp [go_sem, h0, h1, h2]
theorem ld_sw (u : Value) (d : Addr) (h : w.cell? d = some u) : (Instr.loadAt 25 (.pointer (some d))).run Try.prog w = .ok u w := by simp [go_sem, h]
theorem ld_si (u : Value) (d : Addr) (h : w.cell? d = some u) : (Instr.loadAt 26 (.pointer (some d))).run Try.prog w = .ok u w := by simp [go_sem, h]
theorem st_m (g : Nat) (z : Array Value) (h : Rw w g z TM) (hz : z.size = 3) (a a' : Option Addr) (k l k' l' : Nat) (e : Int) : (Instr.storeAt TM (.pointer (some ⟨g, 0, none⟩)) (.agg #[.slice a k l, .slice a' k' l', .int .i64 e])).run Try.prog w = .ok () (((w.setCell ⟨g, 0, none⟩ (.slice a k l)).setCell ⟨g, 1, none⟩ (.slice a' k' l')).setCell ⟨g, 2, none⟩ (.int .i64 e)) := by
  have a0 := h.cell (j := 0) (v := z[0]) (by simp [hz])
  have a1 := h.cell (j := 1) (v := z[1]) (by simp [hz])
  have a2 := h.cell (j := 2) (v := z[2]) (by simp [hz])
  simp [go_sem, a0, a1, a2, h.free]
theorem st_sw (d : Addr) (u : Value) (a : Option Addr) (k l : Nat) (h : w.cell? d = some u) (hf : w.frozen? d = false) : (Instr.storeAt 25 (.pointer (some d)) (.slice a k l)).run Try.prog w = .ok () (w.setCell d (.slice a k l)) := by simp [go_sem, h, hf]
theorem st_si (d : Addr) (u : Value) (a : Option Addr) (k l : Nat) (h : w.cell? d = some u) (hf : w.frozen? d = false) : (Instr.storeAt 26 (.pointer (some d)) (.slice a k l)).run Try.prog w = .ok () (w.setCell d (.slice a k l)) := by simp [go_sem, h, hf]
theorem bs_w (m : Int) : (Instr.buildSlice 25 1 #[(0, .int .u32 m)]).run Try.prog w = .ok (.slice (some ⟨w.heap.size, 0, none⟩) 1 1) (w.alloc (.cells #[.int .u32 m] 35)) := by simp [go_sem]
end
theorem bodyw_retc {P : Program} {N : Nat} {s : List (Nat × Value)} {w : World} {fn : Func} {R : Ending → World → Prop} {t g : Nat} {ty t2 : TypeId} {cs : Array Value} {d : TypeDesc} (hr : fn.results = #[.cell t ty]) (hp : lk s t = some (.pointer (some ⟨g, 0, none⟩))) (hg : w.heap[g]? = some (.cells cs t2 (0, 0))) (hu : P.underlying ty = some d) (hd : (match d with | .struct _ | .array _ _ => true | _ => false) = true) (hi : (P.info? ty).map (·.size) = some cs.size) (h : R (.returned (.agg cs)) w) : Xw .ret N (bodyPost P fn R) s w := fun a k => by
  refine ⟨k.defers, .agg cs, ?_, h⟩
  have h1 := k.has t _ hp
  exact results_cell_row hr _ w g t2 cs (0, 0) d (by simp only [Array.getD_eq_getD_getElem?, h1, Option.getD_some]) hg hu hd hi
/-- A loop whose rounds are counted by any measure. -/
theorem TW.loopG {P : Program} {N : Nat} {Q : Exit → Act → World → Prop} {s : List (Nat × Value)} {x : Code} {w : World} {n : Nat} (val : Act → World → Nat) (I : Nat → Act → World → Prop) (ht : ∀ j a w, I j a w → val a w = j) (j0 : Nat) (hj0 : j0 ≤ n) (h0 : ∀ a, Kn N s a → I j0 a w)
    (round : ∀ j a w, j ≤ n → I j a w → x.wp P (Exit.then (fun a w => ∃ j', j < j' ∧ j' ≤ n ∧ I j' a w) Q) a w) : TW P N Q s (.loop x) w := fun a k => by
  refine wp_loop (fun a w => ∃ j, j ≤ n ∧ I j a w) (fun a w => n - val a w) ⟨j0, hj0, h0 a k⟩ ?_
  rintro a w ⟨j, hj, hI⟩
  refine wp_mono (round j a w hj hI) ?_
  intro e a' w' q
  cases e with
  | normal =>
    obtain ⟨j', h1, h2, h3⟩ := q
    refine ⟨⟨j', h2, h3⟩, ?_⟩
    simp only [ht j a w hI, ht j' a' w' h3]
    omega
  | exit id => exact q
  | goto l => exact q
  | ret => exact q
  | panic ch => exact q
  | outgrown => exact q
def extL (xs : List Int) (m : Nat) : List Int := xs ++ List.replicate (m - xs.length) (-1)
theorem extL_len (xs : List Int) (m : Nat) : (extL xs m).length = max xs.length m := by simp [extL]; omega
theorem extL_self {xs : List Int} {m : Nat} (h : m ≤ xs.length) : extL xs m = xs := by simp [extL, Nat.sub_eq_zero_of_le h]
theorem extL_succ {xs : List Int} {m : Nat} (h : xs.length ≤ m) : extL xs (m + 1) = extL xs m ++ [-1] := by
  unfold extL
  rw [show m + 1 - xs.length = (m - xs.length) + 1 by omega, List.replicate_succ', List.append_assoc]
def labD (l : List It) (s : List Int) : Nat → List Int
  | 0 => []
  | k + 1 => if (l.getD k it0).k = 2 then (extL (labD l s k) ((l.getD k it0).lab.toNat + 1)).set (l.getD k it0).lab.toNat (4 * sumK s k) else labD l s k
theorem labD_len {l : List It} (hr : ∀ k, k < l.length → rightB (l.getD k it0) = true) (s : List Int) : ∀ k, k ≤ l.length → (labD l s k).length ≤ 4096
  | 0, _ => by simp [labD]
  | k + 1, hk => by
    have ih := labD_len hr s k (by omega)
    unfold labD
    split
    · rename_i h2
      have := (right_lab (hr k (by omega))).1 h2
      unfold labB at this
      simp only [Bool.and_eq_true, decide_eq_true_eq] at this
      rw [List.length_set, extL_len]
      omega
    · exact ih
theorem insD_len {l : List It} {k : Nat} (h : insK l (golL l) (farL l) k = some (insD l k)) : (insD l k).length ≤ 2 := by
  generalize insD l k = L at *
  unfold insK at h
  simp only at h
  generalize l.getD k it0 = x at h
  split at h
  · simp at h; subst h; simp
  split at h
  · simp at h; subst h; have := numI_len x.rd x.imm; omega
  split at h
  · split at h
    · split at h
      · simp at h; subst h; simp
      · cases h
    · simp at h; subst h; simp
  split at h
  · split at h
    · simp at h; subst h; simp
    · cases h
  · simp at h; subst h; simp
theorem wrdD_len {l : List It} (hfew : l.length ≤ 32768) (hr : ∀ k, k < l.length → rightB (l.getD k it0) = true) (hlk : lackK l (accL l) l.length = false) : ∀ k, k ≤ l.length → (wrdD l k).length ≤ 2 * k
  | 0, _ => by simp [wrdD]
  | k + 1, hk => by
    have ih := wrdD_len hfew hr hlk k (by omega)
    have h := insD_len (ins_some hfew hr hlk (k := k) (by omega)).1
    unfold wrdD
    rw [List.length_append, List.length_map]
    omega
theorem imm_3 {i : In} (h : fitI i = true) (h3 : i.op = 3) : -1048576 ≤ i.imm ∧ i.imm ≤ 1048574 := by
  unfold fitI fitsB at h
  rw [h3, show fm (ix 3) = 74 by decide, room_all (by unfold isForm; omega) (by decide)] at h
  simp [roomB] at h
  omega
theorem InAt.set_other {W : World} {g o g2 : Nat} {L : List In} (h : InAt W (some ⟨g, o, none⟩) L) (hne : g ≠ g2) (j : Nat) (v : Value) : InAt (W.setCell ⟨g2, j, none⟩ v) (some ⟨g, o, none⟩) L := fun k hk => by
  obtain ⟨g', o', e, c⟩ := h k hk
  cases e
  refine ⟨_, _, rfl, fun i hi => ?_⟩
  rw [← c i hi]
  exact World.cell?_setCell_other _ _ _ _ (fun e => hne (by injection e with q; exact q.symm))
theorem own_free {w : World} {base e n g c : Nat} {xs : List Value} (h : w.ownsRow base e 1 (.slice (some ⟨g, 0, none⟩) n c) n xs) (j : Nat) : w.frozen? ⟨g, j, none⟩ = false := by
  rcases h.2 with ⟨e1, _⟩ | ⟨g', cap, cur, e1, hb, hg, _⟩
  · cases e1
  · injection e1 with a1 a2 a3
    injection a1 with a1
    injection a1 with a1
    subst a1
    exact frozen_of_row w g j _ _ hg
theorem block_lt {w : World} {g k : Nat} {v : Value} (h : w.cell? ⟨g, k, none⟩ = some v) : g < w.heap.size := by
  rcases Nat.lt_or_ge g w.heap.size with q | q
  · exact q
  · exfalso
    unfold World.cell? at h
    simp [Array.getElem?_eq_none q] at h
theorem InAt.get5 {W : World} {a : Option Addr} {L : List In} (h : InAt W a L) {k : Nat} (hk : k < L.length) (i : In) (hi : L.getD k in0 = i) : ∃ g o, a = some ⟨g, o, none⟩ ∧ W.cell? ⟨g, o + k * 5, none⟩ = some (.int .i64 i.op) ∧ W.cell? ⟨g, o + k * 5 + 1, none⟩ = some (.int .i64 i.rd) ∧ W.cell? ⟨g, o + k * 5 + 2, none⟩ = some (.int .i64 i.r1) ∧ W.cell? ⟨g, o + k * 5 + 3, none⟩ = some (.int .i64 i.r2) ∧ W.cell? ⟨g, o + k * 5 + 4, none⟩ = some (.int .i64 i.imm) := by
  obtain ⟨g, o, e, c⟩ := h k hk
  rw [hi] at c
  refine ⟨g, o, e, ?_, ?_, ?_, ?_, ?_⟩
  · have := c 0 (by decide); simpa [In.vals] using this
  · have := c 1 (by decide); simpa [In.vals, Nat.add_assoc] using this
  · have := c 2 (by decide); simpa [In.vals, Nat.add_assoc] using this
  · have := c 3 (by decide); simpa [In.vals, Nat.add_assoc] using this
  · have := c 4 (by decide); simpa [In.vals, Nat.add_assoc] using this
set_option maxRecDepth 100000 in
theorem r_asm_err (l : List It) (a : Option Addr) (n c : Nat) (hn : n = l.length) (hfew : n ≤ 32768) (hm : mayI l ≠ 0) (w : World) (hat : ItAt w.heap.size w a l) : Calls Try.prog 8 #[.slice a n c] w fun e w' => e = .returned (.agg #[.slice none 0 0, .slice none 0 0, .int .i64 (mayI l)]) ∧ Fr (fun _ => False) w w' := by
  refine calls_tw Try.func8 rfl rfl (Nat.le_of_ble_eq_true rfl) ?_
  refine TW.sreg ?_
  refine WL.alloc rfl rfl rfl rfl (al_m _) ?_
  refine WL.nil ?_
  have f1 := fr_al (Fr.refl (fun _ => False) w) (.cells #[.slice none 0 0, .slice none 0 0, .int .i64 0] TM)
  have r1 := Rw.new w #[.slice none 0 0, .slice none 0 0, .int .i64 0] TM
  generalize w.alloc (.cells #[.slice none 0 0, .slice none 0 0, .int .i64 0] TM) = w1 at *
  obtain ⟨b2, hb2⟩ : ∃ q, w.heap.size = q := ⟨_, rfl⟩
  rw [hb2] at r1 ⊢
  refine TW.seq ?_
  refine TW.sreg ?_
  refine WL.op rfl rfl rfl (Go.Proofs.Ytnjlcimeaoedcaa.W.quiet_move rfl rfl) ?_
  refine WL.call (hr := r_may l a n c hn hfew _ w1 (hat.fr f1 (fun _ h => h.elim))) rfl rfl rfl rfl rfl (fun W => cf_may W _) ?_
  rintro e w2 ⟨rfl, f2⟩
  refine ⟨_, rfl, ?_⟩
  refine WL.op rfl rfl rfl (Go.Proofs.Ytnjlcimeaoedcaa.W.quiet_bin rfl rfl rfl (fun W => bn_ne W _ _ _ _)) ?_
  refine WL.nil ?_
  refine TW.cond rfl (fun _ => ?_) (fun hb => absurd (by simpa using hb) hm)
  refine TW.sreg ?_
  refine WL.op rfl rfl rfl (Go.Proofs.Ytnjlcimeaoedcaa.W.quiet_move rfl rfl) ?_
  refine WL.call (hr := r_may l a n c hn hfew _ w2 (hat.fr (f1.trans f2) (fun _ h => h.elim))) rfl rfl rfl rfl rfl (fun W => cf_may W _) ?_
  rintro e w3 ⟨rfl, f3⟩
  refine ⟨_, rfl, ?_⟩
  have r3 := (r1.fr f2 id).fr f3 id
  refine WL.gen rfl rfl rfl (fun e h _ => by simp only [execOp, List.map_toArray, List.map_cons, List.map_nil, h (.tmp 13) _ rfl, Sem.run_bind, bd_m, Result.andThen_ok, Sem.run_pure]; rfl) ?_
  refine WL.store rfl rfl rfl rfl rfl (st_m _ _ _ r3 rfl _ _ _ _ _ _ _) ?_
  refine WL.nil ?_
  have r4 := ((r3.set 0 (.slice none 0 0)).set 1 (.slice none 0 0)).set 2 (.int .i64 (mayI l))
  have f4 : Fr (fun _ => False) w (((w3.setCell ⟨b2, 0, none⟩ (.slice none 0 0)).setCell ⟨b2, 1, none⟩ (.slice none 0 0)).setCell ⟨b2, 2, none⟩ (.int .i64 (mayI l))) := fr_set (fr_set (fr_set (f1.trans (f2.trans f3)) (by omega) 0 _) (by omega) 1 _) (by omega) 2 _
  refine TW.rt ?_
  repeat (with_reducible first | refine Xw.thn (by simp) ?_ | refine Xw.rblk ?_)
  refine bodyw_retc rfl rfl r4 Try.underlying31 rfl (by kernel_rfl) ?_
  exact ⟨rfl, f4⟩
def MadeP (ws ls : List Int) (w : World) (e : Ending) (w' : World) : Prop := ∃ a ca b cb, e = .returned (.agg #[.slice a ws.length ca, .slice b ls.length cb, .int .i64 0]) ∧ Fr (fun _ => False) w w' ∧
  (∀ k, k < ws.length → ∃ g, a = some ⟨g, 0, none⟩ ∧ w'.cell? ⟨g, k, none⟩ = some (.int .u32 (ws.getD k 0))) ∧ (∀ k, k < ls.length → ∃ g, b = some ⟨g, 0, none⟩ ∧ w'.cell? ⟨g, k, none⟩ = some (.int .i64 (ls.getD k 0)))
set_option maxRecDepth 100000 in
set_option maxHeartbeats 6400000 in
theorem r_asm (l : List It) (a : Option Addr) (n c : Nat) (hn : n = l.length) (hfew : n ≤ 32768) (hright : ∀ k, k < l.length → rightB (l.getD k it0) = true) (hlk : lackK l (accL l) l.length = false) (hm : mayI l = 0) (w : World) (hat : ItAt w.heap.size w a l) : Calls Try.prog 8 #[.slice a n c] w (MadeP (wrdD l n) (labD l (szF l (farL l)) n) w) := by
  have hfewl : l.length ≤ 32768 := by omega
  refine calls_tw Try.func8 rfl rfl (Nat.le_of_ble_eq_true rfl) ?_
  refine TW.sreg ?_
  refine WL.alloc rfl rfl rfl rfl (al_m _) ?_
  refine WL.nil ?_
  have f1 := fr_al (Fr.refl (fun _ => False) w) (.cells #[.slice none 0 0, .slice none 0 0, .int .i64 0] TM)
  have r1 := Rw.new w #[.slice none 0 0, .slice none 0 0, .int .i64 0] TM
  generalize w.alloc (.cells #[.slice none 0 0, .slice none 0 0, .int .i64 0] TM) = w1 at *
  obtain ⟨b2, hb2⟩ : ∃ q, w.heap.size = q := ⟨_, rfl⟩
  rw [hb2] at r1 ⊢
  refine TW.seq ?_
  refine TW.sreg ?_
  refine WL.op rfl rfl rfl (Go.Proofs.Ytnjlcimeaoedcaa.W.quiet_move rfl rfl) ?_
  refine WL.call (hr := r_may l a n c hn hfew _ w1 (hat.fr f1 (fun _ h => h.elim))) rfl rfl rfl rfl rfl (fun W => cf_may W _) ?_
  rintro e w2 ⟨rfl, f2⟩
  refine ⟨_, rfl, ?_⟩
  refine WL.op rfl rfl rfl (Go.Proofs.Ytnjlcimeaoedcaa.W.quiet_bin rfl rfl rfl (fun W => bn_ne W _ _ _ _)) ?_
  refine WL.nil ?_
  rw [hm]
  refine TW.cond rfl (fun hb => by cases hb) (fun _ => ?_)
  refine TW.skip ?_
  replace r1 := r1.fr f2 id
  replace f1 := f1.trans f2
  clear f2
  refine TW.sreg ?_
  refine WL.op rfl rfl rfl (Go.Proofs.Ytnjlcimeaoedcaa.W.quiet_move rfl rfl) ?_
  refine WL.call (hr := r_far l a n c hn hfew hright hlk w2 ((hat.fr f1 (fun _ h => h.elim)).mono f1.size)) rfl rfl rfl rfl rfl (fun W => cf_far W _) ?_
  rintro e w3 ⟨gf, rfl, hrow, f3⟩
  refine ⟨_, rfl, ?_⟩
  refine WL.op rfl rfl rfl (Go.Proofs.Ytnjlcimeaoedcaa.W.quiet_assign rfl rfl) ?_
  refine WL.nil ?_
  replace r1 := r1.fr f3 id
  replace f1 := f1.trans f3
  clear f3 w1 w2
  have hF := fun k => far_br l (golL l) l.length k
  have hz : ∀ k, k < n → szI (l.getD k it0) (farL l k) = 4 * (szF l (farL l)).getD k 0 := fun k hk => sz_is (by omega) (hright k (by omega)) (hF k)
  have hsl : (szF l (farL l)).length = n := by rw [szF_len]; exact hn.symm
  have hsz := szF_in l (farL l)
  refine TW.sreg ?_
  refine WL.op rfl rfl rfl (Go.Proofs.Ytnjlcimeaoedcaa.W.quiet_move rfl rfl) ?_
  refine WL.op rfl rfl rfl (Go.Proofs.Ytnjlcimeaoedcaa.W.quiet_move rfl rfl) ?_
  refine WL.call (hr := r_places l (farL l) (szF l (farL l)) a n c gf n hn hfew hsl hsz hz (fun k hk h5 => ⟨(right_5 (hright k (by omega)) h5).2.1, (right_5 (hright k (by omega)) h5).2.2.1⟩) w.heap.size w3 (hat.fr f1 (fun _ h => h.elim)) (fun k hk => hrow.cell hk)) rfl rfl rfl rfl rfl (fun W => cf_plc W _) ?_
  rintro e wp ⟨vp, rfl, hnum, f4⟩
  refine ⟨_, rfl, ?_⟩
  obtain ⟨aa, ac, rfl, hca⟩ := hnum.form
  rw [atP_len] at hca ⊢
  obtain ⟨ga, rfl, qa, qb⟩ := hca 0 (by omega)
  have hat4 : ∀ j, j < n + 1 → wp.cell? ⟨ga, j, none⟩ = some (.int .i64 (4 * sumK (szF l (farL l)) j)) := fun j hj => by
    obtain ⟨g, e, _, h⟩ := hca j hj
    cases e
    rw [h, show (atP (szF l (farL l)) (n + 1)).getD j 0 = 4 * sumK (szF l (farL l)) j by unfold atP; simp [List.getD_eq_getElem?_getD, hj]]
  clear hca hnum qa qb
  replace hrow := hrow.fr f4 id
  replace r1 := r1.fr f4 id
  replace f1 := f1.trans f4
  clear f4 w3
  refine WL.op rfl rfl rfl (Go.Proofs.Ytnjlcimeaoedcaa.W.quiet_assign rfl rfl) ?_
  refine WL.nil ?_
  refine TW.sreg ?_
  refine WL.alloc rfl rfl rfl rfl (al_m _) ?_
  refine WL.nil ?_
  have f5 := fr_al (Fr.refl (fun _ => False) wp) (.cells #[.slice none 0 0, .slice none 0 0, .int .i64 0] TM)
  have d5 : DW (wp.alloc (.cells #[.slice none 0 0, .slice none 0 0, .int .i64 0] TM)) (wp.alloc (.cells #[.slice none 0 0, .slice none 0 0, .int .i64 0] TM)) wp.heap.size (.slice none 0 0) (.slice none 0 0) [] [] := ⟨alloc_lt _ _, Rw.new _ _ _, World.ownsRow_nil _ _ _ _, World.ownsRow_nil _ _ _ _, Fr.refl _ _⟩
  have hb2p : b2 < wp.heap.size := r1.lt
  generalize wp.alloc (.cells #[.slice none 0 0, .slice none 0 0, .int .i64 0] TM) = w1 at *
  obtain ⟨bo, hbo⟩ : ∃ q, wp.heap.size = q := ⟨_, rfl⟩
  rw [hbo] at d5 hb2p ⊢
  have FP : ∀ {W : World} {vw va : Value} {ws xs : List Int}, DW w1 W bo vw va ws xs → Fr (fun _ => False) wp W := fun h => f5.trans' h.fr (fun j hj e => by omega)
  refine TW.seq ?_
  refine TW.seq ?_
  refine TW.reg ?_
  refine WL.op rfl rfl rfl (Go.Proofs.Ytnjlcimeaoedcaa.W.quiet_assign rfl rfl) ?_
  refine WL.nil ?_
  refine TW.block ?_
  refine TW.loop (t := 6) (n := n) (fun j b wr => ∃ vw va, Kn Try.f8.ntmps [(6, .int .i64 ((j : Nat) : Int)), (2, .pointer (some ⟨b2, 0, none⟩)), (3, .slice (some ⟨gf, 0, none⟩) n n), (4, .slice (some ⟨ga, 0, none⟩) (n + 1) ac), (5, .pointer (some ⟨bo, 0, none⟩)), (0, .slice a n c)] b ∧ DW w1 wr bo vw va (wrdD l j) (labD l (szF l (farL l)) j)) (fun j b wr h => by obtain ⟨_, _, h, _⟩ := h; exact h.has 6 _ rfl) (fun b h => ⟨_, _, by (repeat (refine Kn.cons h rfl ?_)); exact h.base, d5⟩) ?_
  rintro j b wr hj ⟨vw, va, hkn, hD⟩
  refine TW.app ?_ hkn
  clear hkn b d5
  have hfp := FP hD
  have Blt := fun xo yo W => bn_lt W xo yo (j : Int) (n : Int)
  refine TW.seq ?_
  refine TW.sreg ?_
  refine WL.op rfl rfl rfl (Go.Proofs.Ytnjlcimeaoedcaa.W.quiet_move rfl rfl) ?_
  refine WL.op rfl rfl rfl (Go.Proofs.Ytnjlcimeaoedcaa.W.quiet_move rfl rfl) ?_
  refine WL.op rfl rfl rfl (Go.Proofs.Ytnjlcimeaoedcaa.W.quiet_len rfl rfl (fun W => ln_t W _ _ _)) ?_
  refine WL.op rfl rfl rfl (Go.Proofs.Ytnjlcimeaoedcaa.W.quiet_bin rfl rfl rfl (Blt _ _)) ?_
  refine WL.nil ?_
  refine TW.cond rfl (fun hlt => ?_) (fun hge => ?_)
  rotate_left
  · have hjn : j = n := by have := of_decide_eq_false hge; omega
    refine TW.exit ?_
    repeat (with_reducible refine Xw.thn (by simp) ?_)
    refine Xw.hit ?_
    refine Xw.nrm ?_
    subst hjn
    obtain ⟨aw, cw, rfl, hcw⟩ := hD.wr.form
    obtain ⟨al, cl, rfl, hcl⟩ := hD.nr.form
    refine TW.sreg ?_
    refine WL.ld rfl rfl rfl rfl rfl (ld_m _ _ _ _ _ _ (hD.out.cell rfl) (hD.out.cell rfl) (hD.out.cell rfl)) ?_
    have r2 := r1.fr hfp id
    refine WL.store rfl rfl rfl rfl rfl (st_m _ _ _ r2 rfl _ _ _ _ _ _ _) ?_
    refine WL.nil ?_
    have r4 := ((r2.set 0 (.slice aw (wrdD l j).length cw)).set 1 (.slice al (labD l (szF l (farL l)) j).length cl)).set 2 (.int .i64 0)
    have fs : Fr (fun q => q = b2) wr (((wr.setCell ⟨b2, 0, none⟩ (.slice aw (wrdD l j).length cw)).setCell ⟨b2, 1, none⟩ (.slice al (labD l (szF l (farL l)) j).length cl)).setCell ⟨b2, 2, none⟩ (.int .i64 0)) := ((Fr.setCell (F := fun q => q = b2) _ ⟨b2, 0, none⟩ _ rfl).trans (Fr.setCell (F := fun q => q = b2) _ ⟨b2, 1, none⟩ _ rfl)).trans (Fr.setCell (F := fun q => q = b2) _ ⟨b2, 2, none⟩ _ rfl)
    have f9 := (f1.trans hfp).trans' fs (fun q hq e => by omega)
    have hgb := hD.lt
    generalize (((wr.setCell ⟨b2, 0, none⟩ (.slice aw (wrdD l j).length cw)).setCell ⟨b2, 1, none⟩ (.slice al (labD l (szF l (farL l)) j).length cl)).setCell ⟨b2, 2, none⟩ (.int .i64 0)) = w9 at *
    refine TW.rt ?_
    repeat (with_reducible first | refine Xw.thn (by simp) ?_ | refine Xw.rblk ?_)
    refine bodyw_retc rfl rfl r4 Try.underlying31 rfl (by kernel_rfl) ?_
    refine ⟨aw, cw, al, cl, rfl, f9, fun k hk => ?_, fun k hk => ?_⟩
    · obtain ⟨g, e, hb, h⟩ := hcw k hk
      exact ⟨g, e, fs.cell h (by show ¬g = b2; omega)⟩
    · obtain ⟨g, e, hb, h⟩ := hcl k hk
      exact ⟨g, e, fs.cell h (by show ¬g = b2; omega)⟩
  have hlt' : j < n := by have := of_decide_eq_true hlt; omega
  have hgb := hD.lt
  refine TW.skip ?_
  refine TW.seq ?_
  refine TW.block ?_
  obtain ⟨hins, hfit⟩ := ins_some hfewl hright hlk (k := j) (by omega)
  have hrj := hright j (by omega)
  have hwl := wrdD_len hfewl hright hlk j (by omega)
  have hll := labD_len hright (szF l (farL l)) j (by omega)
  have hil := insD_len hins
  have hws : wrdD l (j + 1) = wrdD l j ++ (insD l j).map encI := rfl
  have hls : labD l (szF l (farL l)) (j + 1) = if (l.getD j it0).k = 2 then (extL (labD l (szF l (farL l)) j) ((l.getD j it0).lab.toNat + 1)).set (l.getD j it0).lab.toNat (4 * sumK (szF l (farL l)) j) else labD l (szF l (farL l)) j := rfl
  refine TW.sreg ?_
  refine WL.op rfl rfl rfl (Go.Proofs.Ytnjlcimeaoedcaa.W.quiet_move rfl rfl) ?_
  refine WL.op rfl rfl rfl (Go.Proofs.Ytnjlcimeaoedcaa.W.quiet_move rfl rfl) ?_
  refine WL.op rfl rfl rfl (Go.Proofs.Ytnjlcimeaoedcaa.W.quiet_move rfl rfl) ?_
  refine WL.op rfl rfl rfl (Go.Proofs.Ytnjlcimeaoedcaa.W.quiet_move rfl rfl) ?_
  refine WL.call (hr := r_insts l (farL l) a n c ga ac gf j (insD l j) hn hfew hlt' hrj (hF j) hlk hins wr ((hat.fr (f1.trans hfp) (fun _ h => h.elim)).mono (f1.trans hfp).size) (fun q hq => hfp.cell (hat4 q hq) id) (hfp.cell (hrow.cell hlt') id)) rfl rfl rfl rfl rfl (fun W => cf_ins W _) ?_
  rintro e w4 ⟨ai, ci, rfl, hin, f4, hge⟩
  refine ⟨_, rfl, ?_⟩
  refine WL.op rfl rfl rfl (Go.Proofs.Ytnjlcimeaoedcaa.W.quiet_assign rfl rfl) ?_
  refine WL.nil ?_
  have hown : ∀ g o, ai = some ⟨g, o, none⟩ → vw.ownBlock ≠ some g := fun g o e q => by have := (hge g o e).1; have := (own_ge hD.wr q).2; omega
  have hgbo : ∀ g o, ai = some ⟨g, o, none⟩ → g ≠ bo ∧ o = 0 := fun g o e => ⟨by have := (hge g o e).1; have := hD.fr.size; omega, (hge g o e).2⟩
  replace hD := hD.keep f4
  clear f4 hge hfp hins
  obtain ⟨x, hx⟩ : ∃ q, l.getD j it0 = q := ⟨_, rfl⟩
  rw [hx] at hls hrj
  generalize labD l (szF l (farL l)) j = xs at *
  obtain ⟨xs2, exs⟩ : ∃ q, labD l (szF l (farL l)) (j + 1) = q := ⟨_, rfl⟩
  obtain ⟨ws2, ews⟩ : ∃ q, wrdD l (j + 1) = q := ⟨_, rfl⟩
  rw [exs] at hls
  rw [ews] at hws
  generalize wrdD l j = ws at *
  generalize insD l j = L at *
  refine TW.seq ?_
  refine TW.sreg ?_
  refine WL.op rfl rfl rfl (Go.Proofs.Ytnjlcimeaoedcaa.W.quiet_assign rfl rfl) ?_
  refine WL.nil ?_
  refine TW.block ?_
  refine TW.loop (t := 8) (n := L.length) (fun k b W => ∃ vw, Kn Try.f8.ntmps [(8, .int .i64 ((k : Nat) : Int)), (7, .slice ai L.length ci), (6, .int .i64 ((j : Nat) : Int)), (2, .pointer (some ⟨b2, 0, none⟩)), (3, .slice (some ⟨gf, 0, none⟩) n n), (4, .slice (some ⟨ga, 0, none⟩) (n + 1) ac), (5, .pointer (some ⟨bo, 0, none⟩)), (0, .slice a n c)] b ∧ DW w1 W bo vw va (ws ++ (L.map encI).take k) xs ∧ InAt W ai L ∧ (∀ g o, ai = some ⟨g, o, none⟩ → vw.ownBlock ≠ some g)) (fun k b W h => by obtain ⟨_, h, _⟩ := h; exact h.has 8 _ rfl) (fun b h => ⟨vw, by (repeat (refine Kn.cons h rfl ?_)); exact h.base, by rw [List.take_zero, List.append_nil]; exact hD, hin, hown⟩) ?_
  clear hD hin hown w4 wr vw
  rintro k b W hk ⟨vw, hkn, hD, hin, hown⟩
  refine TW.app ?_ hkn
  clear hkn b
  have hfp := FP hD
  have Blk := fun xo yo W => bn_lt W xo yo (k : Int) (L.length : Int)
  obtain ⟨gx, ox, rfl, hgx, x0, x1, x2, x3, x4, x5, x6⟩ := (hat.fr f1 (fun _ h => h.elim)).get hfp (fun _ h => h.elim) j (by omega) x hx
  refine TW.seq ?_
  refine TW.sreg ?_
  refine WL.op rfl rfl rfl (Go.Proofs.Ytnjlcimeaoedcaa.W.quiet_move rfl rfl) ?_
  refine WL.op rfl rfl rfl (Go.Proofs.Ytnjlcimeaoedcaa.W.quiet_move rfl rfl) ?_
  refine WL.op rfl rfl rfl (Go.Proofs.Ytnjlcimeaoedcaa.W.quiet_len rfl rfl (fun W => ln_n W _ _ _)) ?_
  refine WL.op rfl rfl rfl (Go.Proofs.Ytnjlcimeaoedcaa.W.quiet_bin rfl rfl rfl (Blk _ _)) ?_
  refine WL.nil ?_
  have IXX := fun W => ixt W gx ox n c j hlt'
  refine TW.cond rfl (fun hlt => ?_) (fun hge => ?_)
  rotate_left
  · have hkn : k = L.length := by have := of_decide_eq_false hge; omega
    refine TW.exit ?_
    repeat (with_reducible refine Xw.thn (by simp) ?_)
    refine Xw.hit ?_
    refine Xw.nrm ?_
    rw [hkn, List.take_of_length_le (by simp), ← hws] at hD
    clear hin hown Blk hge
    obtain ⟨k2, hk2⟩ : ∃ q, (x.k == 2) = q := ⟨_, rfl⟩
    refine TW.sreg ?_
    refine WL.op rfl rfl rfl (Go.Proofs.Ytnjlcimeaoedcaa.W.quiet_move rfl rfl) ?_
    refine WL.op rfl rfl rfl (Go.Proofs.Ytnjlcimeaoedcaa.W.quiet_move rfl rfl) ?_
    refine WL.op rfl rfl rfl (Go.Proofs.Ytnjlcimeaoedcaa.W.quiet_index rfl rfl rfl IXX) ?_
    refine WL.op rfl rfl rfl (Go.Proofs.Ytnjlcimeaoedcaa.W.quiet_field rfl rfl (fun W => ft0 W _ _)) ?_
    refine WL.ld rfl rfl rfl rfl rfl (ld_int _ _ _ x0) ?_
    refine WL.op rfl rfl rfl (Go.Proofs.Ytnjlcimeaoedcaa.W.quiet_bin rfl rfl rfl (fun W => bn_eq W _ _ _ _)) ?_
    refine WL.nil ?_
    rw [hk2]
    have BJ := fun xo yo W => bn_add W xo yo (j : Int) 1 (by omega) (by omega)
    refine TW.cond rfl (fun hb => ?_) (fun hb => ?_)
    rotate_left
    · rw [if_neg (by rw [← hk2] at hb; simpa using hb)] at hls
      refine TW.skipx ?_
      repeat (with_reducible refine Xw.nblk ?_)
      refine Xw.nrm ?_
      refine TW.reg ?_
      refine WL.op rfl rfl rfl (Go.Proofs.Ytnjlcimeaoedcaa.W.quiet_move rfl rfl) ?_
      refine WL.op rfl rfl rfl (Go.Proofs.Ytnjlcimeaoedcaa.W.quiet_bin rfl rfl rfl (BJ _ _)) ?_
      refine WL.op rfl rfl rfl (Go.Proofs.Ytnjlcimeaoedcaa.W.quiet_assign rfl rfl) ?_
      refine WL.end ?_
      refine Xw.any fun b h => ⟨j + 1, by omega, by omega, vw, va, by (repeat (refine Kn.cons h rfl ?_)); exact h.base, by rw [exs, ews, hls]; exact hD⟩
    have h2 : x.k = 2 := by rw [← hk2] at hb; simpa using hb
    rw [if_pos h2] at hls
    have hlb := (right_lab hrj).1 h2
    unfold labB at hlb
    simp only [Bool.and_eq_true, decide_eq_true_eq] at hlb
    obtain ⟨lb, hlb'⟩ : ∃ q : Nat, x.lab = (q : Int) := ⟨x.lab.toNat, by omega⟩
    rw [hlb'] at x6 hls hlb
    rw [Int.toNat_natCast] at hls
    refine TW.seq ?_
    refine TW.block ?_
    refine TW.loopG (n := max xs.length (lb + 1)) (fun _ w => match w.cell? ⟨bo, 1, none⟩ with | some (.slice _ m _) => m | _ => 0) (fun m b W => ∃ va, Kn Try.f8.ntmps [(6, .int .i64 ((j : Nat) : Int)), (2, .pointer (some ⟨b2, 0, none⟩)), (3, .slice (some ⟨gf, 0, none⟩) n n), (4, .slice (some ⟨ga, 0, none⟩) (n + 1) ac), (5, .pointer (some ⟨bo, 0, none⟩)), (0, .slice (some ⟨gx, ox, none⟩) n c)] b ∧ DW w1 W bo vw va ws2 (extL xs m) ∧ xs.length ≤ m) (fun m b W h => ?hval) xs.length (by omega) (fun b h => ⟨va, by (repeat (refine Kn.cons h rfl ?_)); exact h.base, by rw [extL_self (Nat.le_refl _)]; exact hD, Nat.le_refl _⟩) ?_
    case hval =>
      obtain ⟨va, _, hd, hm⟩ := h
      obtain ⟨al, cl, rfl, _⟩ := hd.nr.form
      have := hd.out.cell (j := 1) rfl
      rw [this]
      show (extL xs m).length = m
      rw [extL_len]; omega
    clear x0 x1 x2 x3 x4 x5 x6 hD W va hfp
    rintro m b W hm ⟨va, hkn, hD, hxm⟩
    refine TW.app ?_ hkn
    clear hkn b
    have hfp := FP hD
    have hml : (extL xs m).length = m := by rw [extL_len]; omega
    obtain ⟨gx', ox', e', _, x0, x1, x2, x3, x4, x5, x6⟩ := (hat.fr f1 (fun _ h => h.elim)).get hfp (fun _ h => h.elim) j (by omega) x hx
    cases e'
    rw [hlb'] at x6
    obtain ⟨al, cl, rfl, hcl⟩ := hD.nr.form
    rw [hml] at hcl hD
    have LV : ∀ W', Fr (fun _ => False) W W' → (Instr.loadAt 26 (.pointer (some ⟨bo, 0 + 1, none⟩))).run Try.prog W' = .ok (.slice al m cl) W' := fun W' hf => ld_si _ _ _ ((hD.out.fr hf id).cell rfl)
    have LL : ∀ W', Fr (fun _ => False) W W' → (Instr.loadAt 3 (.pointer (some ⟨gx, ox + j * 7 + 6, none⟩))).run Try.prog W' = .ok (.int .i64 (lb : Int)) W' := fun W' hf => ld_int _ _ _ (hf.cell x6 id)
    have Ble := fun xo yo W => bn_le W xo yo (m : Int) (lb : Int)
    refine TW.to (fun W' => Fr (fun _ => False) W W') (Fr.refl _ _) ?_
    refine T.seq ?_
    refine T.sregD (by kernel_rfl) (by kernel_rfl) (fun W hW => hW.drewN 1) [(92, .bool (decide ((m : Int) ≤ (lb : Int)))), (6, .int .i64 ((j : Nat) : Int)), (2, .pointer (some ⟨b2, 0, none⟩)), (3, .slice (some ⟨gf, 0, none⟩) n n), (4, .slice (some ⟨ga, 0, none⟩) (n + 1) ac), (5, .pointer (some ⟨bo, 0, none⟩)), (0, .slice (some ⟨gx, ox, none⟩) n c)] ?_ ?_
    · refine Go.Proofs.Ytnjlcimeaoedcaa.W.op rfl rfl rfl (Go.Proofs.Ytnjlcimeaoedcaa.W.quiet_field rfl rfl (fun W => fm1 W _ _)) ?_
      refine Go.Proofs.Ytnjlcimeaoedcaa.W.op rfl rfl rfl (Go.Proofs.Ytnjlcimeaoedcaa.W.quiet_load rfl rfl LV) ?_
      refine Go.Proofs.Ytnjlcimeaoedcaa.W.op rfl rfl rfl (Go.Proofs.Ytnjlcimeaoedcaa.W.quiet_len rfl rfl (fun W => ln_i W _ _ _)) ?_
      refine Go.Proofs.Ytnjlcimeaoedcaa.W.op rfl rfl rfl (Go.Proofs.Ytnjlcimeaoedcaa.W.quiet_move rfl rfl) ?_
      refine Go.Proofs.Ytnjlcimeaoedcaa.W.op rfl rfl rfl (Go.Proofs.Ytnjlcimeaoedcaa.W.quiet_move rfl rfl) ?_
      refine Go.Proofs.Ytnjlcimeaoedcaa.W.op rfl rfl rfl (Go.Proofs.Ytnjlcimeaoedcaa.W.quiet_index rfl rfl rfl IXX) ?_
      refine Go.Proofs.Ytnjlcimeaoedcaa.W.op rfl rfl rfl (Go.Proofs.Ytnjlcimeaoedcaa.W.quiet_field rfl rfl (fun W => ft2 W _ _)) ?_
      refine Go.Proofs.Ytnjlcimeaoedcaa.W.op rfl rfl rfl (Go.Proofs.Ytnjlcimeaoedcaa.W.quiet_load rfl rfl LL) ?_
      refine Go.Proofs.Ytnjlcimeaoedcaa.W.op rfl rfl rfl (Go.Proofs.Ytnjlcimeaoedcaa.W.quiet_bin rfl rfl rfl (Ble _ _)) ?_
      exact Go.Proofs.Ytnjlcimeaoedcaa.W.nil (fun a h => by (repeat (refine Kn.cons h rfl ?_)); exact h.base)
    refine T.tw fun W2 hw2 => ?_
    replace hD := hD.keep hw2
    replace x6 := hw2.cell x6 id
    replace hfp := hfp.trans hw2
    clear LV LL hcl x0 x1 x2 x3 x4 x5
    clear hw2
    refine TW.cond rfl (fun hle => ?_) (fun hgt => ?_)
    rotate_left
    · have hmm : lb < m := by have := of_decide_eq_false hgt; omega
      have hex : extL xs m = extL xs (lb + 1) := by
        by_cases h : lb + 1 ≤ xs.length
        · rw [extL_self h, extL_self (by omega)]
        · rw [show m = lb + 1 by omega]
      refine TW.exit ?_
      repeat (with_reducible refine Xw.thn (by simp) ?_)
      refine Xw.hit ?_
      refine Xw.nrm ?_
      have ca := hfp.cell (hat4 j (by omega)) id
      obtain ⟨al', cl', e', hcl⟩ := hD.nr.form
      injection e' with e1 e2 e3
      subst e1
      obtain ⟨gv, rfl, hgv, _⟩ := hcl lb (by omega)
      have IXA := fun W => ixi W ga 0 (n + 1) ac j (by omega)
      have IXV := fun W => ixi W gv 0 m cl lb hmm
      refine TW.regH (fun W' => Fr (fun q => q = gv) W2 W') (by kernel_rfl) ?_
      have HW : Fr (fun q => q = gv) W2 W2.drew := (Fr.refl _ _).drewN 1
      have hd0 : DW w1 W2.drew bo vw (.slice (some ⟨gv, 0, none⟩) m cl) ws2 (extL xs m) := hD.keep ((Fr.refl (fun _ => False) W2).drewN 1)
      have hglt : ga < wp.heap.size := block_lt (hat4 j (by omega))
      have hgxl : ¬gx = gv := by have := f1.size; have := f5.size; omega
      have LV : ∀ W', Fr (fun q => q = gv) W2 W' → (Instr.loadAt 26 (.pointer (some ⟨bo, 0 + 1, none⟩))).run Try.prog W' = .ok (.slice (some ⟨gv, 0, none⟩) m cl) W' := fun W' hf => ld_si _ _ _ ((hD.out.fr hf (by omega)).cell rfl)
      have LL : ∀ W', Fr (fun q => q = gv) W2 W' → (Instr.loadAt 3 (.pointer (some ⟨gx, ox + j * 7 + 6, none⟩))).run Try.prog W' = .ok (.int .i64 (lb : Int)) W' := fun W' hf => ld_int _ _ _ (hf.cell x6 hgxl)
      have LA : ∀ W', Fr (fun q => q = gv) W2 W' → (Instr.loadAt 3 (.pointer (some ⟨ga, 0 + j, none⟩))).run Try.prog W' = .ok (.int .i64 (4 * sumK (szF l (farL l)) j)) W' := fun W' hf => ld_int _ _ _ (hf.cell (by rw [Nat.zero_add]; exact ca) (by show ¬ga = gv; have := f5.size; omega))
      generalize W2.drew = V at *
      refine WH.take 0 rfl (by kernel_rfl) (by kernel_rfl) (by kernel_rfl) (fun _ _ _ _ _ h => h) rfl rfl rfl HW (RH.field rfl rfl (fun W => fm1 W _ _)) ?_
      refine WH.take 1 rfl (by kernel_rfl) (by kernel_rfl) (by kernel_rfl) (fun _ _ _ _ _ h => h) rfl rfl rfl HW (RH.load rfl rfl LV) ?_
      refine WH.take 2 rfl (by kernel_rfl) (by kernel_rfl) (by kernel_rfl) (fun _ _ _ _ _ h => h) rfl rfl rfl HW (RH.move rfl rfl) ?_
      refine WH.take 3 rfl (by kernel_rfl) (by kernel_rfl) (by kernel_rfl) (fun _ _ _ _ _ h => h) rfl rfl rfl HW (RH.move rfl rfl) ?_
      refine WH.take 4 rfl (by kernel_rfl) (by kernel_rfl) (by kernel_rfl) (fun _ _ _ _ _ h => h) rfl rfl rfl HW (RH.index rfl rfl rfl IXX) ?_
      refine WH.take 5 rfl (by kernel_rfl) (by kernel_rfl) (by kernel_rfl) (fun _ _ _ _ _ h => h) rfl rfl rfl HW (RH.field rfl rfl (fun W => ft2 W _ _)) ?_
      refine WH.take 6 rfl (by kernel_rfl) (by kernel_rfl) (by kernel_rfl) (fun _ _ _ _ _ h => h) rfl rfl rfl HW (RH.load rfl rfl LL) ?_
      refine WH.take 7 rfl (by kernel_rfl) (by kernel_rfl) (by kernel_rfl) (fun _ _ _ _ _ h => h) rfl rfl rfl HW (RH.move rfl rfl) ?_
      refine WH.take 8 rfl (by kernel_rfl) (by kernel_rfl) (by kernel_rfl) (fun _ _ _ _ _ h => h) rfl rfl rfl HW (RH.move rfl rfl) ?_
      refine WH.take 9 rfl (by kernel_rfl) (by kernel_rfl) (by kernel_rfl) (fun _ _ _ _ _ h => h) rfl rfl rfl HW (RH.index rfl rfl rfl IXA) ?_
      refine WH.take 10 rfl (by kernel_rfl) (by kernel_rfl) (by kernel_rfl) (fun _ _ _ _ _ h => h) rfl rfl rfl HW (RH.load rfl rfl LA) ?_
      refine WH.one 11 (by kernel_rfl) rfl ?_
      refine WL.op rfl rfl rfl (Go.Proofs.Ytnjlcimeaoedcaa.W.quiet_index rfl rfl rfl IXV) ?_
      refine WL.fin HW ?_
      refine WH.one 12 (by kernel_rfl) rfl ?_
      have cv : ∃ q : Int, V.cell? ⟨gv, lb, none⟩ = some (.int .i64 q) := by
        obtain ⟨al', cl', e', hcl2⟩ := hd0.nr.form
        obtain ⟨g', e2, _, h⟩ := hcl2 lb (by omega)
        injection e' with e1
        rw [← e1] at e2
        cases e2
        exact ⟨_, h⟩
      obtain ⟨q0, cv⟩ := cv
      have fv : V.frozen? ⟨gv, lb, none⟩ = false := by
        have := hd0.nr
        unfold NumAt at this
        rw [hml] at this
        exact own_free this lb
      refine WL.store rfl rfl rfl rfl rfl (st_int _ _ q0 _ (by rw [Nat.zero_add]; exact cv) (by rw [Nat.zero_add]; exact fv)) ?_
      rw [Nat.zero_add]
      have hd2 := DW.put (xs := extL xs m) (by rw [hml]; exact hd0) (j := lb) (by omega) (4 * sumK (szF l (farL l)) j)
      rw [hex, ← hls] at hd2
      refine WL.fin (HW.trans (Fr.setCell (F := fun q => q = gv) V ⟨gv, lb, none⟩ _ rfl)) ?_
      generalize V.setCell ⟨gv, lb, none⟩ (.int .i64 (4 * sumK (szF l (farL l)) j)) = V2 at *
      refine WH.end (by kernel_rfl) ?_
      repeat (with_reducible refine Xw.nblk ?_)
      refine Xw.nrm ?_
      refine TW.reg ?_
      refine WL.op rfl rfl rfl (Go.Proofs.Ytnjlcimeaoedcaa.W.quiet_move rfl rfl) ?_
      refine WL.op rfl rfl rfl (Go.Proofs.Ytnjlcimeaoedcaa.W.quiet_bin rfl rfl rfl (BJ _ _)) ?_
      refine WL.op rfl rfl rfl (Go.Proofs.Ytnjlcimeaoedcaa.W.quiet_assign rfl rfl) ?_
      refine WL.end ?_
      refine Xw.any fun b h => ⟨j + 1, by omega, by omega, vw, _, by (repeat (refine Kn.cons h rfl ?_)); exact h.base, by rw [exs, ews]; exact hd2⟩
    have hmm : m ≤ lb := by have := of_decide_eq_true hle; omega
    refine TW.skip ?_
    refine TW.block ?_
    refine TW.reg ?_
    refine WL.op rfl rfl rfl (Go.Proofs.Ytnjlcimeaoedcaa.W.quiet_field rfl rfl (fun W => fm1 W _ _)) ?_
    refine WL.ld rfl rfl rfl rfl rfl (ld_si _ _ _ (hD.out.cell rfl)) ?_
    refine WL.bslice rfl rfl rfl rfl rfl (bs_i _ _) ?_
    refine WL.append rfl rfl rfl rfl rfl rfl (apd_n _ _ hD (by omega)) (fun v' W3 hq => ?_)
    obtain ⟨hrw, hd2⟩ := hq
    obtain ⟨al2, cl2, rfl, _⟩ := hd2.nr.form
    refine WL.op rfl rfl rfl (Go.Proofs.Ytnjlcimeaoedcaa.W.quiet_field rfl rfl (fun W => fm1 W _ _)) ?_
    refine WL.store rfl rfl rfl rfl rfl (st_si _ _ _ _ _ _ (hrw.cell rfl) (hrw.free _)) ?_
    refine WL.end ?_
    repeat (with_reducible refine Xw.nblk ?_)
    refine Xw.any fun b h => ⟨m + 1, by omega, by omega, _, by (repeat (refine Kn.cons h rfl ?_)); exact h.base, by rw [extL_succ hxm]; exact hd2, by omega⟩
  have hlk' : k < L.length := by have := of_decide_eq_true hlt; omega
  refine TW.skip ?_
  refine TW.seq ?_
  refine TW.block ?_
  obtain ⟨i, hi⟩ : ∃ q, L.getD k in0 = q := ⟨_, rfl⟩
  have hif : fitI i = true := hfit i (by rw [← hi, List.getD_eq_getElem?_getD, List.getElem?_eq_getElem hlk']; exact List.getElem_mem hlk')
  obtain ⟨gi, oi, rfl, y0, y1, y2, y3, y4⟩ := hin.get5 hlk' i hi
  obtain ⟨hg1, rfl⟩ := hgbo gi oi rfl
  have hown1 := hown gi 0 rfl
  clear hgbo hown
  have IXN := fun W => ixn W gi 0 L.length ci k hlk'
  have him := imm_3 hif
  have htk : ws ++ (L.map encI).take (k + 1) = ws ++ (L.map encI).take k ++ [encI i] := by
    rw [List.append_assoc, List.take_add_one, List.getElem?_map, List.getElem?_eq_getElem hlk']
    rw [List.getD_eq_getElem?_getD, List.getElem?_eq_getElem hlk'] at hi
    simp at hi
    rw [hi]
    rfl
  have LO : ∀ W', W' = W → (Instr.loadAt 3 (.pointer (some ⟨gi, 0 + k * 5, none⟩))).run Try.prog W' = .ok (.int .i64 i.op) W' := fun W' e => by rw [e]; exact ld_int _ _ _ y0
  have LI : ∀ W', W' = W → (Instr.loadAt 3 (.pointer (some ⟨gi, 0 + k * 5 + 4, none⟩))).run Try.prog W' = .ok (.int .i64 i.imm) W' := fun W' e => by rw [e]; exact ld_int _ _ _ y4
  have LK : ∀ W', W' = W → (Instr.loadAt 3 (.pointer (some ⟨gx, ox + j * 7, none⟩))).run Try.prog W' = .ok (.int .i64 x.k) W' := fun W' e => by rw [e]; exact ld_int _ _ _ x0
  obtain ⟨b3, hb3⟩ : ∃ q, (i.op == 3) = q := ⟨_, rfl⟩
  have Bb3 : ∀ (xo yo : Operand) (W : World), (do eqGuard .eql 3 xo yo (.int .i64 i.op) (.int .i64 3); binOp .eql 3 (.int .i64 i.op) (.int .i64 3) : Sem Value).run Try.prog W = .ok (.bool b3) W := fun xo yo W => by rw [← hb3]; exact bn_eq W xo yo i.op (3)
  obtain ⟨bk, hbk⟩ : ∃ q, (x.k != 1) = q := ⟨_, rfl⟩
  have Bbk : ∀ (xo yo : Operand) (W : World), (do eqGuard .neq 3 xo yo (.int .i64 x.k) (.int .i64 1); binOp .neq 3 (.int .i64 x.k) (.int .i64 1) : Sem Value).run Try.prog W = .ok (.bool bk) W := fun xo yo W => by rw [← hbk]; exact bn_ne W xo yo x.k (1)
  obtain ⟨lo, hlo⟩ : ∃ q, decide (i.imm < -1048576) = q := ⟨_, rfl⟩
  have Blo : ∀ (xo yo : Operand) (W : World), (do eqGuard .lss 3 xo yo (.int .i64 i.imm) (.int .i64 (-1048576)); binOp .lss 3 (.int .i64 i.imm) (.int .i64 (-1048576)) : Sem Value).run Try.prog W = .ok (.bool lo) W := fun xo yo W => by rw [← hlo]; exact bn_lt W xo yo i.imm ((-1048576))
  obtain ⟨hh, hhh⟩ : ∃ q, decide ((1048574 : Int) < i.imm) = q := ⟨_, rfl⟩
  have Bhh : ∀ (xo yo : Operand) (W : World), (do eqGuard .gtr 3 xo yo (.int .i64 i.imm) (.int .i64 1048574); binOp .gtr 3 (.int .i64 i.imm) (.int .i64 1048574) : Sem Value).run Try.prog W = .ok (.bool hh) W := fun xo yo W => by rw [← hhh]; exact bn_gt W xo yo i.imm (1048574)
  have hbb : b3 = true → lo = false ∧ hh = false := fun e => by
    have := him (by rw [← hb3] at e; simpa using e)
    exact ⟨by rw [← hlo]; exact decide_eq_false (by omega), by rw [← hhh]; exact decide_eq_false (by omega)⟩
  clear hb3 hbk hlo hhh him
  refine TW.to (fun W' => W' = W) rfl ?_
  refine T.seq ?_
  refine T.sreg [(66, .bool false), (8, .int .i64 ((k : Nat) : Int)), (7, .slice (some ⟨gi, 0, none⟩) L.length ci), (6, .int .i64 ((j : Nat) : Int)), (2, .pointer (some ⟨b2, 0, none⟩)), (3, .slice (some ⟨gf, 0, none⟩) n n), (4, .slice (some ⟨ga, 0, none⟩) (n + 1) ac), (5, .pointer (some ⟨bo, 0, none⟩)), (0, .slice (some ⟨gx, ox, none⟩) n c)] ?_ ?_
  · cases b3 <;> cases bk
    all_goals try (obtain ⟨e1, e2⟩ := hbb rfl; subst e1; subst e2)
    all_goals
      refine Go.Proofs.Ytnjlcimeaoedcaa.W.op rfl rfl rfl (Go.Proofs.Ytnjlcimeaoedcaa.W.quiet_move rfl rfl) ?_
      refine Go.Proofs.Ytnjlcimeaoedcaa.W.op rfl rfl rfl (Go.Proofs.Ytnjlcimeaoedcaa.W.quiet_move rfl rfl) ?_
      refine Go.Proofs.Ytnjlcimeaoedcaa.W.op rfl rfl rfl (Go.Proofs.Ytnjlcimeaoedcaa.W.quiet_index rfl rfl rfl (by first | exact IXN | exact IXX)) ?_
      refine Go.Proofs.Ytnjlcimeaoedcaa.W.op rfl rfl rfl (Go.Proofs.Ytnjlcimeaoedcaa.W.quiet_field rfl rfl (fun W => fn0 W _ _)) ?_
      refine Go.Proofs.Ytnjlcimeaoedcaa.W.op rfl rfl rfl (Go.Proofs.Ytnjlcimeaoedcaa.W.quiet_load rfl rfl (by first | exact LO | exact LI | exact LK)) ?_
      refine Go.Proofs.Ytnjlcimeaoedcaa.W.op rfl rfl rfl (Go.Proofs.Ytnjlcimeaoedcaa.W.quiet_bin rfl rfl rfl (by first | exact Bb3 _ _ | exact Bbk _ _ | exact Blo _ _ | exact Bhh _ _)) ?_
      refine Go.Proofs.Ytnjlcimeaoedcaa.W.op rfl rfl rfl (Go.Proofs.Ytnjlcimeaoedcaa.W.quiet_move rfl rfl) ?_
      first | refine Go.Proofs.Ytnjlcimeaoedcaa.W.skip rfl rfl rfl ?_ | refine Go.Proofs.Ytnjlcimeaoedcaa.W.op rfl rfl rfl (Go.Proofs.Ytnjlcimeaoedcaa.W.quiet_move rfl rfl) ?_
      first | refine Go.Proofs.Ytnjlcimeaoedcaa.W.skip rfl rfl rfl ?_ | refine Go.Proofs.Ytnjlcimeaoedcaa.W.op rfl rfl rfl (Go.Proofs.Ytnjlcimeaoedcaa.W.quiet_move rfl rfl) ?_
      first | refine Go.Proofs.Ytnjlcimeaoedcaa.W.skip rfl rfl rfl ?_ | refine Go.Proofs.Ytnjlcimeaoedcaa.W.op rfl rfl rfl (Go.Proofs.Ytnjlcimeaoedcaa.W.quiet_index rfl rfl rfl (by first | exact IXN | exact IXX)) ?_
      first | refine Go.Proofs.Ytnjlcimeaoedcaa.W.skip rfl rfl rfl ?_ | refine Go.Proofs.Ytnjlcimeaoedcaa.W.op rfl rfl rfl (Go.Proofs.Ytnjlcimeaoedcaa.W.quiet_field rfl rfl (fun W => ft0 W _ _)) ?_
      first | refine Go.Proofs.Ytnjlcimeaoedcaa.W.skip rfl rfl rfl ?_ | refine Go.Proofs.Ytnjlcimeaoedcaa.W.op rfl rfl rfl (Go.Proofs.Ytnjlcimeaoedcaa.W.quiet_load rfl rfl (by first | exact LO | exact LI | exact LK)) ?_
      first | refine Go.Proofs.Ytnjlcimeaoedcaa.W.skip rfl rfl rfl ?_ | refine Go.Proofs.Ytnjlcimeaoedcaa.W.op rfl rfl rfl (Go.Proofs.Ytnjlcimeaoedcaa.W.quiet_bin rfl rfl rfl (by first | exact Bb3 _ _ | exact Bbk _ _ | exact Blo _ _ | exact Bhh _ _)) ?_
      refine Go.Proofs.Ytnjlcimeaoedcaa.W.op rfl rfl rfl (Go.Proofs.Ytnjlcimeaoedcaa.W.quiet_pick rfl rfl rfl) ?_
      refine Go.Proofs.Ytnjlcimeaoedcaa.W.op rfl rfl rfl (Go.Proofs.Ytnjlcimeaoedcaa.W.quiet_move rfl rfl) ?_
      first | refine Go.Proofs.Ytnjlcimeaoedcaa.W.skip rfl rfl rfl ?_ | refine Go.Proofs.Ytnjlcimeaoedcaa.W.op rfl rfl rfl (Go.Proofs.Ytnjlcimeaoedcaa.W.quiet_move rfl rfl) ?_
      first | refine Go.Proofs.Ytnjlcimeaoedcaa.W.skip rfl rfl rfl ?_ | refine Go.Proofs.Ytnjlcimeaoedcaa.W.op rfl rfl rfl (Go.Proofs.Ytnjlcimeaoedcaa.W.quiet_move rfl rfl) ?_
      first | refine Go.Proofs.Ytnjlcimeaoedcaa.W.skip rfl rfl rfl ?_ | refine Go.Proofs.Ytnjlcimeaoedcaa.W.op rfl rfl rfl (Go.Proofs.Ytnjlcimeaoedcaa.W.quiet_index rfl rfl rfl (by first | exact IXN | exact IXX)) ?_
      first | refine Go.Proofs.Ytnjlcimeaoedcaa.W.skip rfl rfl rfl ?_ | refine Go.Proofs.Ytnjlcimeaoedcaa.W.op rfl rfl rfl (Go.Proofs.Ytnjlcimeaoedcaa.W.quiet_field rfl rfl (fun W => fn4 W _ _)) ?_
      first | refine Go.Proofs.Ytnjlcimeaoedcaa.W.skip rfl rfl rfl ?_ | refine Go.Proofs.Ytnjlcimeaoedcaa.W.op rfl rfl rfl (Go.Proofs.Ytnjlcimeaoedcaa.W.quiet_load rfl rfl (by first | exact LO | exact LI | exact LK)) ?_
      first | refine Go.Proofs.Ytnjlcimeaoedcaa.W.skip rfl rfl rfl ?_ | refine Go.Proofs.Ytnjlcimeaoedcaa.W.op rfl rfl rfl (Go.Proofs.Ytnjlcimeaoedcaa.W.quiet_bin rfl rfl rfl (by first | exact Bb3 _ _ | exact Bbk _ _ | exact Blo _ _ | exact Bhh _ _)) ?_
      first | refine Go.Proofs.Ytnjlcimeaoedcaa.W.skip rfl rfl rfl ?_ | refine Go.Proofs.Ytnjlcimeaoedcaa.W.op rfl rfl rfl (Go.Proofs.Ytnjlcimeaoedcaa.W.quiet_move rfl rfl) ?_
      first | refine Go.Proofs.Ytnjlcimeaoedcaa.W.skip rfl rfl rfl ?_ | refine Go.Proofs.Ytnjlcimeaoedcaa.W.op rfl rfl rfl (Go.Proofs.Ytnjlcimeaoedcaa.W.quiet_move rfl rfl) ?_
      first | refine Go.Proofs.Ytnjlcimeaoedcaa.W.skip rfl rfl rfl ?_ | refine Go.Proofs.Ytnjlcimeaoedcaa.W.op rfl rfl rfl (Go.Proofs.Ytnjlcimeaoedcaa.W.quiet_move rfl rfl) ?_
      first | refine Go.Proofs.Ytnjlcimeaoedcaa.W.skip rfl rfl rfl ?_ | refine Go.Proofs.Ytnjlcimeaoedcaa.W.op rfl rfl rfl (Go.Proofs.Ytnjlcimeaoedcaa.W.quiet_index rfl rfl rfl (by first | exact IXN | exact IXX)) ?_
      first | refine Go.Proofs.Ytnjlcimeaoedcaa.W.skip rfl rfl rfl ?_ | refine Go.Proofs.Ytnjlcimeaoedcaa.W.op rfl rfl rfl (Go.Proofs.Ytnjlcimeaoedcaa.W.quiet_field rfl rfl (fun W => fn4 W _ _)) ?_
      first | refine Go.Proofs.Ytnjlcimeaoedcaa.W.skip rfl rfl rfl ?_ | refine Go.Proofs.Ytnjlcimeaoedcaa.W.op rfl rfl rfl (Go.Proofs.Ytnjlcimeaoedcaa.W.quiet_load rfl rfl (by first | exact LO | exact LI | exact LK)) ?_
      first | refine Go.Proofs.Ytnjlcimeaoedcaa.W.skip rfl rfl rfl ?_ | refine Go.Proofs.Ytnjlcimeaoedcaa.W.op rfl rfl rfl (Go.Proofs.Ytnjlcimeaoedcaa.W.quiet_bin rfl rfl rfl (by first | exact Bb3 _ _ | exact Bbk _ _ | exact Blo _ _ | exact Bhh _ _)) ?_
      first | refine Go.Proofs.Ytnjlcimeaoedcaa.W.skip rfl rfl rfl ?_ | refine Go.Proofs.Ytnjlcimeaoedcaa.W.op rfl rfl rfl (Go.Proofs.Ytnjlcimeaoedcaa.W.quiet_pick rfl rfl rfl) ?_
      refine Go.Proofs.Ytnjlcimeaoedcaa.W.op rfl rfl rfl (Go.Proofs.Ytnjlcimeaoedcaa.W.quiet_pick rfl rfl rfl) ?_
      exact Go.Proofs.Ytnjlcimeaoedcaa.W.nil (fun a h => by (repeat (refine Kn.cons h rfl ?_)); exact h.base)
  refine T.cond rfl (fun hb => by cases hb) (fun _ => ?_)
  refine T.skip ?_
  refine T.tw fun W' e => ?_
  rw [e]
  clear e W'
  clear LO LI LK Bb3 Bbk Blo Bhh hbb x0 x1 x2 x3 x4 x5 x6
  have hgW : bo < W.heap.size := by have := hD.fr.size; omega
  have hwlen : (ws ++ (L.map encI).take k).length ≤ 1000000 := by simp; omega
  refine TW.regH (fun W' => Fr (fun q => q = bo ∨ vw.ownBlock = some q) W W') (by kernel_rfl) ?_
  have HW : Fr (fun q => q = bo ∨ vw.ownBlock = some q) W W.drew := (Fr.refl _ _).drewN 1
  have hd : DW w1 W.drew bo vw va (ws ++ (L.map encI).take k) xs := hD.keep ((Fr.refl (fun _ => False) W).drewN 1)
  have hn : InAt W.drew (some ⟨gi, 0, none⟩) L := hin.fr ((Fr.refl (fun _ => False) W).drewN 1)
  have hng : ¬(gi = bo ∨ vw.ownBlock = some gi) := fun e => e.elim hg1 hown1
  have LN : ∀ W', Fr (fun q => q = bo ∨ vw.ownBlock = some q) W W' → (Instr.loadAt 68 (.pointer (some ⟨gi, 0 + k * 5, none⟩))).run Try.prog W' = .ok (.agg #[.int .i64 i.op, .int .i64 i.rd, .int .i64 i.r1, .int .i64 i.r2, .int .i64 i.imm]) W' := fun W' hf => ld_inst _ _ _ _ _ _ _ _ (hf.cell y0 hng) (hf.cell y1 hng) (hf.cell y2 hng) (hf.cell y3 hng) (hf.cell y4 hng)
  generalize W.drew = V at *
  refine WH.take 0 rfl (by kernel_rfl) (by kernel_rfl) (by kernel_rfl) (fun _ _ _ _ _ h => h) rfl rfl rfl HW (RH.field rfl rfl (fun W => fm0 W _ _)) ?_
  refine WH.take 2 rfl (by kernel_rfl) (by kernel_rfl) (by kernel_rfl) (fun _ _ _ _ _ h => h) rfl rfl rfl HW (RH.move rfl rfl) ?_
  refine WH.take 3 rfl (by kernel_rfl) (by kernel_rfl) (by kernel_rfl) (fun _ _ _ _ _ h => h) rfl rfl rfl HW (RH.move rfl rfl) ?_
  refine WH.take 4 rfl (by kernel_rfl) (by kernel_rfl) (by kernel_rfl) (fun _ _ _ _ _ h => h) rfl rfl rfl HW (RH.index rfl rfl rfl IXN) ?_
  refine WH.take 5 rfl (by kernel_rfl) (by kernel_rfl) (by kernel_rfl) (fun _ _ _ _ _ h => h) rfl rfl rfl HW (RH.load rfl rfl LN) ?_
  refine WH.two 1 6 (by kernel_rfl) rfl rfl ?_ ?_
  ·
    refine WL.ld rfl rfl rfl rfl rfl (ld_sw _ _ _ (hd.out.cell rfl)) ?_
    refine WL.fin HW ?_
    refine WH.one 6 (by kernel_rfl) rfl ?_
    refine WL.call (hr := r_word i hif V) rfl rfl rfl rfl rfl (fun W => cf_wrd W _) ?_
    rintro e V2 ⟨rfl, f⟩
    refine ⟨_, rfl, ?_⟩
    replace hd := hd.keep f
    replace hn := hn.fr f
    replace HW := HW.trans' f (fun _ _ e => e.elim)
    clear f
    generalize V2 = V at *
    refine WL.fin HW ?_
    refine WH.one 7 (by kernel_rfl) rfl ?_
    refine WL.bslice rfl rfl rfl rfl rfl (bs_w _ _) ?_
    refine WL.fin (fr_al HW _) ?_
    refine WH.one 8 (by kernel_rfl) rfl ?_
    refine WL.append rfl rfl rfl rfl rfl rfl (apd_w _ _ hd hwlen) (fun v' V2 hq => ?_)
    obtain ⟨hrw, hd2, hg2, hw2⟩ := hq
    have hown2 : vw.ownBlock ≠ some gi := hown1
    have hn2 : InAt V2 (some ⟨gi, 0, none⟩) L := (hn.fr (fr_al (Fr.refl _ _) _)).by_ hg2 hown2
    replace HW : Fr (fun q => q = bo ∨ vw.ownBlock = some q) W V2 := (fr_al HW _).trans' (Fr.of_by hg2) (fun q _ e => Or.inr e)
    have hap := ins_apart hn2 (by omega) hw2 (by rw [List.length_append]; exact Nat.succ_pos _)
    obtain ⟨av, cv, rfl, _⟩ := hw2.form
    refine WL.fin HW ?_
    refine WH.take 9 rfl (by kernel_rfl) (by kernel_rfl) (by kernel_rfl) (fun _ _ _ _ _ h => h) rfl rfl rfl HW (RH.field rfl rfl (fun W => fm0 W _ _)) ?_
    refine WH.one 10 (by kernel_rfl) rfl ?_
    refine WL.store rfl rfl rfl rfl rfl (st_sw _ _ _ _ _ _ (hrw.cell rfl) (hrw.free _)) ?_
    refine WL.fin (HW.trans (Fr.setCell (F := (fun q => q = bo ∨ vw.ownBlock = some q)) _ ⟨bo, 0, none⟩ _ (Or.inl rfl))) ?_
    refine WH.end (by kernel_rfl) ?_
    repeat (with_reducible refine Xw.nblk ?_)
    refine Xw.nrm ?_
    refine TW.reg ?_
    refine WL.op rfl rfl rfl (Go.Proofs.Ytnjlcimeaoedcaa.W.quiet_move rfl rfl) ?_
    refine WL.op rfl rfl rfl (Go.Proofs.Ytnjlcimeaoedcaa.W.quiet_bin rfl rfl rfl (fun W => bn_add W _ _ (k : Int) 1 (by omega) (by omega))) ?_
    refine WL.op rfl rfl rfl (Go.Proofs.Ytnjlcimeaoedcaa.W.quiet_assign rfl rfl) ?_
    refine WL.end ?_
    have hn3 := hn2.set_other (g2 := bo) hg1 0 (.slice av ((ws ++ (L.map encI).take k) ++ [encI i]).length cv)
    refine Xw.any fun b h => ⟨k + 1, by omega, by omega, _, by (repeat (refine Kn.cons h rfl ?_)); exact h.base, by rw [htk]; exact hd2, hn3, fun g o e => by cases e; exact hap⟩
  ·
    refine WL.call (hr := r_word i hif V) rfl rfl rfl rfl rfl (fun W => cf_wrd W _) ?_
    rintro e V2 ⟨rfl, f⟩
    refine ⟨_, rfl, ?_⟩
    replace hd := hd.keep f
    replace hn := hn.fr f
    replace HW := HW.trans' f (fun _ _ e => e.elim)
    clear f
    generalize V2 = V at *
    refine WL.fin HW ?_
    refine WH.two 1 7 (by kernel_rfl) rfl rfl ?_ ?_
    ·
      refine WL.ld rfl rfl rfl rfl rfl (ld_sw _ _ _ (hd.out.cell rfl)) ?_
      refine WL.fin HW ?_
      refine WH.one 7 (by kernel_rfl) rfl ?_
      refine WL.bslice rfl rfl rfl rfl rfl (bs_w _ _) ?_
      refine WL.fin (fr_al HW _) ?_
      refine WH.one 8 (by kernel_rfl) rfl ?_
      refine WL.append rfl rfl rfl rfl rfl rfl (apd_w _ _ hd hwlen) (fun v' V2 hq => ?_)
      obtain ⟨hrw, hd2, hg2, hw2⟩ := hq
      have hown2 : vw.ownBlock ≠ some gi := hown1
      have hn2 : InAt V2 (some ⟨gi, 0, none⟩) L := (hn.fr (fr_al (Fr.refl _ _) _)).by_ hg2 hown2
      replace HW : Fr (fun q => q = bo ∨ vw.ownBlock = some q) W V2 := (fr_al HW _).trans' (Fr.of_by hg2) (fun q _ e => Or.inr e)
      have hap := ins_apart hn2 (by omega) hw2 (by rw [List.length_append]; exact Nat.succ_pos _)
      obtain ⟨av, cv, rfl, _⟩ := hw2.form
      refine WL.fin HW ?_
      refine WH.take 9 rfl (by kernel_rfl) (by kernel_rfl) (by kernel_rfl) (fun _ _ _ _ _ h => h) rfl rfl rfl HW (RH.field rfl rfl (fun W => fm0 W _ _)) ?_
      refine WH.one 10 (by kernel_rfl) rfl ?_
      refine WL.store rfl rfl rfl rfl rfl (st_sw _ _ _ _ _ _ (hrw.cell rfl) (hrw.free _)) ?_
      refine WL.fin (HW.trans (Fr.setCell (F := (fun q => q = bo ∨ vw.ownBlock = some q)) _ ⟨bo, 0, none⟩ _ (Or.inl rfl))) ?_
      refine WH.end (by kernel_rfl) ?_
      repeat (with_reducible refine Xw.nblk ?_)
      refine Xw.nrm ?_
      refine TW.reg ?_
      refine WL.op rfl rfl rfl (Go.Proofs.Ytnjlcimeaoedcaa.W.quiet_move rfl rfl) ?_
      refine WL.op rfl rfl rfl (Go.Proofs.Ytnjlcimeaoedcaa.W.quiet_bin rfl rfl rfl (fun W => bn_add W _ _ (k : Int) 1 (by omega) (by omega))) ?_
      refine WL.op rfl rfl rfl (Go.Proofs.Ytnjlcimeaoedcaa.W.quiet_assign rfl rfl) ?_
      refine WL.end ?_
      have hn3 := hn2.set_other (g2 := bo) hg1 0 (.slice av ((ws ++ (L.map encI).take k) ++ [encI i]).length cv)
      refine Xw.any fun b h => ⟨k + 1, by omega, by omega, _, by (repeat (refine Kn.cons h rfl ?_)); exact h.base, by rw [htk]; exact hd2, hn3, fun g o e => by cases e; exact hap⟩
    ·
      refine WL.bslice rfl rfl rfl rfl rfl (bs_w _ _) ?_
      refine WL.fin (fr_al HW _) ?_
      refine WH.one 1 (by kernel_rfl) rfl ?_
      refine WL.ld rfl rfl rfl rfl rfl (ld_sw _ _ _ ((hd.keep (fr_al (Fr.refl _ _) _)).out.cell rfl)) ?_
      refine WL.fin (fr_al HW _) ?_
      refine WH.one 8 (by kernel_rfl) rfl ?_
      refine WL.append rfl rfl rfl rfl rfl rfl (apd_w _ _ hd hwlen) (fun v' V2 hq => ?_)
      obtain ⟨hrw, hd2, hg2, hw2⟩ := hq
      have hown2 : vw.ownBlock ≠ some gi := hown1
      have hn2 : InAt V2 (some ⟨gi, 0, none⟩) L := (hn.fr (fr_al (Fr.refl _ _) _)).by_ hg2 hown2
      replace HW : Fr (fun q => q = bo ∨ vw.ownBlock = some q) W V2 := (fr_al HW _).trans' (Fr.of_by hg2) (fun q _ e => Or.inr e)
      have hap := ins_apart hn2 (by omega) hw2 (by rw [List.length_append]; exact Nat.succ_pos _)
      obtain ⟨av, cv, rfl, _⟩ := hw2.form
      refine WL.fin HW ?_
      refine WH.take 9 rfl (by kernel_rfl) (by kernel_rfl) (by kernel_rfl) (fun _ _ _ _ _ h => h) rfl rfl rfl HW (RH.field rfl rfl (fun W => fm0 W _ _)) ?_
      refine WH.one 10 (by kernel_rfl) rfl ?_
      refine WL.store rfl rfl rfl rfl rfl (st_sw _ _ _ _ _ _ (hrw.cell rfl) (hrw.free _)) ?_
      refine WL.fin (HW.trans (Fr.setCell (F := (fun q => q = bo ∨ vw.ownBlock = some q)) _ ⟨bo, 0, none⟩ _ (Or.inl rfl))) ?_
      refine WH.end (by kernel_rfl) ?_
      repeat (with_reducible refine Xw.nblk ?_)
      refine Xw.nrm ?_
      refine TW.reg ?_
      refine WL.op rfl rfl rfl (Go.Proofs.Ytnjlcimeaoedcaa.W.quiet_move rfl rfl) ?_
      refine WL.op rfl rfl rfl (Go.Proofs.Ytnjlcimeaoedcaa.W.quiet_bin rfl rfl rfl (fun W => bn_add W _ _ (k : Int) 1 (by omega) (by omega))) ?_
      refine WL.op rfl rfl rfl (Go.Proofs.Ytnjlcimeaoedcaa.W.quiet_assign rfl rfl) ?_
      refine WL.end ?_
      have hn3 := hn2.set_other (g2 := bo) hg1 0 (.slice av ((ws ++ (L.map encI).take k) ++ [encI i]).length cv)
      refine Xw.any fun b h => ⟨k + 1, by omega, by omega, _, by (repeat (refine Kn.cons h rfl ?_)); exact h.base, by rw [htk]; exact hd2, hn3, fun g o e => by cases e; exact hap⟩
end Go.Proofs.Ytnjlcimeaoedcaa
