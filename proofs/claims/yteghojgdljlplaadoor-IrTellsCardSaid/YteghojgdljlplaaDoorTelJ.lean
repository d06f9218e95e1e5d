/-
  Which registers an instruction reads (layer 13): the program's own.
-/
import Derived.Test.YteghojgdljlplaaDoorTelI
import Derived.Test.YteghojgdljlplaaDoorTelF
import Derived.Laws.AppendOwnNone
namespace Go.Proofs.YteghojgdljlplaaDoor
open Go.RowKit
set_option linter.unusedVariables false
set_option linter.unusedSimpArgs false
theorem del_nil (w : World) : Calls Tryd.prog 35 #[.slice none 0 0, .func (.func 36) #[] #[]] w fun e w' => (∃ v, e = .returned v ∧ SlInts w' v []) ∧ Fr (fun _ => False) w w' := by
  have HAT : Hid (IntsAt w none []) := Lib.hid (fun k hk => absurd hk (by simp))
  go_enter Tryd.func35, Tryd.ntmps35
  go_wp2_with (go_at_call 54; (with_reducible refine (idx_any [] none 0 0 rfl (by omega) _ HAT.out).mono ?_); rintro e w2 ⟨(⟨f, hf, hf1, hf2, hf3, rfl⟩ | ⟨hno, rfl⟩), rfl⟩)
  · omega
  · go_ret
    exact ⟨⟨_, rfl, sl_nil _⟩, Fr.refl _ _⟩
theorem del_own {B n : Nat} {v : Value} {l : List Int} {w : World} (h : w.ownsRow B 3 1 v n (l.map (Value.int .i64))) (hb : n ≤ 1000) :
    Calls Tryd.prog 35 #[v, .func (.func 36) #[] #[]] w fun e w' => (∃ v', e = .returned v' ∧ SlInts w' v' (l.filter (fun x => x != -1))) ∧ Fr (fun k => v.ownBlock = some k) w w' := by
  have hl : l.length = n := by have := h.1; simp at this; omega
  rcases h.2 with ⟨rfl, rfl⟩ | ⟨g, cap, cur, rfl, _, hg, hc, hcm, hs, ht⟩
  · obtain rfl : l = [] := List.length_eq_zero_iff.1 hl
    exact (del_nil w).mono fun e w' h => ⟨h.1, h.2.mono (fun k _ e => e.elim)⟩
  · refine (del_any l g n cap cur hl.symm hb hc hcm w hg (by simpa using hs) (fun k hk => ?_)).mono fun e w' h => ⟨h.1, h.2.mono (fun k _ e => by subst e; rfl)⟩
    have hk' : k < l.length := by omega
    have e : (l.map (Value.int .i64))[k]? = some (.int .i64 (l.getD k 0)) := by
      rw [List.getElem?_map, List.getElem?_eq_getElem hk', List.getD_eq_getElem?_getD, List.getElem?_eq_getElem hk']; rfl
    rw [← ht, List.getElem?_take] at e
    split at e
    · simpa using e
    · cases e
theorem GrI.fin {w wr w5 : World} {v : Value} {xs : List Int} (h : GrI w wr v xs) (hf : Fr (fun k => v.ownBlock = some k) wr w5) : Fr (fun _ => False) w w5 :=
  h.fr.trans' hf (fun j hj e => by have := (World.ownsRow.lt h.num j e).1; omega)
/-- The fields of an operation, all of them truths. -/
theorem fo_all (op : Int) (w : World) : Calls Tryd.prog 33 #[.int .i64 op] w fun e w' => (∃ y0 y5 y6 y7 y8 y9 y10 : Bool, e = .returned (.agg #[.bool y0, .bool (hasD op), .bool (hasA op), .bool (hasB op), .bool (hasG op), .bool y5, .bool y6, .bool y7, .bool y8, .bool y9, .bool y10])) ∧ Fr (fun _ => False) w w' := by
  rcases op_cases op with rfl | rfl | rfl | rfl | rfl | rfl | rfl | rfl | rfl | rfl | rfl | rfl | h
  · exact (fo_1 w).mono fun e w' h => ⟨⟨_, _, _, _, _, _, _, h.1⟩, h.2⟩
  · exact (fo_2 w).mono fun e w' h => ⟨⟨_, _, _, _, _, _, _, h.1⟩, h.2⟩
  · exact (fo_3 w).mono fun e w' h => ⟨⟨_, _, _, _, _, _, _, h.1⟩, h.2⟩
  · exact (fo_4 w).mono fun e w' h => ⟨⟨_, _, _, _, _, _, _, h.1⟩, h.2⟩
  · exact (fo_5 w).mono fun e w' h => ⟨⟨_, _, _, _, _, _, _, h.1⟩, h.2⟩
  · exact (fo_6 w).mono fun e w' h => ⟨⟨_, _, _, _, _, _, _, h.1⟩, h.2⟩
  · exact (fo_7 w).mono fun e w' h => ⟨⟨_, _, _, _, _, _, _, h.1⟩, h.2⟩
  · exact (fo_8 w).mono fun e w' h => ⟨⟨_, _, _, _, _, _, _, h.1⟩, h.2⟩
  · exact (fo_9 w).mono fun e w' h => ⟨⟨_, _, _, _, _, _, _, h.1⟩, h.2⟩
  · exact (fo_10 w).mono fun e w' h => ⟨⟨_, _, _, _, _, _, _, h.1⟩, h.2⟩
  · exact (fo_11 w).mono fun e w' h => ⟨⟨_, _, _, _, _, _, _, h.1⟩, h.2⟩
  · exact (fo_12 w).mono fun e w' h => ⟨⟨_, _, _, _, _, _, _, h.1⟩, h.2⟩
  · obtain ⟨a, b, c, d, _⟩ := no_op h
    rw [a, b, c, d]
    exact (fo_no op h w).mono fun e w' hh => ⟨⟨_, _, _, _, _, _, _, hh.1⟩, hh.2⟩
/-- What an instruction reads, each as often as it does. -/
def usesL (op a b : Int) (args : List Int) : List Int := ((if hasA op = true then [a] else []) ++ (if hasB op = true then [b] else []) ++ (if hasG op = true then args else [])).filter (fun x => x != -1)
theorem one_b (w : World) (b : Nat) (hb : w.heap.size = b) (t : TypeId) (x : Value) : ∀ (j : Nat) (u : Value), [x][j]? = some u → (w.alloc (.cells #[x] t)).cell? ((⟨b, 0, none⟩ : Addr).add j) = some u := by
  subst hb; exact one_c w t x
theorem rowInts {w : World} {ad : Addr} {l : List Int} (h : IntsAt w (some ad) l) : ∀ (j : Nat) (u : Value), (l.map (Value.int .i64))[j]? = some u → w.cell? (ad.add j) = some u := by
  intro j u hu
  rw [List.getElem?_map] at hu
  by_cases hj : j < l.length
  · obtain ⟨g', o', e, c⟩ := h j hj
    injection e with e
    subst e
    rw [List.getElem?_eq_getElem hj] at hu
    rw [Addr.add_lit, c, List.getD_eq_getElem?_getD, List.getElem?_eq_getElem hj]
    exact hu
  · rw [List.getElem?_eq_none (by omega)] at hu; cases hu
set_option maxRecDepth 100000 in
set_option maxHeartbeats 8000000 in
theorem uses_any (op d a b : Int) (y4 y5 y6 y7 y8 y10 : Value) (aa : Option Addr) (n c : Nat) (args : List Int) (hn : n = args.length) (hb : n ≤ 12) (h0 : aa = none → n = 0 ∧ c = 0) (w : World) (hat : IntsAt w aa args) :
    Calls Tryd.prog 16 #[.agg #[.int .i64 op, .int .i64 d, .int .i64 a, .int .i64 b, y4, y5, y6, y7, y8, .slice aa n c, y10]] w fun e w' => (∃ v, e = .returned v ∧ SlInts w' v (usesL op a b args)) ∧ Fr (fun _ => False) w w' := by
  obtain ⟨i0, hi, hz0, hz1, hz2⟩ := info_partsB (show (Tryd.prog.info? 3).map (fun i => (i.zero, i.size, i.bytes)) = some (some (.int .i64 0), 1, 8) by kernel_rfl)
  have HI := Lib.hid hi
  have HZ0 := Lib.hid hz0
  have HZ1 := Lib.hid hz1
  have HZ2 := Lib.hid hz2
  clear hi hz0 hz1 hz2
  have HAT := Lib.hid hat
  have HNN := Lib.hid hn
  have H0 := Lib.hid h0
  clear hat hn h0
  have f2 := fld2
  have f3 := fld3
  have f4 := fld4
  have HFO := fo_all op
  by_cases hA : hasA op = true
  · have hG : hasG op = false := by
      revert hA; unfold hasA hasG; simp; omega
    by_cases hB : hasB op = true
    · have HN := Lib.hid (show usesL op a b args = ([a] ++ [b]).filter (fun x => x != -1) by unfold usesL; rw [hA, hB, hG]; simp)
      simp only [hA, hB, hG] at HFO
      clear hA hB hG
      have HFO := Lib.hid HFO
      go_enter Tryd.func16, Tryd.ntmps16
      go_wp2_with (first
        | (go_at_call 33; (with_reducible refine (HFO.out _).mono ?_); rintro e w2 ⟨⟨z0, z5, z6, z7, z8, z9, z10, rfl⟩, hf⟩; have HF := Lib.hid hf; have k2 : w2.cell? ⟨w.heap.size, 2, none⟩ = some (.int .i64 a) := hf.cell (fcell w _ _ 2 _ rfl) id; have k3 : w2.cell? ⟨w.heap.size, 3, none⟩ = some (.int .i64 b) := hf.cell (fcell w _ _ 3 _ rfl) id; have k9 : w2.cell? ⟨w.heap.size, 9, none⟩ = some (.slice aa n c) := hf.cell (fcell w _ _ 9 _ rfl) id; have x2 : (w2.alloc (.cells #[.bool z0, .bool (hasD op), .bool true, .bool true, .bool false, .bool z5, .bool z6, .bool z7, .bool z8, .bool z9, .bool z10] 66)).cell? ⟨w.heap.size, 2, none⟩ = some (.int .i64 a) := (fr_al (Fr.refl (fun _ => False) w2) _).cell k2 id; have x3 : (w2.alloc (.cells #[.bool z0, .bool (hasD op), .bool true, .bool true, .bool false, .bool z5, .bool z6, .bool z7, .bool z8, .bool z9, .bool z10] 66)).cell? ⟨w.heap.size, 3, none⟩ = some (.int .i64 b) := (fr_al (Fr.refl (fun _ => False) w2) _).cell k3 id; have x9 : (w2.alloc (.cells #[.bool z0, .bool (hasD op), .bool true, .bool true, .bool false, .bool z5, .bool z6, .bool z7, .bool z8, .bool z9, .bool z10] 66)).cell? ⟨w.heap.size, 9, none⟩ = some (.slice aa n c) := (fr_al (Fr.refl (fun _ => False) w2) _).cell k9 id; clear hf)
        | (at_builtin; first
          | (refine wpList_append_own _ rfl _ _ 36 rfl (w2.heap.size + 1) 3 i0 (.int .i64 0) 1 8 Tryd.underlying36 HI.out HZ0.out HZ1.out HZ2.out rfl (by decide) (.slice none 0 0) 0 [] rfl (World.ownsRow_nil _ _ _ _) ⟨w2.heap.size + 1, 0, none⟩ 1 1 [.int .i64 a] rfl rfl (one_b _ _ (by simp) _ _) (by simp [Value.oneCell']) (by unfold maxLen; omega) (by omega) (by simp) ?_; intro v' w3 hown hg _; have HR := Lib.hid (GrI.snoc (x := a) (GrI.nil _) (fr_al (Fr.refl _ _) _) (by simpa using hown) hg); have HS := Lib.hid HR.out.fr.size; have q := (fr_al (Fr.refl (fun _ => False) w2) _).trans HR.out.fr; have j3 : w3.cell? ⟨w.heap.size, 3, none⟩ = some (.int .i64 b) := q.cell k3 id; have m3 : w3.cell? ⟨w2.heap.size, 3, none⟩ = some (.bool true) := HR.out.fr.cell (fcell w2 _ _ 3 _ rfl) id; have m4 : w3.cell? ⟨w2.heap.size, 4, none⟩ = some (.bool false) := HR.out.fr.cell (fcell w2 _ _ 4 _ rfl) id; clear q; clear hown hg)
          | go_loud (refine wpList_append_own _ rfl _ _ 36 rfl (w2.heap.size + 1) 3 i0 (.int .i64 0) 1 8 Tryd.underlying36 HI.out HZ0.out HZ1.out HZ2.out rfl (by decide) v' 1 [.int .i64 a] rfl (by have := (HR.out.keep (fr_al (Fr.refl _ w3) (.cells #[.int .i64 b] 3))).num; simpa using this) ⟨w3.heap.size, 0, none⟩ 1 1 [.int .i64 b] rfl rfl (one_c w3 3 (.int .i64 b)) (by simp [Value.oneCell']) (by unfold maxLen; omega) (by omega) (by have := HS.out; simp at this ⊢; omega) ?_; intro v2 w4 hown hg _; have HR2 := Lib.hid (GrI.snoc (x := b) HR.out (fr_al (Fr.refl _ _) _) (by simpa using hown) hg); have m4' : w4.cell? ⟨w2.heap.size, 4, none⟩ = some (.bool false) := HR2.out.fr.cell (fcell w2 _ _ 4 _ rfl) id; clear hown hg))
        | (go_at_call 35; (with_reducible refine (del_own HR2.out.num (by simp)).mono ?_); rintro e w5 ⟨⟨v5, rfl, hs⟩, hf⟩; have HL := Lib.hid hs; have HE := Lib.hid hf; clear hs hf))
      go_ret
      exact ⟨⟨_, rfl, by rw [HN.out]; exact HL.out⟩, ((fr_al (Fr.refl _ _) _).trans HF.out).trans ((fr_al (Fr.refl _ _) _).trans (HR2.out.fin HE.out))⟩
    · have HN := Lib.hid (show usesL op a b args = ([a]).filter (fun x => x != -1) by unfold usesL; rw [hA, hG, if_neg hB]; simp)
      have hB' : hasB op = false := by simpa using hB
      simp only [hA, hB', hG] at HFO
      clear hA hB hG hB'
      have HFO := Lib.hid HFO
      go_enter Tryd.func16, Tryd.ntmps16
      go_wp2_with (first
        | (go_at_call 33; (with_reducible refine (HFO.out _).mono ?_); rintro e w2 ⟨⟨z0, z5, z6, z7, z8, z9, z10, rfl⟩, hf⟩; have HF := Lib.hid hf; have k2 : w2.cell? ⟨w.heap.size, 2, none⟩ = some (.int .i64 a) := hf.cell (fcell w _ _ 2 _ rfl) id; have k3 : w2.cell? ⟨w.heap.size, 3, none⟩ = some (.int .i64 b) := hf.cell (fcell w _ _ 3 _ rfl) id; have k9 : w2.cell? ⟨w.heap.size, 9, none⟩ = some (.slice aa n c) := hf.cell (fcell w _ _ 9 _ rfl) id; have x2 : (w2.alloc (.cells #[.bool z0, .bool (hasD op), .bool true, .bool false, .bool false, .bool z5, .bool z6, .bool z7, .bool z8, .bool z9, .bool z10] 66)).cell? ⟨w.heap.size, 2, none⟩ = some (.int .i64 a) := (fr_al (Fr.refl (fun _ => False) w2) _).cell k2 id; have x3 : (w2.alloc (.cells #[.bool z0, .bool (hasD op), .bool true, .bool false, .bool false, .bool z5, .bool z6, .bool z7, .bool z8, .bool z9, .bool z10] 66)).cell? ⟨w.heap.size, 3, none⟩ = some (.int .i64 b) := (fr_al (Fr.refl (fun _ => False) w2) _).cell k3 id; have x9 : (w2.alloc (.cells #[.bool z0, .bool (hasD op), .bool true, .bool false, .bool false, .bool z5, .bool z6, .bool z7, .bool z8, .bool z9, .bool z10] 66)).cell? ⟨w.heap.size, 9, none⟩ = some (.slice aa n c) := (fr_al (Fr.refl (fun _ => False) w2) _).cell k9 id; clear hf)
        | (at_builtin; go_loud (refine wpList_append_own _ rfl _ _ 36 rfl (w2.heap.size + 1) 3 i0 (.int .i64 0) 1 8 Tryd.underlying36 HI.out HZ0.out HZ1.out HZ2.out rfl (by decide) (.slice none 0 0) 0 [] rfl (World.ownsRow_nil _ _ _ _) ⟨w2.heap.size + 1, 0, none⟩ 1 1 [.int .i64 a] rfl rfl (one_b _ _ (by simp) _ _) (by simp [Value.oneCell']) (by unfold maxLen; omega) (by omega) (by simp) ?_; intro v' w3 hown hg _; have HR := Lib.hid (GrI.snoc (x := a) (GrI.nil _) (fr_al (Fr.refl _ _) _) (by simpa using hown) hg); have q := (fr_al (Fr.refl (fun _ => False) w2) _).trans HR.out.fr; have m3 : w3.cell? ⟨w2.heap.size, 3, none⟩ = some (.bool false) := HR.out.fr.cell (fcell w2 _ _ 3 _ rfl) id; have m4 : w3.cell? ⟨w2.heap.size, 4, none⟩ = some (.bool false) := HR.out.fr.cell (fcell w2 _ _ 4 _ rfl) id; clear q; clear hown hg))
        | (go_at_call 35; (with_reducible refine (del_own HR.out.num (by simp)).mono ?_); rintro e w5 ⟨⟨v5, rfl, hs⟩, hf⟩; have HL := Lib.hid hs; have HE := Lib.hid hf; clear hs hf))
      go_ret
      exact ⟨⟨_, rfl, by rw [HN.out]; exact HL.out⟩, ((fr_al (Fr.refl _ _) _).trans HF.out).trans ((fr_al (Fr.refl _ _) _).trans (HR.out.fin HE.out))⟩
  have hA' : hasA op = false := by simpa using hA
  have hB' : hasB op = false := by revert hA'; unfold hasA hasB; simp; omega
  by_cases hG : hasG op = true
  · have HN := Lib.hid (show usesL op a b args = args.filter (fun x => x != -1) by unfold usesL; rw [hA', hB', hG]; simp)
    simp only [hA', hB', hG] at HFO
    clear hA hA' hB' hG
    have HFO := Lib.hid HFO
    cases aa with
    | none =>
      obtain ⟨rfl, rfl⟩ := H0.out rfl
      obtain rfl : args = [] := List.length_eq_zero_iff.1 HNN.out.symm
      go_enter Tryd.func16, Tryd.ntmps16
      go_wp2_with (first
        | (go_at_call 33; (with_reducible refine (HFO.out _).mono ?_); rintro e w2 ⟨⟨z0, z5, z6, z7, z8, z9, z10, rfl⟩, hf⟩; have HF := Lib.hid hf; have k2 : w2.cell? ⟨w.heap.size, 2, none⟩ = some (.int .i64 a) := hf.cell (fcell w _ _ 2 _ rfl) id; have k3 : w2.cell? ⟨w.heap.size, 3, none⟩ = some (.int .i64 b) := hf.cell (fcell w _ _ 3 _ rfl) id; have k9 : w2.cell? ⟨w.heap.size, 9, none⟩ = some (.slice none 0 0) := hf.cell (fcell w _ _ 9 _ rfl) id; have x2 : (w2.alloc (.cells #[.bool z0, .bool (hasD op), .bool false, .bool false, .bool true, .bool z5, .bool z6, .bool z7, .bool z8, .bool z9, .bool z10] 66)).cell? ⟨w.heap.size, 2, none⟩ = some (.int .i64 a) := (fr_al (Fr.refl (fun _ => False) w2) _).cell k2 id; have x3 : (w2.alloc (.cells #[.bool z0, .bool (hasD op), .bool false, .bool false, .bool true, .bool z5, .bool z6, .bool z7, .bool z8, .bool z9, .bool z10] 66)).cell? ⟨w.heap.size, 3, none⟩ = some (.int .i64 b) := (fr_al (Fr.refl (fun _ => False) w2) _).cell k3 id; have x9 : (w2.alloc (.cells #[.bool z0, .bool (hasD op), .bool false, .bool false, .bool true, .bool z5, .bool z6, .bool z7, .bool z8, .bool z9, .bool z10] 66)).cell? ⟨w.heap.size, 9, none⟩ = some (.slice none 0 0) := (fr_al (Fr.refl (fun _ => False) w2) _).cell k9 id; clear hf)
        | (at_builtin; go_loud (refine wpList_append_own_none rfl _ _ 36 rfl (w2.heap.size + 1) 3 i0 1 Tryd.underlying36 HI.out (.slice none 0 0) 0 [] rfl (World.ownsRow_nil _ _ _ _) rfl ?_))
        | (go_at_call 35; (with_reducible refine (del_nil _).mono ?_); rintro e w5 ⟨⟨v5, rfl, hs⟩, hf⟩; have HL := Lib.hid hs; have HE := Lib.hid hf; clear hs hf))
      go_ret
      exact ⟨⟨_, rfl, by rw [HN.out]; exact HL.out⟩, ((fr_al (Fr.refl _ _) _).trans HF.out).trans ((fr_al (Fr.refl _ _) _).trans HE.out)⟩
    | some ad =>
      go_enter Tryd.func16, Tryd.ntmps16
      go_wp2_with (first
        | (go_at_call 33; (with_reducible refine (HFO.out _).mono ?_); rintro e w2 ⟨⟨z0, z5, z6, z7, z8, z9, z10, rfl⟩, hf⟩; have HF := Lib.hid hf; have k2 : w2.cell? ⟨w.heap.size, 2, none⟩ = some (.int .i64 a) := hf.cell (fcell w _ _ 2 _ rfl) id; have k3 : w2.cell? ⟨w.heap.size, 3, none⟩ = some (.int .i64 b) := hf.cell (fcell w _ _ 3 _ rfl) id; have k9 : w2.cell? ⟨w.heap.size, 9, none⟩ = some (.slice (some ad) n c) := hf.cell (fcell w _ _ 9 _ rfl) id; have x2 : (w2.alloc (.cells #[.bool z0, .bool (hasD op), .bool false, .bool false, .bool true, .bool z5, .bool z6, .bool z7, .bool z8, .bool z9, .bool z10] 66)).cell? ⟨w.heap.size, 2, none⟩ = some (.int .i64 a) := (fr_al (Fr.refl (fun _ => False) w2) _).cell k2 id; have x3 : (w2.alloc (.cells #[.bool z0, .bool (hasD op), .bool false, .bool false, .bool true, .bool z5, .bool z6, .bool z7, .bool z8, .bool z9, .bool z10] 66)).cell? ⟨w.heap.size, 3, none⟩ = some (.int .i64 b) := (fr_al (Fr.refl (fun _ => False) w2) _).cell k3 id; have x9 : (w2.alloc (.cells #[.bool z0, .bool (hasD op), .bool false, .bool false, .bool true, .bool z5, .bool z6, .bool z7, .bool z8, .bool z9, .bool z10] 66)).cell? ⟨w.heap.size, 9, none⟩ = some (.slice (some ad) n c) := (fr_al (Fr.refl (fun _ => False) w2) _).cell k9 id; have HX := Lib.hid (rowInts ((HAT.out.fr ((fr_al (Fr.refl _ _) _).trans hf)).fr (fr_al (Fr.refl (fun _ => False) w2) (.cells #[.bool z0, .bool (hasD op), .bool false, .bool false, .bool true, .bool z5, .bool z6, .bool z7, .bool z8, .bool z9, .bool z10] 66)))); clear hf)
        | (at_builtin; go_loud (refine wpList_append_own _ rfl _ _ 36 rfl (w2.heap.size + 1) 3 i0 (.int .i64 0) 1 8 Tryd.underlying36 HI.out HZ0.out HZ1.out HZ2.out rfl (by decide) (.slice none 0 0) 0 [] rfl (World.ownsRow_nil _ _ _ _) ad n c (args.map (Value.int .i64)) rfl (by rw [List.length_map, HNN.out]; omega) HX.out (by intro u hu; obtain ⟨x, _, rfl⟩ := List.mem_map.1 hu; rfl) (by unfold maxLen; omega) (by omega) (by simp) ?_; intro v' w3 hown hg _; have HR := Lib.hid (GrI.many (ys := args) (GrI.nil _) (Fr.refl _ _) HNN.out (by simpa using hown) hg); clear hown hg))
        | (go_at_call 35; (with_reducible refine (del_own HR.out.num (by have := HNN.out; simp; omega)).mono ?_); rintro e w5 ⟨⟨v5, rfl, hs⟩, hf⟩; have HL := Lib.hid hs; have HE := Lib.hid hf; clear hs hf))
      go_ret
      exact ⟨⟨_, rfl, by rw [HN.out]; exact HL.out⟩, ((fr_al (Fr.refl _ _) _).trans HF.out).trans ((fr_al (Fr.refl _ _) _).trans (HR.out.fin HE.out))⟩
  · have hG' : hasG op = false := by simpa using hG
    have HN := Lib.hid (show usesL op a b args = [] by unfold usesL; rw [hA', hB', hG']; simp)
    simp only [hA', hB', hG'] at HFO
    clear hA hA' hB' hG hG'
    have HFO := Lib.hid HFO
    go_enter Tryd.func16, Tryd.ntmps16
    go_wp2_with (first
      | (go_at_call 33; (with_reducible refine (HFO.out _).mono ?_); rintro e w2 ⟨⟨z0, z5, z6, z7, z8, z9, z10, rfl⟩, hf⟩; have HF := Lib.hid hf; have k2 : w2.cell? ⟨w.heap.size, 2, none⟩ = some (.int .i64 a) := hf.cell (fcell w _ _ 2 _ rfl) id; have k3 : w2.cell? ⟨w.heap.size, 3, none⟩ = some (.int .i64 b) := hf.cell (fcell w _ _ 3 _ rfl) id; have k9 : w2.cell? ⟨w.heap.size, 9, none⟩ = some (.slice aa n c) := hf.cell (fcell w _ _ 9 _ rfl) id; have x2 : (w2.alloc (.cells #[.bool z0, .bool (hasD op), .bool false, .bool false, .bool false, .bool z5, .bool z6, .bool z7, .bool z8, .bool z9, .bool z10] 66)).cell? ⟨w.heap.size, 2, none⟩ = some (.int .i64 a) := (fr_al (Fr.refl (fun _ => False) w2) _).cell k2 id; have x3 : (w2.alloc (.cells #[.bool z0, .bool (hasD op), .bool false, .bool false, .bool false, .bool z5, .bool z6, .bool z7, .bool z8, .bool z9, .bool z10] 66)).cell? ⟨w.heap.size, 3, none⟩ = some (.int .i64 b) := (fr_al (Fr.refl (fun _ => False) w2) _).cell k3 id; have x9 : (w2.alloc (.cells #[.bool z0, .bool (hasD op), .bool false, .bool false, .bool false, .bool z5, .bool z6, .bool z7, .bool z8, .bool z9, .bool z10] 66)).cell? ⟨w.heap.size, 9, none⟩ = some (.slice aa n c) := (fr_al (Fr.refl (fun _ => False) w2) _).cell k9 id; clear hf)
      | (go_at_call 35; (with_reducible refine (del_nil _).mono ?_); rintro e w5 ⟨⟨v5, rfl, hs⟩, hf⟩; have HL := Lib.hid hs; have HE := Lib.hid hf; clear hs hf))
    go_ret
    exact ⟨⟨_, rfl, by rw [HN.out]; exact HL.out⟩, ((fr_al (Fr.refl _ _) _).trans HF.out).trans ((fr_al (Fr.refl _ _) _).trans HE.out)⟩
end Go.Proofs.YteghojgdljlplaaDoor
