/-
  Items (layer 5): the contract of grow. Items (layer 5): the contract of grow, walked.
-/
import Derived.Test.YtnjlcimeaoedcaaQAsmI
namespace Go.Proofs.Ytnjlcimeaoedcaa
open Go.RowKit
set_option linter.unusedVariables false
set_option linter.unusedSimpArgs false
/-- The sizes after the first j near branches have been looked at. -/
def gK (goals s : List Int) (near : List Nat) : Nat → List Int
  | 0 => s
  | j + 1 => if reachB goals s (near.getD j 0) = true then gK goals s near j else (gK goals s near j).set (near.getD j 0) 2
/-- Those of them that reach. -/
def rK (goals s : List Int) (near : List Nat) : Nat → List Int
  | 0 => []
  | j + 1 => if reachB goals s (near.getD j 0) = true then rK goals s near j ++ [((near.getD j 0 : Nat) : Int)] else rK goals s near j
theorem gK_len (goals s : List Int) (near : List Nat) : ∀ j, (gK goals s near j).length = s.length
  | 0 => rfl
  | j + 1 => by unfold gK; split <;> simp [gK_len goals s near j]
theorem rK_len (goals s : List Int) (near : List Nat) : ∀ j, (rK goals s near j).length ≤ j
  | 0 => by simp [rK]
  | j + 1 => by unfold rK; have := rK_len goals s near j; split <;> simp <;> omega
theorem take_snocN {l : List Nat} {k : Nat} (h : k < l.length) : l.take (k + 1) = l.take k ++ [l.getD k 0] := by
  rw [List.take_succ_eq_append_getElem h, List.getD_eq_getElem?_getD, List.getElem?_eq_getElem h]; rfl
theorem rK_is (goals s : List Int) (near : List Nat) : ∀ j, j ≤ near.length → rK goals s near j = natsI ((near.take j).filter (reachB goals s))
  | 0, _ => by simp [rK, natsI]
  | j + 1, h => by
    rw [take_snocN (by omega), List.filter_append]
    unfold rK
    rw [rK_is goals s near j (by omega)]
    cases hr : reachB goals s (near.getD j 0) <;> simp only [natsI, List.filter_cons, hr] <;> simp
theorem gK_get (goals s : List Int) (near : List Nat) {i : Nat} (hi : i < s.length) : ∀ j, j ≤ near.length → (gK goals s near j).getD i 0 = if i ∈ near.take j ∧ reachB goals s i = false then 2 else s.getD i 0
  | 0, _ => by simp [gK]
  | j + 1, h => by
    rw [take_snocN (by omega)]
    unfold gK
    have ih := gK_get goals s near hi j (by omega)
    by_cases e : near.getD j 0 = i
    · rw [e]
      cases hr : reachB goals s i
      · rw [if_neg (by decide), getD_set (by rw [gK_len]; exact hi), if_pos rfl]
        simp
      · rw [if_pos rfl, ih, hr]; simp
    · have e2 : ¬ i = near.getD j 0 := fun h => e h.symm
      have m : (i ∈ near.take j ++ [near.getD j 0]) ↔ i ∈ near.take j := by simp only [List.mem_append, List.mem_singleton]; exact ⟨fun h => h.resolve_right e2, Or.inl⟩
      rw [show (if i ∈ near.take j ++ [near.getD j 0] ∧ reachB goals s i = false then (2 : Int) else s.getD i 0) = if i ∈ near.take j ∧ reachB goals s i = false then 2 else s.getD i 0 by simp only [m]]
      rw [← ih]
      split
      · rfl
      · rw [getD_set (by rw [gK_len]; exact hi), if_neg e]
theorem gK_end (l : List It) (goals : List Int) (F : Nat → Bool) : gK goals (szF l F) (nearF l F) (nearF l F).length = szF l (nextF l goals F) := by
  refine ext_getD (by rw [gK_len, szF_len, szF_len]) fun i hi => ?_
  rw [gK_len, szF_len] at hi
  rw [gK_get goals _ _ (by rw [szF_len]; exact hi) _ (Nat.le_refl _), szF_get hi, szF_get hi, List.take_length]
  have m : i ∈ nearF l F ↔ (isBr l i = true ∧ F i = false) := by rw [mem_nearF]; simp [hi]
  simp only [m]
  unfold nextF
  cases hb : isBr l i <;> cases hf : F i <;> cases hr : reachB goals (szF l F) i <;> simp
theorem rK_end (l : List It) (goals : List Int) (F : Nat → Bool) : rK goals (szF l F) (nearF l F) (nearF l F).length = natsI (nearF l (nextF l goals F)) := by
  rw [rK_is _ _ _ _ (Nat.le_refl _), List.take_length, nearF_next]
/-- What grow leaves. -/
def GrowP (B gs : Nat) (l : List It) (goals : List Int) (F : Nat → Bool) (w : World) (e : Ending) (w' : World) : Prop :=
  ∃ v, e = .returned v ∧ NumAt w.heap.size w' v (natsI (nearF l (nextF l goals F))) ∧ IRow B w' gs (szF l (nextF l goals F)) ∧ Fr (fun j => j = gs) w w'
structure GrR (B gs : Nat) (goals s : List Int) (near : List Nat) (w wr : World) (v : Value) (j : Nat) : Prop where
  num : NumAt w.heap.size wr v (rK goals s near j)
  row : IRow B wr gs (gK goals s near j)
  fr : Fr (fun i => i = gs) w wr
theorem GrR.far {B gs : Nat} {goals s : List Int} {near : List Nat} {w wr w2 : World} {v : Value} {j t : Nat} (h : GrR B gs goals s near w wr v j) (hf : Fr (fun _ => False) wr w2) (hlt : gs < w.heap.size) (ht : near.getD j 0 = t) (hr : reachB goals s t = false) : GrR B gs goals s near w (w2.setCell ⟨gs, t, none⟩ (.int .i64 2)) v (j + 1) := by
  subst ht
  refine ⟨?_, ?_, ?_⟩
  · unfold rK; rw [hr, if_neg (by decide)]
    refine (Fr.setCell (F := fun i => i = gs) w2 ⟨gs, _, none⟩ _ rfl).owns (hf.owns h.num (fun _ _ => id)) (fun k hk e => ?_)
    have := (World.ownsRow.lt h.num k hk).1
    omega
  · unfold gK; rw [hr, if_neg (by decide)]
    exact (h.row.fr hf id).set _ 2
  · exact (h.fr.trans (hf.mono (fun _ _ h => h.elim))).trans (Fr.setCell _ _ _ rfl)
theorem GrR.near {B gs : Nat} {goals s : List Int} {near : List Nat} {w wr w1 w2 : World} {v v' : Value} {j t : Nat} (h : GrR B gs goals s near w wr v j) (hf : Fr (fun _ => False) wr w1) (hlt : gs < w.heap.size) (ht : near.getD j 0 = t) (hr : reachB goals s t = true)
    (hv : w2.ownsRow w.heap.size 3 1 v' ((rK goals s near j).length + 1) (ints (rK goals s near j) ++ [.int .i64 (t : Int)])) (hg : w1.grownBy w2 v.ownBlock) : GrR B gs goals s near w w2 v' (j + 1) := by
  subst ht
  have hb : Fr (fun i => v.ownBlock = some i) w1 w2 := Fr.of_by hg
  refine ⟨?_, ?_, ?_⟩
  · unfold rK; rw [if_pos hr]; unfold NumAt; rw [ints_snoc]; simpa using hv
  · unfold gK; rw [if_pos hr]
    refine (h.row.fr hf id).fr hb (fun e => ?_)
    have := (World.ownsRow.lt h.num gs e).1
    omega
  · refine (h.fr.trans (hf.mono (fun _ _ h => h.elim))).trans' hb (fun i hi e => ?_)
    have := (World.ownsRow.lt h.num i e).1
    omega
theorem natsI_len (l : List Nat) : (natsI l).length = l.length := by simp [natsI]
theorem natsI_get {l : List Nat} {k : Nat} (h : k < l.length) : (natsI l).getD k 0 = ((l.getD k 0 : Nat) : Int) := by
  simp [natsI, List.getD_eq_getElem?_getD, h]
theorem NumAt.mono {B C : Nat} {w : World} {v : Value} {xs : List Int} (h : NumAt B w v xs) (hc : C ≤ B) : NumAt C w v xs := by
  refine ⟨h.1, ?_⟩
  rcases h.2 with h | ⟨g, cap, cur, e, hb, rest⟩
  · exact .inl h
  · exact .inr ⟨g, cap, cur, e, by omega, rest⟩
/-- Goals are numbers of items. -/
def Goals (goals : List Int) (n : Nat) : Prop := ∀ k, k < n → ∃ t : Nat, t < n ∧ goals.getD k 0 = (t : Int)
theorem at_in {s : List Int} (hz : Sizes s) {k n : Nat} (hn : s.length = n) (hfew : n ≤ 32768) (hk : k < n) : 0 ≤ (atK s).getD k 0 ∧ (atK s).getD k 0 ≤ 1000000 := by
  rw [atK_get (by omega)]
  have := sumK_in hz k (by omega)
  omega
theorem reach_is {goals s : List Int} {k t : Nat} (h : goals.getD k 0 = (t : Int)) : offK goals s k = (atK s).getD t 0 - (atK s).getD k 0 := by
  unfold offK; rw [h]; simp
set_option maxRecDepth 100000 in
set_option maxHeartbeats 8000000 in
theorem c43 (si v : Value) (B gg gs ga n : Nat) (l : List It) (goals : List Int) (F : Nat → Bool) (hn : n = l.length) (hfew : n ≤ 32768) (hgl : goals.length = n) (hgo : Goals goals n) (h1 : gg ≠ gs) (h2 : ga ≠ gs) (w : World)
    (hrg : IRow B w gg goals) (hrs : IRow B w gs (szF l F)) (hra : IRow B w ga (atK (szF l F))) (hnear : NumAt B w v (natsI (nearF l F))) (hvs : v.ownBlock ≠ some gs) :
    Calls Try.prog 43 #[.agg #[si, .slice (some ⟨gg, 0, none⟩) n n, .slice (some ⟨gs, 0, none⟩) n n, .slice (some ⟨ga, 0, none⟩) n n], v] w (GrowP B gs l goals F w) := by
  obtain ⟨i0, hi, hz0, hz1, hz2⟩ := info_parts infoI
  have HI := Lib.hid hi
  have HZ0 := Lib.hid hz0
  have HZ1 := Lib.hid hz1
  have HZ2 := Lib.hid hz2
  clear hi hz0 hz1 hz2
  obtain ⟨av, cv, rfl, hcell⟩ := hnear.form
  have HC := Lib.hid hcell
  have HVS : Hid (∀ j, j < (nearF l F).length → ∃ g, av = some ⟨g, 0, none⟩ ∧ g ≠ gs ∧ w.cell? ⟨g, j, none⟩ = some (.int .i64 (((nearF l F).getD j 0 : Nat) : Int))) := Lib.hid (fun j hj => by
    obtain ⟨g, e, hb, hc⟩ := hcell j (by rw [natsI_len]; exact hj)
    refine ⟨g, e, fun e2 => hvs (by rw [e, e2]; rfl), ?_⟩
    rw [hc, natsI_get hj])
  have hlen : (nearF l F).length ≤ n := by unfold nearF; rw [hn]; exact Nat.le_trans (List.length_filter_le _ _) (by simp)
  obtain ⟨m, hm⟩ : ∃ m, (nearF l F).length = m := ⟨_, rfl⟩
  rw [natsI_len, hm]
  rw [hm] at hlen HVS
  have hgs := hrs.lt
  have bne : w.heap.size ≠ gs := by omega
  have F0 := Lib.hid (fr_al (Fr.refl (fun j => j = gs) w) (.cells #[si, .slice (some ⟨gg, 0, none⟩) n n, .slice (some ⟨gs, 0, none⟩) n n, .slice (some ⟨ga, 0, none⟩) n n] 58))
  have F00 := Lib.hid (fr_al (Fr.refl (fun _ => False) w) (.cells #[si, .slice (some ⟨gg, 0, none⟩) n n, .slice (some ⟨gs, 0, none⟩) n n, .slice (some ⟨ga, 0, none⟩) n n] 58))
  have E : Hid (∀ (j : Nat) (x : Value), (#[si, .slice (some ⟨gg, 0, none⟩) n n, .slice (some ⟨gs, 0, none⟩) n n, .slice (some ⟨ga, 0, none⟩) n n] : Array Value)[j]? = some x → (w.alloc (.cells #[si, .slice (some ⟨gg, 0, none⟩) n n, .slice (some ⟨gs, 0, none⟩) n n, .slice (some ⟨ga, 0, none⟩) n n] 58)).cell? ⟨w.heap.size, j, none⟩ = some x) := Lib.hid (fun j x h => fcell w _ _ j x h)
  have RG := Lib.hid (hrg.fr F00.out id)
  have RA := Lib.hid (hra.fr F00.out id)
  have H0 : Hid (GrR B gs goals (szF l F) (nearF l F) (w.alloc (.cells #[si, .slice (some ⟨gg, 0, none⟩) n n, .slice (some ⟨gs, 0, none⟩) n n, .slice (some ⟨ga, 0, none⟩) n n] 58)) (w.alloc (.cells #[si, .slice (some ⟨gg, 0, none⟩) n n, .slice (some ⟨gs, 0, none⟩) n n, .slice (some ⟨ga, 0, none⟩) n n] 58)) (.slice none 0 0) 0) :=
    Lib.hid ⟨World.ownsRow_nil _ _ _ _, hrs.fr F00.out id, Fr.refl _ _⟩
  have HLT : gs < (w.alloc (.cells #[si, .slice (some ⟨gg, 0, none⟩) n n, .slice (some ⟨gs, 0, none⟩) n n, .slice (some ⟨ga, 0, none⟩) n n] 58)).heap.size := Nat.lt_trans hgs (alloc_lt _ _)
  have HLE : w.heap.size ≤ (w.alloc (.cells #[si, .slice (some ⟨gg, 0, none⟩) n n, .slice (some ⟨gs, 0, none⟩) n n, .slice (some ⟨ga, 0, none⟩) n n] 58)).heap.size := Nat.le_of_lt (alloc_lt _ _)
  have HN := Lib.hid hn
  have HM := Lib.hid hm
  have HGL := Lib.hid hgl
  have HGO := Lib.hid hgo
  clear hn hm hgl hgo hrg hrs hra hnear hcell hvs
  go_enter Try.func43, Try.ntmps43
  go_wp2
  generalize w.alloc (.cells #[si, .slice (some ⟨gg, 0, none⟩) n n, .slice (some ⟨gs, 0, none⟩) n n, .slice (some ⟨ga, 0, none⟩) n n] 58) = W at *
  go_loopw [5, 11] (fun q i wr => ∃ k : Nat, i = .int .i64 k ∧ k ≤ m ∧ Hid (GrR B gs goals (szF l F) (nearF l F) W wr q k)) (fun _ i _ => m - (intOf i).toNat)
  case atStart => exact ⟨0, rfl, Nat.zero_le _, H0⟩
  case round =>
    obtain ⟨k, rfl, hk, HW⟩ := hrel
    clear H0
    by_cases hlt : k < m
    · obtain ⟨g, rfl, hg, hc⟩ := HVS.out k hlt
      obtain ⟨t, ht⟩ : ∃ t, (nearF l F).getD k 0 = t := ⟨_, rfl⟩
      rw [ht] at hc
      have HT := Lib.hid ht
      have htn : t < n := by
        rw [HN.out]
        refine (mem_nearF (F := F).1 ?_).1
        rw [← ht, List.getD_eq_getElem?_getD, List.getElem?_eq_getElem (by rw [HM.out]; exact hlt)]
        exact List.getElem_mem _
      obtain ⟨u, hu, hgu⟩ := HGO.out t htn
      have HX : Hid (offK goals (szF l F) t = (atK (szF l F)).getD u 0 - (atK (szF l F)).getD t 0) := Lib.hid (reach_is hgu)
      have c0 := (HW.out.fr.cell (F0.out.cell hc hg) hg)
      have c1 := HW.out.fr.cell (RG.out.cell (k := t) (by rw [HGL.out]; exact htn)) h1
      rw [hgu] at c1
      have hll : (szF l F).length = n := by rw [szF_len]; exact HN.out.symm
      have hlA : (atK (szF l F)).length = n := by rw [atK_len]; exact hll
      have c2 := HW.out.fr.cell (RA.out.cell (k := u) (by rw [hlA]; exact hu)) h2
      have c3 := HW.out.fr.cell (RA.out.cell (k := t) (by rw [hlA]; exact htn)) h2
      have e0 := HW.out.fr.cell (E.out 0 _ rfl) bne
      have e1 := HW.out.fr.cell (E.out 1 _ rfl) bne
      have e2 := HW.out.fr.cell (E.out 2 _ rfl) bne
      have e3 := HW.out.fr.cell (E.out 3 _ rfl) bne
      obtain ⟨x0, x1⟩ := at_in (szF_in l F) hll hfew hu
      obtain ⟨y0, y1⟩ := at_in (szF_in l F) hll hfew htn
      have hrlen := rK_len goals (szF l F) (nearF l F) k
      have hsz := HW.out.fr.size
      have hsg : Hid (gs < (W.heap.size)) := Lib.hid HLT
      have CN := Lib.hid (fun w => c67 si (.slice (some ⟨gs, 0, none⟩) n n) gg ga n t u _ _ htn hu (by omega) x0 x1 y0 y1 w)
      have hR : Hid (reachB goals (szF l F) t = (decide (-4096 ≤ offK goals (szF l F) t) && decide (offK goals (szF l F) t ≤ 4094))) := Lib.hid rfl
      rw [HX.out] at hR
      generalize (atK (szF l F)).getD u 0 = X at *
      generalize (atK (szF l F)).getD t 0 = Y at *
      obtain ⟨D, hD⟩ : ∃ D, X - Y = D := ⟨_, rfl⟩
      rw [hD] at hR
      have HCALL : Hid (Calls Try.prog 67 #[.agg #[si, .slice (some ⟨gg, 0, none⟩) n n, .slice (some ⟨gs, 0, none⟩) n n, .slice (some ⟨ga, 0, none⟩) n n], .int .i64 t] wr fun e w' => e = .returned (.int .i64 D) ∧ Fr (fun _ => False) wr w') := Lib.hid (by rw [← hD]; exact CN.out wr c1 c2 c3)
      clear hgu ht c1 c2 c3 x0 x1 y0 y1 hD CN HX hll hlA
      have i1 : (0 : Int) ≤ (t : Int) := by omega
      have i2 : (t : Int) < (n : Int) := by omega
      by_cases hr : -4096 ≤ D ∧ D ≤ 4094
      · obtain ⟨r0, r1⟩ := hr
        have HRT : Hid (reachB goals (szF l F) t = true) := Lib.hid (by rw [hR.out]; simp [r0, r1])
        clear hR
        go_wp2_with (first
          | (go_at_call 67; (with_reducible refine (HCALL.out).mono ?_); rintro e w2 ⟨rfl, hf⟩; have HF := Lib.hid hf; have hs2 := hf.size; clear hf)
          | (at_builtin; refine wpList_append_own _ rfl _ _ 26 rfl W.heap.size 3 i0 (.int .i64 0) 1 8 Try.underlying26 HI.out HZ0.out HZ1.out HZ2.out rfl (by decide) _ (rK goals (szF l F) (nearF l F) k).length (ints (rK goals (szF l F) (nearF l F) k)) rfl (by exact (HF.out.owns HW.out.num (fun _ _ => id)).alloc _) ⟨w2.heap.size, 0, none⟩ 1 1 [.int .i64 (t : Int)] rfl rfl (one_cell w2 3 (.int .i64 (t : Int))) (by simp [Value.oneCell']) (by unfold maxLen; omega) (by omega) (by simp; omega) ?_; intro v' w3 hown3 hg3 _; have HR3 := Lib.hid (GrR.near HW.out (fr_al HF.out _) HLT HT.out HRT.out hown3 hg3); clear hown3 hg3))
        go_roundw
        case rel => exact ⟨k + 1, by go_num, by omega, HR3⟩
        case measure => simp [intOf]; omega
      · have HRF : Hid (reachB goals (szF l F) t = false) := Lib.hid (by rw [hR.out]; simp; omega)
        have hc : D < -4096 ∨ (-4096 ≤ D ∧ 4094 < D) := by omega
        clear hR hr
        rcases hc with r0 | ⟨r0, r1⟩
        all_goals
          go_wp2_with (first
            | (go_at_call 67; (with_reducible refine (HCALL.out).mono ?_); rintro e w2 ⟨rfl, hf⟩; have HF := Lib.hid hf; have e2' := hf.cell e2 id; have hs2 := hf.size; have s0 : w2.cell? ⟨gs, t, none⟩ = some _ := (HW.out.row.fr hf id).cell (by rw [gK_len, szF_len, ← HN.out]; exact htn); have s1 := (HW.out.row.fr hf id).free t; clear hf))
          go_roundw
          case rel => exact ⟨k + 1, by go_num, by omega, Lib.hid (HW.out.far HF.out HLT HT.out HRF.out)⟩
          case measure => simp [intOf]; omega
    · obtain rfl : m = k := by omega
      have HG : Hid (gK goals (szF l F) (nearF l F) m = szF l (nextF l goals F) ∧ rK goals (szF l F) (nearF l F) m = natsI (nearF l (nextF l goals F))) := Lib.hid (by rw [← HM.out]; exact ⟨gK_end l goals F, rK_end l goals F⟩)
      go_wp2
      go_ret
      exact ⟨_, rfl, by have := HW.out.num; rw [HG.out.2] at this; exact this.mono HLE, by have := HW.out.row; rwa [HG.out.1] at this, F0.out.trans HW.out.fr⟩
end Go.Proofs.Ytnjlcimeaoedcaa
