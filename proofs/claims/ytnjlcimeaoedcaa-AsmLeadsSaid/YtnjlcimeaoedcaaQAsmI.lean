/-
  Items (layer 5): the contract of place. Items (layer 5): the contract of define. Items (layer 5): the contract of resolve.
-/
import Derived.Test.YtnjlcimeaoedcaaQAsmH
import Derived.Test.YtnjlcimeaoedcaaQAsmC
namespace Go.Proofs.Ytnjlcimeaoedcaa
open Go.RowKit Go.Maps
set_option linter.unusedVariables false
set_option linter.unusedSimpArgs false
def atF (s : List Int) (k : Nat) : Int := 4 * sumK s k
/-- What place leaves. -/
def PlaceP (B ga : Nat) (s : List Int) (w : World) (e : Ending) (w' : World) : Prop := e = .returned (.tuple #[]) ∧ IRow B w' ga (atK s) ∧ Fr (fun j => j = ga) w w'
structure PlR (B ga : Nat) (s old : List Int) (w wr : World) (k : Nat) : Prop where
  row : IRow B wr ga (mixK (atF s) old k)
  fr : Fr (fun j => j = ga) w wr
theorem PlR.set {B ga : Nat} {s old : List Int} {w wr : World} {k : Nat} (h : PlR B ga s old w wr k) (hk : k < old.length) {v : Int} (hv : v = atF s k) : PlR B ga s old w (wr.setCell ⟨ga, k, none⟩ (.int .i64 v)) (k + 1) :=
  ⟨by rw [← mixK_set hk hv]; exact h.row.set k v, h.fr.trans (Fr.setCell _ _ _ rfl)⟩
set_option maxRecDepth 100000 in
set_option maxHeartbeats 8000000 in
theorem c42 (si sgo : Value) (B gs ga n : Nat) (s old : List Int) (hs : s.length = n) (ho : old.length = n) (hfew : n ≤ 32768) (hz : Sizes s) (hne : gs ≠ ga) (w : World) (hrs : IRow B w gs s) (hra : IRow B w ga old) :
    Calls Try.prog 42 #[.agg #[si, sgo, .slice (some ⟨gs, 0, none⟩) n n, .slice (some ⟨ga, 0, none⟩) n n]] w (PlaceP B ga s w) := by
  have g1 := hra.lt
  have bne : w.heap.size ≠ ga := by omega
  have F0 := Lib.hid (fr_al (Fr.refl (fun j => j = ga) w) (.cells #[si, sgo, .slice (some ⟨gs, 0, none⟩) n n, .slice (some ⟨ga, 0, none⟩) n n] 58))
  have H0 : Hid (PlR B ga s old (w.alloc (.cells #[si, sgo, .slice (some ⟨gs, 0, none⟩) n n, .slice (some ⟨ga, 0, none⟩) n n] 58)) (w.alloc (.cells #[si, sgo, .slice (some ⟨gs, 0, none⟩) n n, .slice (some ⟨ga, 0, none⟩) n n] 58)) 0) :=
    Lib.hid ⟨by rw [mixK_zero]; exact hra.fr (F := fun _ => False) (fr_al (Fr.refl _ _) _) id, Fr.refl _ _⟩
  have e3 := fcell w #[si, sgo, .slice (some ⟨gs, 0, none⟩) n n, .slice (some ⟨ga, 0, none⟩) n n] 58 3 _ rfl
  have E3 := Lib.hid e3
  have RS := Lib.hid (hrs.fr (F := fun _ => False) (fr_al (Fr.refl _ _) (.cells #[si, sgo, .slice (some ⟨gs, 0, none⟩) n n, .slice (some ⟨ga, 0, none⟩) n n] 58)) id)
  have HS := Lib.hid hs
  have HO := Lib.hid ho
  have HZ := Lib.hid hz
  clear hs ho hz hrs hra
  go_enter Try.func42, Try.ntmps42
  go_wp2
  clear e3
  generalize w.alloc (.cells #[si, sgo, .slice (some ⟨gs, 0, none⟩) n n, .slice (some ⟨ga, 0, none⟩) n n] 58) = W at *
  go_loopw [2, 8] (fun v i wr => ∃ k : Nat, i = .int .i64 k ∧ k ≤ n ∧ v = .int .i64 (atF s k) ∧ Hid (PlR B ga s old W wr k)) (fun _ i _ => n - (intOf i).toNat)
  case atStart => exact ⟨0, rfl, Nat.zero_le _, rfl, H0⟩
  case round =>
    obtain ⟨k, rfl, hk, rfl, HW⟩ := hrel
    clear H0
    by_cases hlt : k < n
    · have q1 := HW.out.fr.cell E3.out bne
      have q2 := HW.out.fr.cell (RS.out.cell (by rw [HS.out]; exact hlt)) hne
      have q3 : wr.cell? ⟨ga, k, none⟩ = some _ := HW.out.row.cell (by rw [mixK_len, HO.out]; exact hlt)
      have q4 := HW.out.row.free k
      have q5 := sumK_in HZ.out k (by rw [HS.out]; exact hk)
      have q6 := HZ.out k (by rw [HS.out]; exact hlt)
      have q7 : Hid (atF s (k + 1) = atF s k + s.getD k 0 * 4) := Lib.hid (by unfold atF; rw [sumK_succ (by rw [HS.out]; exact hlt)]; omega)
      have q8 : atF s k = 4 * sumK s k := rfl
      have q9 : 0 ≤ atF s k ∧ atF s k ≤ 8 * k := by omega
      obtain ⟨r1, r2⟩ := q9
      obtain ⟨r3, r4⟩ := q6
      have hv : Hid (atF s k = atF s k) := Lib.hid rfl
      clear q8 q5
      generalize s.getD k 0 = z at *
      generalize hA : atF s k = A at *
      have HA := Lib.hid hA
      clear hA
      have i1 : (0 : Int) ≤ (k : Int) := by omega
      have i2 : (k : Int) < (n : Int) := by omega
      go_wp2
      go_roundw
      case rel => exact ⟨k + 1, by go_num, by omega, by rw [q7.out], Lib.hid (HW.out.set (by rw [HO.out]; exact hlt) HA.out.symm)⟩
      case measure => simp [intOf]; omega
    · obtain rfl : n = k := by omega
      go_wp2
      go_end0
      exact ⟨rfl, by have h := HW.out.row; have e := mixK_end (atF s) old; rw [HO.out] at e; rw [e] at h; unfold atK; rw [HS.out]; exact h, F0.out.trans HW.out.fr⟩
/-- What define leaves. -/
def DefP (l : List It) (w : World) (e : Ending) (w' : World) : Prop :=
  Fr (fun _ => False) w w' ∧ if twiceK l l.length = true then e = .returned (.tuple #[.map none, .int .i64 6]) else ∃ B, e = .returned (.tuple #[.map (some B), .int .i64 0]) ∧ w.heap.size ≤ B ∧ ownsL w' B (labsK l l.length)
theorem twice_mono {l : List It} : ∀ {k j : Nat}, k ≤ j → twiceK l k = true → twiceK l j = true := by
  intro k j h
  induction h with
  | refl => exact id
  | step _ ih => intro hh; show (twiceK l _ || _) = true; rw [ih hh]; rfl
theorem defP_no {l : List It} {w w' : World} {k : Nat} (hk : k ≤ l.length) (h : twiceK l k = true) (hf : Fr (fun _ => False) w w') : DefP l w (.returned (.tuple #[.map none, .int .i64 6])) w' :=
  ⟨hf, by rw [if_pos (twice_mono hk h)]⟩
theorem defP_yes {l : List It} {w w' : World} {B : Nat} (h : twiceK l l.length = false) (hf : Fr (fun _ => False) w w') (hB : w.heap.size ≤ B) (ho : ownsL w' B (labsK l l.length)) : DefP l w (.returned (.tuple #[.map (some B), .int .i64 0])) w' :=
  ⟨hf, by rw [if_neg (by rw [h]; decide)]; exact ⟨B, rfl, hB, ho⟩⟩
/-- Between rounds. -/
structure DfR (l : List It) (w wr : World) (k : Nat) : Prop where
  once : twiceK l k = false
  map : ownsL wr w.heap.size (labsK l k)
  fr : Fr (fun _ => False) w wr
theorem DfR.keep {l : List It} {w wr w2 : World} {k : Nat} (h : DfR l w wr k) (hf : wr.grownBy w2 none) (h1 : twiceK l (k + 1) = false) (h2 : labsK l (k + 1) = labsK l k) : DfR l w w2 (k + 1) :=
  ⟨h1, by rw [h2]; exact h.map.kept hf (by simp), h.fr.trans (Fr.of_by0 hf)⟩
theorem DfR.snoc {l : List It} {w wr w2 : World} {k : Nat} {n : Int} (h : DfR l w wr k) (h1 : twiceK l (k + 1) = false) (h2 : labsK l (k + 1) = labsK l k ++ [(n, k)]) (c : Array Value) (t : TypeId)
    (hm : w2.ownsMap Try.prog 3 (plainElem Try.prog 3) w.heap.size ((labsK l k).length + 1) ((mapL (labsK l k)).put (.int .i64 n) (natD k))) (hg : (wr.alloc (.cells c t)).grownBy w2 (some w.heap.size)) : DfR l w w2 (k + 1) := by
  refine ⟨h1, ?_, ?_⟩
  · unfold ownsL; rw [h2, mapL_snoc]; simpa using hm
  · refine (fr_al h.fr (.cells c t)).trans' (Fr.of_by hg) (fun j hj e => ?_)
    injection e with e
    omega
def lookP (acc : List (Int × Nat)) (s : Int) (c : Int) (b : Bool) : Prop := b = hasL acc s ∧ (b = true → c = (valL acc s : Nat))
theorem look_k {acc : List (Int × Nat)} (ha : ApartL acc) {s c : Int} (h : (mapL acc).atKey (.int .i64 s) (.lit (.int .i64 0)) = .lit (.int .i64 c)) (hs : hasL acc s = true) : c = ((valL acc s : Nat) : Int) := by
  rw [at_mapL ha hs] at h
  unfold natD at h
  injection h with h
  injection h with _ h
  exact h.symm
set_option maxRecDepth 100000 in
set_option maxHeartbeats 8000000 in
theorem c19 (a : Option Addr) (n c : Nat) (l : List It) (hn : n = l.length) (hfew : n ≤ 32768) (hlab : ∀ k, k < l.length → (l.getD k it0).k = 2 → labB (l.getD k it0).lab = true) (w : World) (hat : ItAt w.heap.size w a l) :
    Calls Try.prog 19 #[.slice a n c] w (DefP l w) := by
  have HA := Lib.hid hat
  have HN := Lib.hid hn
  have HL := Lib.hid hlab
  clear hat hn hlab
  have hmm := @run_makeMap Try.prog
  have H0 : Hid (DfR l w (w.alloc (.map #[] 0)) 0) := Lib.hid ⟨rfl, World.ownsMap_made _ _ _ _, fr_al (Fr.refl _ _) _⟩
  go_enter Try.func19, Try.ntmps19
  go_wp2
  go_loopw [12] (fun i wr => ∃ k : Nat, i = .int .i64 k ∧ k ≤ n ∧ Hid (DfR l w wr k)) (fun i _ => n - (intOf i).toNat)
  case atStart => exact ⟨0, rfl, Nat.zero_le _, H0⟩
  case round =>
    obtain ⟨k, rfl, hk, HW⟩ := hrel
    clear H0 hmm
    by_cases hlt : k < n
    · obtain ⟨x, hx⟩ : ∃ x, l.getD k it0 = x := ⟨_, rfl⟩
      obtain ⟨g, o, rfl, hg, c0, c1, c2, c3, c4, c5, c6⟩ := HA.out.get HW.out.fr (fun _ h => h.elim) k (by rw [← HN.out]; exact hlt) x hx
      have hlk := HL.out k (by rw [← HN.out]; exact hlt)
      rw [hx] at hlk
      have hone := HW.out.once
      have hlen := labsK_len l k
      have hB := HW.out.map.lt
      by_cases e : x.k = 2
      · have hlb := hlk e
        unfold labB at hlb
        simp only [Bool.and_eq_true, decide_eq_true_eq] at hlb
        obtain ⟨l0, l1⟩ := hlb
        have HK := Lib.hid (keyOf_int_mk Try.underlying3 (wfI (a := x.lab) (by omega) (by omega)))
        cases hh : hasL (labsK l k) x.lab
        · have h1 : Hid (twiceK l (k + 1) = false) := Lib.hid (by unfold twiceK; rw [hone, hx, hh]; simp)
          have h2 : Hid (labsK l (k + 1) = labsK l k ++ [(x.lab, k)]) := Lib.hid (by show (if _ then _ else _) = _; rw [hx, if_pos e])
          have hhas : Maps.has (mapL (labsK l k)) (.int .i64 x.lab) = false := by rw [has_mapL]; exact hh
          rw [e] at c0
          clear e hx hlk hh hone
          go_wp2_with (first
            | (at_lookup; refine wpList_lookup_own_ok_int _ rfl _ _ 52 rfl 3 3 .i64 lawI Try.underlying52 Try.underlying3 (zeroI _) w.heap.size _ (mapL (labsK l k)) rfl (by exact HW.out.map.alloc _) (.int .i64 x.lab) _ rfl HK.out ?_; intro c hat hwc; rw [hhas]; clear hat hwc)
            | (at_mapUpdate; refine wpList_mapUpdate_own _ rfl _ _ _ 52 rfl 3 3 lawI Try.underlying52 _ w.heap.size (labsK l k).length (mapL (labsK l k)) rfl (by exact HW.out.map.alloc _) (by unfold maxLen; omega) (.int .i64 x.lab) (.int .i64 (k : Int)) _ rfl rfl HK.out (natD k) [] (plainElem_int Try.underlying3 (wfI (by omega) (by omega))) ?_; intro w1 hown1 hgrow1; have HR := Lib.hid (DfR.snoc HW.out h1.out h2.out _ _ hown1 hgrow1); clear hown1 hgrow1))
          go_roundw
          case rel => exact ⟨k + 1, by go_num, by omega, HR⟩
          case measure => simp [intOf]; omega
        · have h1 : Hid (twiceK l (k + 1) = true) := Lib.hid (by unfold twiceK; rw [hx, hh, e]; simp)
          have hhas : Maps.has (mapL (labsK l k)) (.int .i64 x.lab) = true := by rw [has_mapL]; exact hh
          rw [e] at c0
          clear e hx hlk hh hone
          go_wp2_with (first
            | (at_lookup; refine wpList_lookup_own_ok_int _ rfl _ _ 52 rfl 3 3 .i64 lawI Try.underlying52 Try.underlying3 (zeroI _) w.heap.size _ (mapL (labsK l k)) rfl (by exact HW.out.map.alloc _) (.int .i64 x.lab) _ rfl HK.out ?_; intro c hat hwc; rw [hhas]; clear hat hwc))
          go_ret2
          exact defP_no (k := k + 1) (by rw [← HN.out]; omega) h1.out (fr_al HW.out.fr _)
      · have h1 : Hid (twiceK l (k + 1) = false) := Lib.hid (by unfold twiceK; rw [hone, hx]; simp [e])
        have h2 : Hid (labsK l (k + 1) = labsK l k) := Lib.hid (by show (if _ then _ else _) = _; rw [hx, if_neg e])
        have t2 : (x.k == 2) = false := by simpa using e
        have t3 : (x.k != 2) = true := by simpa using e
        clear e hx hlk hone
        go_wp2
        go_roundw
        case rel => exact ⟨k + 1, by go_num, by omega, Lib.hid (HW.out.keep (World.grownBy_alloc _ _ _) h1.out h2.out)⟩
        case measure => simp [intOf]; omega
    · obtain rfl : n = k := by omega
      have HO := HN.out
      go_wp2
      go_ret2
      subst HO
      exact defP_yes HW.out.once HW.out.fr (Nat.le_refl _) HW.out.map
theorem ownsL_fr {F : Nat → Prop} {w w' : World} {B : Nat} {acc : List (Int × Nat)} (h : ownsL w B acc) (hf : Fr F w w') (hn : ¬ F B) : ownsL w' B acc := by
  have hb := h.lt
  obtain ⟨es, clock, hb', rest⟩ := h
  exact ⟨es, clock, (hf.block B hb hn).trans hb', rest⟩
/-- The number of the item that defines the label that item k leads to. -/
def goalF (l : List It) (acc : List (Int × Nat)) (k : Nat) : Int := if isTo (l.getD k it0) = true then ((valL acc (l.getD k it0).lab : Nat) : Int) else 0
def goalsA (l : List It) (acc : List (Int × Nat)) : List Int := (List.range l.length).map (goalF l acc)
theorem goalsA_len (l : List It) (acc : List (Int × Nat)) : (goalsA l acc).length = l.length := by simp [goalsA]
theorem goalsA_get {l : List It} {acc : List (Int × Nat)} {k : Nat} (h : k < l.length) : (goalsA l acc).getD k 0 = goalF l acc k := by
  unfold goalsA; rw [List.getD_eq_getElem?_getD, List.getElem?_map, List.getElem?_range h]; rfl
def ResP (l : List It) (acc : List (Int × Nat)) (w : World) (e : Ending) (w' : World) : Prop :=
  Fr (fun _ => False) w w' ∧ if lackK l acc l.length = true then e = .returned (.tuple #[.slice none 0 0, .int .i64 4]) else ∃ g, e = .returned (.tuple #[.slice (some ⟨g, 0, none⟩) l.length l.length, .int .i64 0]) ∧ IRow w.heap.size w' g (goalsA l acc)
theorem lack_mono {l : List It} {acc : List (Int × Nat)} : ∀ {k j : Nat}, k ≤ j → lackK l acc k = true → lackK l acc j = true := by
  intro k j h
  induction h with
  | refl => exact id
  | step _ ih => intro hh; show (lackK l acc _ || _) = true; rw [ih hh]; rfl
theorem resP_no {l : List It} {acc : List (Int × Nat)} {w w' : World} {k : Nat} (hk : k ≤ l.length) (h : lackK l acc k = true) (hf : Fr (fun _ => False) w w') : ResP l acc w (.returned (.tuple #[.slice none 0 0, .int .i64 4])) w' :=
  ⟨hf, by rw [if_pos (lack_mono hk h)]⟩
theorem resP_yes {l : List It} {acc : List (Int × Nat)} {w w' : World} {g n : Nat} (hn : n = l.length) (h : lackK l acc l.length = false) (hf : Fr (fun _ => False) w w') (hr : IRow w.heap.size w' g (mixK (goalF l acc) (zeros n) n)) : ResP l acc w (.returned (.tuple #[.slice (some ⟨g, 0, none⟩) n n, .int .i64 0])) w' := by
  subst hn
  refine ⟨hf, ?_⟩
  rw [if_neg (by rw [h]; decide)]
  refine ⟨g, rfl, ?_⟩
  have e := mixK_end (goalF l acc) (zeros l.length)
  rw [zeros_len] at e
  rw [e] at hr
  exact hr
set_option maxRecDepth 100000 in
set_option maxHeartbeats 8000000 in
theorem c20 (a : Option Addr) (n c : Nat) (l : List It) (acc : List (Int × Nat)) (B : Nat) (hn : n = l.length) (hfew : n ≤ 32768) (hap : ApartL acc) (hlab : ∀ k, k < l.length → isTo (l.getD k it0) = true → labB (l.getD k it0).lab = true) (w : World) (hat : ItAt w.heap.size w a l) (hown : ownsL w B acc) :
    Calls Try.prog 20 #[.slice a n c, .map (some B)] w (ResP l acc w) := by
  obtain ⟨i0, hi, hz0, hz1, hz2⟩ := info_parts infoI
  have HI := Lib.hid hi
  have HZ0 := Lib.hid hz0
  have HZ1 := Lib.hid hz1
  have b2 : i0.bytes * n ≤ 281474976710656 := by rw [hz2]; omega
  have b3 : n ≤ maxLen := by unfold maxLen; omega
  clear hi hz0 hz1 hz2
  have HA := Lib.hid hat
  have HN := Lib.hid hn
  have HL := Lib.hid hlab
  have HM := Lib.hid hown
  have HAP := Lib.hid hap
  clear hat hn hlab hown hap
  go_enter Try.func20, Try.ntmps20
  go_wp2_with (at_make; refine wpList_make_full _ rfl _ _ 26 rfl w.heap.size 3 i0 _ 1 Try.underlying26 HI.out HZ0.out HZ1.out .i64 .i64 (n : Int) (n : Int) n (by rfl) (by rfl) rfl rfl b2 b3 (Nat.le_refl _) ?_; intro w1 hown hg; have H0 : Hid (lackK l acc 0 = false ∧ Fil w w1 w.heap.size (goalF l acc) (zeros n) 0) := Lib.hid ⟨rfl, Fil.init hown (Fr.of_by0 hg)⟩; clear hown hg)
  go_loopw [16] (fun i wr => ∃ k : Nat, i = .int .i64 k ∧ k ≤ n ∧ Hid (lackK l acc k = false ∧ Fil w wr w.heap.size (goalF l acc) (zeros n) k)) (fun i _ => n - (intOf i).toNat)
  case atStart => exact ⟨0, rfl, Nat.zero_le _, H0⟩
  case round =>
    obtain ⟨k, rfl, hk, HW⟩ := hrel
    clear H0
    by_cases hlt : k < n
    · obtain ⟨x, hx⟩ : ∃ x, l.getD k it0 = x := ⟨_, rfl⟩
      obtain ⟨g, o, rfl, hg, c0, c1, c2, c3, c4, c5, c6⟩ := HA.out.get HW.out.2.fr (fun _ h => h.elim) k (by rw [← HN.out]; exact hlt) x hx
      obtain ⟨⟨y, d0⟩, d1, d2⟩ := HW.out.2.cell (Fr.refl _ _) (by rw [zeros_len]; exact hlt)
      have hlk := HL.out k (by rw [← HN.out]; exact hlt)
      rw [hx] at hlk
      have hone := HW.out.1
      have gne : w.heap.size ≠ wr.heap.size := by omega
      have i1 : (0 : Int) ≤ (k : Int) := by omega
      have i2 : (k : Int) < (n : Int) := by omega
      have HMR := Lib.hid (ownsL_fr HM.out HW.out.2.fr id)
      by_cases ht : isTo x = true
      · have hlb := hlk ht
        unfold labB at hlb
        simp only [Bool.and_eq_true, decide_eq_true_eq] at hlb
        obtain ⟨l0, l1⟩ := hlb
        have HK := Lib.hid (keyOf_int_mk Try.underlying3 (wfI (a := x.lab) (by omega) (by omega)))
        have hkind : x.k = 3 ∨ x.k = 4 := by unfold isTo at ht; simpa using ht
        cases hh : hasL acc x.lab
        · have h1 : Hid (lackK l acc (k + 1) = true) := Lib.hid (by unfold lackK; rw [hx, hh, ht]; simp)
          have hhas : Maps.has (mapL acc) (.int .i64 x.lab) = false := by rw [has_mapL]; exact hh
          clear hx hlk hh hone ht
          rcases hkind with e | e
          all_goals
            rw [e] at c0
            clear e
            go_wp2_with (first
              | (at_lookup; refine wpList_lookup_own_ok_int _ rfl _ _ 52 rfl 3 3 .i64 lawI Try.underlying52 Try.underlying3 (zeroI _) B _ (mapL acc) rfl (by exact HMR.out.alloc _) (.int .i64 x.lab) _ rfl HK.out ?_; intro c hat hwc; rw [hhas]; clear hat hwc))
            go_ret2
            exact resP_no (k := k + 1) (by rw [← HN.out]; omega) h1.out (fr_al HW.out.2.fr _)
        · have h1 : Hid (lackK l acc (k + 1) = false) := Lib.hid (by unfold lackK; rw [hone, hx, hh]; simp)
          have hv : Hid (((valL acc x.lab : Nat) : Int) = goalF l acc k) := Lib.hid (by unfold goalF; rw [hx, if_pos ht])
          have hhas : Maps.has (mapL acc) (.int .i64 x.lab) = true := by rw [has_mapL]; exact hh
          have HH := Lib.hid hh
          clear hx hlk hh hone ht
          rcases hkind with e | e
          all_goals
            rw [e] at c0
            clear e
            go_wp2_with (first
              | (at_lookup; refine wpList_lookup_own_ok_int _ rfl _ _ 52 rfl 3 3 .i64 lawI Try.underlying52 Try.underlying3 (zeroI _) B _ (mapL acc) rfl (by exact HMR.out.alloc _) (.int .i64 x.lab) _ rfl HK.out ?_; intro c hat hwc; rw [hhas]; obtain rfl := look_k HAP.out hat HH.out; clear hat hwc))
            go_roundw
            case rel => exact ⟨k + 1, by go_num, by omega, Lib.hid ⟨h1.out, (HW.out.2.set (Fr.refl _ _) (by rw [zeros_len]; exact hlt) hv.out).keep (fr_al (Fr.refl _ _) _)⟩⟩
            case measure => simp [intOf]; omega
      · have h1 : Hid (lackK l acc (k + 1) = false) := Lib.hid (by unfold lackK; rw [hone, hx]; simp [ht])
        have hv : Hid (goalF l acc k = (zeros n).getD k 0) := Lib.hid (by unfold goalF; rw [hx, if_neg ht, zeros_get])
        have t0 : x.k ≠ 3 ∧ x.k ≠ 4 := by unfold isTo at ht; simpa using ht
        have t1 : (x.k != 3) = true := by simpa using t0.1
        have t2 : (x.k != 4) = true := by simpa using t0.2
        have t3 : (x.k == 3) = false := by simpa using t0.1
        have t4 : (x.k == 4) = false := by simpa using t0.2
        clear hx hlk hone ht t0
        go_wp2
        go_roundw
        case rel => exact ⟨k + 1, by go_num, by omega, Lib.hid ⟨h1.out, HW.out.2.skip (fr_al (Fr.refl _ _) _) hv.out⟩⟩
        case measure => simp [intOf]; omega
    · obtain rfl : n = k := by omega
      have HO := HN
      go_wp2
      go_ret2
      exact resP_yes HO.out (by rw [← HO.out]; exact HW.out.1) HW.out.2.fr HW.out.2.row
end Go.Proofs.Ytnjlcimeaoedcaa
