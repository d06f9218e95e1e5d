/-
  Items (layer 5): the contract of resolve.
-/
import Derived.Test.YtfnlhammjallfaaAsmJ
namespace Go.Proofs.Ytfnlhammjallfaa
open Go.RowKit Go.Maps
set_option linter.unusedVariables false
set_option linter.unusedSimpArgs false
theorem ownsL_fr {F : Nat → Prop} {w w' : World} {B : Nat} {acc : List (Int × Nat)} (h : ownsL w B acc) (hf : Fr F w w') (hn : ¬ F B) : ownsL w' B acc := by
  have hb := h.lt
  obtain ⟨es, clock, hb', rest⟩ := h
  exact ⟨es, clock, (hf.block B hb hn).trans hb', rest⟩
/-- The number of the item that defines the label that item k leads to. -/
def goalF (l : List It) (acc : List (Int × Nat)) (k : Nat) : Int := if isTo (l.getD k it0) = true then ((valL acc (l.getD k it0).lab : Nat) : Int) else 0
def goalsA (l : List It) (acc : List (Int × Nat)) : List Int := (List.range l.length).map (goalF l acc)
theorem goalsA_len (l : List It) (acc : List (Int × Nat)) : (goalsA l acc).length = l.length := by simp [goalsA]
theorem goalsA_get {l : List It} {acc : List (Int × Nat)} {k : Nat} (h : k < l.length) : (goalsA l acc).getD k 0 = goalF l acc k := by
  unfold goalsA; rw [List.getD_eq_getElem?_getD, List.getElem?_map, List.getElem?_range h]; rfl
def ResP (l : List It) (acc : List (Int × Nat)) (w : World) (e : Ending) (w' : World) : Prop :=
  Fr (fun _ => False) w w' ∧ if lackK l acc l.length = true then e = .returned (.tuple #[.slice none 0 0, .int .i64 4]) else ∃ g, e = .returned (.tuple #[.slice (some ⟨g, 0, none⟩) l.length l.length, .int .i64 0]) ∧ IRow w.heap.size w' g (goalsA l acc)
theorem lack_mono {l : List It} {acc : List (Int × Nat)} : ∀ {k j : Nat}, k ≤ j → lackK l acc k = true → lackK l acc j = true := by
  intro k j h
  induction h with
  | refl => exact id
  | step _ ih => intro hh; show (lackK l acc _ || _) = true; rw [ih hh]; rfl
theorem resP_no {l : List It} {acc : List (Int × Nat)} {w w' : World} {k : Nat} (hk : k ≤ l.length) (h : lackK l acc k = true) (hf : Fr (fun _ => False) w w') : ResP l acc w (.returned (.tuple #[.slice none 0 0, .int .i64 4])) w' :=
  ⟨hf, by rw [if_pos (lack_mono hk h)]⟩
theorem resP_yes {l : List It} {acc : List (Int × Nat)} {w w' : World} {g n : Nat} (hn : n = l.length) (h : lackK l acc l.length = false) (hf : Fr (fun _ => False) w w') (hr : IRow w.heap.size w' g (mixK (goalF l acc) (zeros n) n)) : ResP l acc w (.returned (.tuple #[.slice (some ⟨g, 0, none⟩) n n, .int .i64 0])) w' := by
  subst hn
  refine ⟨hf, ?_⟩
  rw [if_neg (by rw [h]; decide)]
  refine ⟨g, rfl, ?_⟩
  have e := mixK_end (goalF l acc) (zeros l.length)
  rw [zeros_len] at e
  rw [e] at hr
  exact hr
set_option maxRecDepth 100000 in
set_option maxHeartbeats 8000000 in
theorem c33 (a : Option Addr) (n c : Nat) (l : List It) (acc : List (Int × Nat)) (B : Nat) (hn : n = l.length) (hfew : n ≤ 32768) (hap : ApartL acc) (hlab : ∀ k, k < l.length → isTo (l.getD k it0) = true → labB (l.getD k it0).lab = true) (w : World) (hat : ItAt w.heap.size w a l) (hown : ownsL w B acc) :
    Calls Try.prog 33 #[.slice a n c, .map (some B)] w (ResP l acc w) := by
  obtain ⟨i0, hi, hz0, hz1, hz2⟩ := info_parts infoI
  have HI := Lib.hid hi
  have HZ0 := Lib.hid hz0
  have HZ1 := Lib.hid hz1
  have b2 : i0.bytes * n ≤ 281474976710656 := by rw [hz2]; omega
  have b3 : n ≤ maxLen := by unfold maxLen; omega
  clear hi hz0 hz1 hz2
  have HA := Lib.hid hat
  have HN := Lib.hid hn
  have HL := Lib.hid hlab
  have HM := Lib.hid hown
  have HAP := Lib.hid hap
  clear hat hn hlab hown hap
  go_enter Try.func33, Try.ntmps33
  go_wp2_with (at_make; refine wpList_make_full _ rfl _ _ 46 rfl w.heap.size 3 i0 _ 1 Try.underlying46 HI.out HZ0.out HZ1.out .i64 .i64 (n : Int) (n : Int) n (by rfl) (by rfl) rfl rfl b2 b3 (Nat.le_refl _) ?_; intro w1 hown hg; have H0 : Hid (lackK l acc 0 = false ∧ Fil w w1 w.heap.size (goalF l acc) (zeros n) 0) := Lib.hid ⟨rfl, Fil.init hown (Fr.of_by0 hg)⟩; clear hown hg)
  go_loopw [16] (fun i wr => ∃ k : Nat, i = .int .i64 k ∧ k ≤ n ∧ Hid (lackK l acc k = false ∧ Fil w wr w.heap.size (goalF l acc) (zeros n) k)) (fun i _ => n - (intOf i).toNat)
  case atStart => exact ⟨0, rfl, Nat.zero_le _, H0⟩
  case round =>
    obtain ⟨k, rfl, hk, HW⟩ := hrel
    clear H0
    by_cases hlt : k < n
    · obtain ⟨x, hx⟩ : ∃ x, l.getD k it0 = x := ⟨_, rfl⟩
      obtain ⟨g, o, rfl, hg, c0, c1, c2, c3, c4, c5, c6⟩ := HA.out.get HW.out.2.fr (fun _ h => h.elim) k (by rw [← HN.out]; exact hlt) x hx
      obtain ⟨⟨y, d0⟩, d1, d2⟩ := HW.out.2.cell (Fr.refl _ _) (by rw [zeros_len]; exact hlt)
      have hlk := HL.out k (by rw [← HN.out]; exact hlt)
      rw [hx] at hlk
      have hone := HW.out.1
      have gne : w.heap.size ≠ wr.heap.size := by omega
      have i1 : (0 : Int) ≤ (k : Int) := by omega
      have i2 : (k : Int) < (n : Int) := by omega
      have HMR := Lib.hid (ownsL_fr HM.out HW.out.2.fr id)
      by_cases ht : isTo x = true
      · have hlb := hlk ht
        unfold labB at hlb
        simp only [Bool.and_eq_true, decide_eq_true_eq] at hlb
        obtain ⟨l0, l1⟩ := hlb
        have HK := Lib.hid (keyOf_int_mk Try.underlying3 (wfI (a := x.lab) (by omega) (by omega)))
        have hkind : x.k = 3 ∨ x.k = 4 := by unfold isTo at ht; simpa using ht
        cases hh : hasL acc x.lab
        · have h1 : Hid (lackK l acc (k + 1) = true) := Lib.hid (by unfold lackK; rw [hx, hh, ht]; simp)
          have hhas : Maps.has (mapL acc) (.int .i64 x.lab) = false := by rw [has_mapL]; exact hh
          clear hx hlk hh hone ht
          rcases hkind with e | e
          all_goals
            rw [e] at c0
            clear e
            go_wp2_with (first
              | (at_lookup; refine wpList_lookup_own_ok_int _ rfl _ _ 65 rfl 3 3 .i64 lawI Try.underlying65 Try.underlying3 (zeroI _) B _ (mapL acc) rfl (by exact HMR.out.alloc _) (.int .i64 x.lab) _ rfl HK.out ?_; intro c hat hwc; rw [hhas]; clear hat hwc))
            go_ret2
            exact resP_no (k := k + 1) (by rw [← HN.out]; omega) h1.out (fr_al HW.out.2.fr _)
        · have h1 : Hid (lackK l acc (k + 1) = false) := Lib.hid (by unfold lackK; rw [hone, hx, hh]; simp)
          have hv : Hid (((valL acc x.lab : Nat) : Int) = goalF l acc k) := Lib.hid (by unfold goalF; rw [hx, if_pos ht])
          have hhas : Maps.has (mapL acc) (.int .i64 x.lab) = true := by rw [has_mapL]; exact hh
          have HH := Lib.hid hh
          clear hx hlk hh hone ht
          rcases hkind with e | e
          all_goals
            rw [e] at c0
            clear e
            go_wp2_with (first
              | (at_lookup; refine wpList_lookup_own_ok_int _ rfl _ _ 65 rfl 3 3 .i64 lawI Try.underlying65 Try.underlying3 (zeroI _) B _ (mapL acc) rfl (by exact HMR.out.alloc _) (.int .i64 x.lab) _ rfl HK.out ?_; intro c hat hwc; rw [hhas]; obtain rfl := look_k HAP.out hat HH.out; clear hat hwc))
            go_roundw
            case rel => exact ⟨k + 1, by go_num, by omega, Lib.hid ⟨h1.out, (HW.out.2.set (Fr.refl _ _) (by rw [zeros_len]; exact hlt) hv.out).keep (fr_al (Fr.refl _ _) _)⟩⟩
            case measure => simp [intOf]; omega
      · have h1 : Hid (lackK l acc (k + 1) = false) := Lib.hid (by unfold lackK; rw [hone, hx]; simp [ht])
        have hv : Hid (goalF l acc k = (zeros n).getD k 0) := Lib.hid (by unfold goalF; rw [hx, if_neg ht, zeros_get])
        have t0 : x.k ≠ 3 ∧ x.k ≠ 4 := by unfold isTo at ht; simpa using ht
        have t1 : (x.k != 3) = true := by simpa using t0.1
        have t2 : (x.k != 4) = true := by simpa using t0.2
        have t3 : (x.k == 3) = false := by simpa using t0.1
        have t4 : (x.k == 4) = false := by simpa using t0.2
        clear hx hlk hone ht t0
        go_wp2
        go_roundw
        case rel => exact ⟨k + 1, by go_num, by omega, Lib.hid ⟨h1.out, HW.out.2.skip (fr_al (Fr.refl _ _) _) hv.out⟩⟩
        case measure => simp [intOf]; omega
    · obtain rfl : n = k := by omega
      have HO := HN
      go_wp2
      go_ret2
      exact resP_yes HO.out (by rw [← HO.out]; exact HW.out.1) HW.out.2.fr HW.out.2.row
end Go.Proofs.Ytfnlhammjallfaa
