/-
  Items (layer 5): the contract of addresses.
-/
import Derived.Test.YtnjlcimeaoedcaaQAsmPa
namespace Go.Proofs.Ytnjlcimeaoedcaa
open Go.RowKit Go.Maps
set_option linter.unusedVariables false
set_option linter.unusedSimpArgs false
theorem hasL_lt {l : List It} {k n : Nat} {s : Int} (h : hasL (labsK l k) s = true) : 0 < k := by
  cases k with
  | zero => simp [labsK, hasL] at h
  | succ k => omega
/-- Between rounds, of the inner loop too: so many -1 behind. -/
def addM (acc : List (Int × Nat)) (s : List Int) (n j : Nat) : List Int := addrK acc s n ++ List.replicate j (-1)
theorem addM_len (acc : List (Int × Nat)) (s : List Int) (n j : Nat) : (addM acc s n j).length = (addrK acc s n).length + j := by simp [addM]
theorem addM_succ (acc : List (Int × Nat)) (s : List Int) (n j : Nat) : addM acc s n (j + 1) = addM acc s n j ++ [-1] := by simp [addM, List.replicate_succ']
theorem addM_zero (acc : List (Int × Nat)) (s : List Int) (n : Nat) : addM acc s n 0 = addrK acc s n := by simp [addM]
theorem addrK_yes {acc : List (Int × Nat)} {s : List Int} {n j : Nat} (h : hasL acc n = true) (hj : j = n - (addrK acc s n).length) : addrK acc s (n + 1) = addM acc s n j ++ [(atK s).getD (valL acc n) 0] := by
  subst hj
  show (if _ then _ else _) = _
  rw [if_pos h]; rfl
theorem addrK_no {acc : List (Int × Nat)} {s : List Int} {n : Nat} (h : hasL acc n = false) : addrK acc s (n + 1) = addrK acc s n := by
  show (if _ then _ else _) = _
  rw [if_neg (by rw [h]; decide)]
set_option maxRecDepth 100000 in
set_option maxHeartbeats 8000000 in
theorem c23 (si sg ss : Value) (B ga m : Nat) (acc : List (Int × Nat)) (s : List Int) (hs : s.length = m) (hfew : m ≤ 32768) (hap : ApartL acc) (hval : ∀ n, hasL acc n = true → valL acc n < m) (w : World) (hown : ownsL w B acc) (hra : IRow 0 w ga (atK s)) :
    Calls Try.prog 23 #[.agg #[si, sg, ss, .slice (some ⟨ga, 0, none⟩) m m], .map (some B)] w (NumP (addrK acc s 4096) w) := by
  obtain ⟨i0, hi, hz0, hz1, hz2⟩ := info_parts infoI
  have HI := Lib.hid hi
  have HZ0 := Lib.hid hz0
  have HZ1 := Lib.hid hz1
  have HZ2 := Lib.hid hz2
  clear hi hz0 hz1 hz2
  have F0 := Lib.hid (fr_al (Fr.refl (fun _ => False) w) (.cells #[si, sg, ss, .slice (some ⟨ga, 0, none⟩) m m] 58))
  have E3 := Lib.hid (fcell w #[si, sg, ss, .slice (some ⟨ga, 0, none⟩) m m] 58 3 _ rfl)
  have HM := Lib.hid (ownsL_fr hown F0.out id)
  have HA := Lib.hid (hra.fr F0.out id)
  have HS := Lib.hid hs
  have HAP := Lib.hid hap
  have HV := Lib.hid hval
  have H0 : Hid (Gro (w.alloc (.cells #[si, sg, ss, .slice (some ⟨ga, 0, none⟩) m m] 58)) (w.alloc (.cells #[si, sg, ss, .slice (some ⟨ga, 0, none⟩) m m] 58)) (.slice none 0 0) (addrK acc s 0)) := Lib.hid ⟨World.ownsRow_nil _ _ _ _, Fr.refl _ _⟩
  clear hs hap hval hown hra
  go_enter Try.func23, Try.ntmps23
  go_wp2
  have HBX : w.heap.size < (w.alloc (.cells #[si, sg, ss, .slice (some ⟨ga, 0, none⟩) m m] 58)).heap.size := alloc_lt _ _
  have HRX : Hid (Fr (fun _ => False) (w.alloc (.cells #[si, sg, ss, .slice (some ⟨ga, 0, none⟩) m m] 58)) (w.alloc (.cells #[si, sg, ss, .slice (some ⟨ga, 0, none⟩) m m] 58))) := Lib.hid (Fr.refl _ _)
  have HWW : Hid (w.heap.size ≤ (w.alloc (.cells #[si, sg, ss, .slice (some ⟨ga, 0, none⟩) m m] 58)).heap.size) := Lib.hid (Nat.le_of_lt HBX)
  generalize w.alloc (.cells #[si, sg, ss, .slice (some ⟨ga, 0, none⟩) m m] 58) = W at *
  go_loopw [5, 9] (fun v i wr => ∃ k : Nat, i = .int .i64 k ∧ k ≤ 4096 ∧ Hid (Gro W wr v (addrK acc s k))) (fun _ i _ => 4096 - (intOf i).toNat)
  case atStart => exact ⟨0, rfl, Nat.zero_le _, H0⟩
  case round =>
    obtain ⟨k, rfl, hk, HW⟩ := hrel
    clear H0
    by_cases hlt : k < 4096
    · have HK := Lib.hid (keyOf_int_mk Try.underlying3 (wfI (a := (k : Int)) (by omega) (by omega)))
      have HMR := Lib.hid (ownsL_fr HM.out HW.out.fr id)
      have e3 := HW.out.fr.cell E3.out id
      have hsz := HW.out.fr.size
      cases hh : hasL acc (k : Int)
      · have hhas : Maps.has (mapL acc) (.int .i64 (k : Int)) = false := by rw [has_mapL]; exact hh
        have hv : Hid (addrK acc s (k + 1) = addrK acc s k) := Lib.hid (addrK_no hh)
        clear hh
        go_wp2_with (first
          | (at_lookup; refine wpList_lookup_own_ok_int _ rfl _ _ 52 rfl 3 3 .i64 lawI Try.underlying52 Try.underlying3 (zeroI _) B _ (mapL acc) rfl (by exact HMR.out) (.int .i64 (k : Int)) _ rfl HK.out ?_; intro c hat hwc; rw [hhas]; clear hat hwc))
        go_roundw
        case rel => exact ⟨k + 1, by go_num, by omega, Lib.hid (by rw [hv.out]; exact HW.out)⟩
        case measure => simp [intOf]; omega
      · have hhas : Maps.has (mapL acc) (.int .i64 (k : Int)) = true := by rw [has_mapL]; exact hh
        have HH := Lib.hid hh
        have hvl := HV.out k hh
        have hcell := HA.out.cell (k := valL acc k) (by rw [atK_len, HS.out]; exact hvl)
        have HY : Hid (∀ j, j = k - (addrK acc s k).length → addrK acc s (k + 1) = addM acc s k j ++ [(atK s).getD (valL acc k) 0]) := Lib.hid (fun j hj => addrK_yes hh hj)
        have hal := addrK_len acc s k
        obtain ⟨t, ht⟩ : ∃ t, valL acc k = t := ⟨_, rfl⟩
        rw [ht] at hcell HY hvl
        have HT := Lib.hid ht
        generalize (atK s).getD t 0 = X at *
        have HC := Lib.hid hcell
        clear hh ht hcell
        have t1 : (0 : Int) ≤ (t : Int) := by omega
        have t2 : (t : Int) < (m : Int) := by omega
        obtain ⟨wo, hwo⟩ : ∃ wo : World, wo = wr := ⟨_, rfl⟩
        subst hwo
        go_wp2_with (first
          | (at_lookup; refine wpList_lookup_own_ok_int _ rfl _ _ 52 rfl 3 3 .i64 lawI Try.underlying52 Try.underlying3 (zeroI _) B _ (mapL acc) rfl (by exact HMR.out) (.int .i64 (k : Int)) _ rfl HK.out ?_; intro c hat hwc; rw [hhas]; obtain rfl := (look_k HAP.out hat HH.out).trans (congrArg Int.ofNat HT.out); clear hat hwc))
        go_loopw [5] (fun v wi => ∃ j : Nat, j ≤ k - (addrK acc s k).length ∧ Hid (Gro W wi v (addM acc s k j))) (fun v _ => k - lenOf v)
        case atStart => exact ⟨0, Nat.zero_le _, Lib.hid (by rw [addM_zero]; exact HW.out)⟩
        case round =>
          obtain ⟨j, hj, HR⟩ := hrel
          obtain ⟨av, cv, hvf, _⟩ := HR.out.num.form
          obtain ⟨z, hz⟩ : ∃ z, (addM acc s k j).length = z := ⟨_, rfl⟩
          have HLEN := Lib.hid hz
          rw [hz] at hvf
          subst hvf
          have hzj : z = (addrK acc s k).length + j := by rw [← hz, addM_len]
          have hsi := HR.out.fr.size
          have e3 := HR.out.fr.cell E3.out id
          have cX := HR.out.fr.cell HC.out id
          have hbl : (addM acc s k j).length ≤ 4096 := by rw [hz]; omega
          clear hz
          by_cases hzk : z < k
          · have HN2 : Hid (addM acc s k (j + 1) = addM acc s k j ++ [-1]) := Lib.hid (addM_succ _ _ _ _)
            have hj2 : j + 1 ≤ k - (addrK acc s k).length := by omega
            clear hzj hj
            go_wp2_with (at_builtin; refine wpList_append_own _ rfl _ _ 26 rfl W.heap.size 3 i0 (.int .i64 0) 1 8 Try.underlying26 HI.out HZ0.out HZ1.out HZ2.out rfl (by decide) _ (addM acc s k j).length (ints (addM acc s k j)) rfl (by exact HR.out.num.alloc _) ⟨wr.heap.size, 0, none⟩ 1 1 [.int .i64 (-1)] rfl rfl (one_cell wr 3 (.int .i64 (-1))) (by simp [Value.oneCell']) (by unfold maxLen; omega) (by omega) (by simp; omega) ?_; intro v' w3 hown3 hg3 _; have HR3 : Hid (Gro W w3 v' (addM acc s k j ++ [-1])) := Lib.hid (Gro.snoc HR.out (fr_al (Fr.refl _ _) _) hown3 hg3); clear hown3 hg3)
            go_roundw
            case rel => exact ⟨j + 1, hj2, by rw [HN2.out]; exact HR3⟩
            case measure =>
              obtain ⟨a5, c5, hv5, _⟩ := HR3.out.num.form
              subst hv5
              have := HLEN.out
              simp [lenOf]
              omega
          · have HFIN := Lib.hid (HY.out j (by omega))
            clear hzj hj
            go_wp2_with (at_builtin; refine wpList_append_own _ rfl _ _ 26 rfl W.heap.size 3 i0 (.int .i64 0) 1 8 Try.underlying26 HI.out HZ0.out HZ1.out HZ2.out rfl (by decide) _ (addM acc s k j).length (ints (addM acc s k j)) rfl (by exact HR.out.num.alloc _) ⟨wr.heap.size, 0, none⟩ 1 1 [.int .i64 X] rfl rfl (one_cell wr 3 (.int .i64 X)) (by simp [Value.oneCell']) (by unfold maxLen; omega) (by omega) (by simp; omega) ?_; intro v' w3 hown3 hg3 _; have HR3 : Hid (Gro W w3 v' (addM acc s k j ++ [X])) := Lib.hid (Gro.snoc HR.out (fr_al (Fr.refl _ _) _) hown3 hg3); clear hown3 hg3)
            go_roundw
            case rel => exact ⟨k + 1, by go_num, by omega, by rw [HFIN.out]; exact HR3⟩
            case measure => simp [intOf]; omega
    · obtain rfl : k = 4096 := by omega
      go_wp2
      go_ret
      exact ⟨_, rfl, HW.out.num.mono HWW.out, F0.out.trans HW.out.fr⟩
end Go.Proofs.Ytnjlcimeaoedcaa
