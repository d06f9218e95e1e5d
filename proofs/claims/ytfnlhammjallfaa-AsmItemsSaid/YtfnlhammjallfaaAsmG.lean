/-
  Items (layer 5): the contract of leastSizes.
-/
import Derived.Test.YtfnlhammjallfaaAsmF
namespace Go.Proofs.Ytfnlhammjallfaa
open Go.RowKit
set_option linter.unusedVariables false
set_option linter.unusedSimpArgs false
/-- Numbers that fit. -/
def Fit (l : List It) : Prop := ∀ k, k < l.length → -9223372036854775808 ≤ (l.getD k it0).imm ∧ (l.getD k it0).imm ≤ 9223372036854775807
set_option maxRecDepth 100000 in
set_option maxHeartbeats 8000000 in
theorem c55 (a : Option Addr) (n c : Nat) (l : List It) (hn : n = l.length) (hfew : n ≤ 32768) (hfit : Fit l) (w : World) (hat : ItAt w.heap.size w a l) :
    Calls Try.prog 55 #[.slice a n c] w (RowP (szF l (fun _ => false)) w) := by
  obtain ⟨i0, hi, hz0, hz1, hz2⟩ := info_parts infoI
  have HI := Lib.hid hi
  have HZ0 := Lib.hid hz0
  have HZ1 := Lib.hid hz1
  have b2 : i0.bytes * n ≤ 281474976710656 := by rw [hz2]; omega
  have b3 : n ≤ maxLen := by unfold maxLen; omega
  clear hi hz0 hz1 hz2
  have HA := Lib.hid hat
  have HN := Lib.hid hn
  have HFIT := Lib.hid hfit
  clear hat hn hfit
  go_enter Try.func55, Try.ntmps55
  go_wp2_with (at_make; refine wpList_make_full _ rfl _ _ 46 rfl w.heap.size 3 i0 _ 1 Try.underlying46 HI.out HZ0.out HZ1.out .i64 .i64 (n : Int) (n : Int) n (by rfl) (by rfl) rfl rfl b2 b3 (Nat.le_refl _) ?_; intro w1 hown hg; have H0 : Hid (Fil w w1 w.heap.size (szk l) (zeros n) 0) := Lib.hid (Fil.init hown (Fr.of_by0 hg)); clear hown hg)
  go_loopw [11] (fun i wr => ∃ k : Nat, i = .int .i64 k ∧ k ≤ n ∧ Hid (Fil w wr w.heap.size (szk l) (zeros n) k)) (fun i _ => n - (intOf i).toNat)
  case atStart => exact ⟨0, rfl, Nat.zero_le _, H0⟩
  case round =>
    obtain ⟨k, rfl, hk, HW⟩ := hrel
    clear H0
    by_cases hlt : k < n
    · obtain ⟨x, hx⟩ : ∃ x, l.getD k it0 = x := ⟨_, rfl⟩
      obtain ⟨g, o, rfl, hg, c0, c1, c2, c3, c4, c5, c6⟩ := HA.out.get HW.out.fr (fun _ h => h.elim) k (by rw [← HN.out]; exact hlt) x hx
      have HX := Lib.hid hx
      have F1 : Hid (Fr (fun _ => False) wr (wr.alloc (.cells #[.int .i64 x.k, .int .i64 x.op, .int .i64 x.rd, .int .i64 x.r1, .int .i64 x.r2, .int .i64 x.imm, .int .i64 x.lab] 25))) := Lib.hid (fr_al (Fr.refl _ _) _)
      obtain ⟨⟨y, d0⟩, d1, d2⟩ := HW.out.cell (Fr.refl _ _) (by rw [zeros_len]; exact hlt)
      have hzk : Hid (szk l k = sz0 x) := Lib.hid (by unfold szk; rw [hx])
      have hfx := HFIT.out k (by rw [← HN.out]; exact hlt)
      rw [hx] at hfx
      obtain ⟨f0, f1⟩ := hfx
      have gne : w.heap.size ≠ wr.heap.size := by omega
      clear hx
      have hkind : x.k = 1 ∨ x.k = 4 ∨ x.k = 3 ∨ x.k = 5 ∨ (x.k ≠ 1 ∧ x.k ≠ 4 ∧ x.k ≠ 3 ∧ x.k ≠ 5) := by omega
      have i1 : (0 : Int) ≤ (k : Int) := by omega
      have i2 : (k : Int) < (n : Int) := by omega
      rcases hkind with e | e | e | e | ⟨e1, e2, e3, e4⟩
      · have hv : Hid ((1 : Int) = szk l k) := Lib.hid (by rw [hzk.out]; unfold sz0; rw [if_neg (by omega), if_pos (by omega)])
        rw [e] at c0 F1
        clear e hzk
        go_wp2
        go_roundw
        case rel => exact ⟨k + 1, by go_num, by omega, Lib.hid ((HW.out.set (Fr.refl _ _) (by rw [zeros_len]; exact hlt) hv.out).keep (fr_al (Fr.refl _ _) _))⟩
        case measure => simp [intOf]; omega
      · have hv : Hid ((1 : Int) = szk l k) := Lib.hid (by rw [hzk.out]; unfold sz0; rw [if_neg (by omega), if_pos (by omega)])
        rw [e] at c0 F1
        clear e hzk
        go_wp2
        go_roundw
        case rel => exact ⟨k + 1, by go_num, by omega, Lib.hid ((HW.out.set (Fr.refl _ _) (by rw [zeros_len]; exact hlt) hv.out).keep (fr_al (Fr.refl _ _) _))⟩
        case measure => simp [intOf]; omega
      · have hv : Hid ((1 : Int) = szk l k) := Lib.hid (by rw [hzk.out]; unfold sz0; rw [if_neg (by omega), if_pos (by omega)])
        rw [e] at c0 F1
        clear e hzk
        go_wp2
        go_roundw
        case rel => exact ⟨k + 1, by go_num, by omega, Lib.hid ((HW.out.set (Fr.refl _ _) (by rw [zeros_len]; exact hlt) hv.out).keep (fr_al (Fr.refl _ _) _))⟩
        case measure => simp [intOf]; omega
      · have hv : Hid (((numI x.rd x.imm).length : Int) = szk l k) := Lib.hid (by rw [hzk.out]; unfold sz0; rw [if_pos e])
        rw [e] at c0 F1
        clear e hzk
        go_wp2_with (go_at_call 78; (with_reducible refine (c78 _ _ _ _ _ f0 f1 _).mono ?_); rintro e w2 ⟨a2, c2', rfl, hin, hgr, hbd⟩; have F2 := Lib.hid (F1.out.trans (Fr.of_grown hgr)); obtain ⟨⟨y2, d0'⟩, d1', d2'⟩ := HW.out.cell F2.out (by rw [zeros_len]; exact hlt); clear hin hgr hbd)
        go_roundw
        case rel => exact ⟨k + 1, by go_num, by omega, Lib.hid (HW.out.set F2.out (by rw [zeros_len]; exact hlt) hv.out)⟩
        case measure => simp [intOf]; omega
      · have hv : Hid (szk l k = (zeros n).getD k 0) := Lib.hid (by rw [hzk.out, zeros_get]; unfold sz0; rw [if_neg e4, if_neg (by omega)])
        have t1 : (x.k == 1) = false := by simpa using e1
        have t2 : (x.k == 4) = false := by simpa using e2
        have t3 : (x.k == 3) = false := by simpa using e3
        have t4 : (x.k == 5) = false := by simpa using e4
        clear e1 e2 e3 e4 hzk
        go_wp2
        go_roundw
        case rel => exact ⟨k + 1, by go_num, by omega, Lib.hid (HW.out.skip F1.out hv.out)⟩
        case measure => simp [intOf]; omega
    · obtain rfl : n = k := by omega
      go_wp2
      go_ret
      exact rowP_of HW.out.row HW.out.fr (by have h := mixK_end (szk l) (zeros n); rw [zeros_len] at h; rw [h]; have h2 := szF_none l; rw [zeros_len, ← HN.out] at h2; exact h2) (by rw [szF_len]; exact HN.out)
end Go.Proofs.Ytfnlhammjallfaa
