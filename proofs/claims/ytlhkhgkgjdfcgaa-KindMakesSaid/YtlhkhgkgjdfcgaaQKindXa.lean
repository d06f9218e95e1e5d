/-
  The document's own tables of types (layer 8): the least multiple; alignments.
-/
import Derived.Test.YtlhkhgkgjdfcgaaQKindNa
import Derived.LoopTactic
import Derived.Outline
namespace Go.Proofs.Ytlhkhgkgjdfcgaa
open Go.RowKit
set_option linter.unusedVariables false
set_option linter.unusedSimpArgs false
theorem upI_mod {m al : Int} (h : 1 ≤ al) : m % al = 0 → upI m al = m := by
  intro h0
  unfold upI
  obtain ⟨q, rfl⟩ := Int.dvd_of_emod_eq_zero h0
  have e : (al * q + al - 1) / al = q := by
    rw [show al * q + al - 1 = al - 1 + al * q by omega, Int.add_mul_ediv_left _ _ (by omega), Int.ediv_eq_zero_of_lt (by omega) (by omega)]
    omega
  rw [e, Int.mul_comm]
theorem upI_succ {m al : Int} (h : 1 ≤ al) (h0 : m % al ≠ 0) : upI (m + 1) al = upI m al := by
  unfold upI
  congr 1
  have h1 := Int.emod_add_mul_ediv m al
  have h2 := Int.emod_lt_of_pos m (by omega : 0 < al)
  have h3 := Int.emod_nonneg m (by omega : al ≠ 0)
  generalize m % al = r at *
  generalize m / al = q at *
  have e1 : (m + 1 + al - 1) / al = q + 1 := by
    rw [show m + 1 + al - 1 = r + al * (q + 1) by rw [Int.mul_add]; omega, Int.add_mul_ediv_left _ _ (by omega), Int.ediv_eq_zero_of_lt (by omega) (by omega)]
    omega
  have e2 : (m + al - 1) / al = q + 1 := by
    rw [show m + al - 1 = (r - 1) + al * (q + 1) by rw [Int.mul_add]; omega, Int.add_mul_ediv_left _ _ (by omega), Int.ediv_eq_zero_of_lt (by omega) (by omega)]
    omega
  rw [e1, e2]
set_option maxHeartbeats 1000000 in
theorem next_of (n al : Int) (h : 0 ≤ n ∧ n ≤ 1000000000) (ha : 1 ≤ al ∧ al ≤ 1000) (w : World) : Calls Try.prog 35 #[.int .i64 n, .int .i64 al] w fun r w' => r = .returned (.int .i64 (upI n al)) ∧ w = w' := by
  obtain ⟨a0, a1⟩ := ha
  have u1 := upI_le (n := n) a0
  have hz : (al == 0) = false := by rw [beq_eq_false_iff_ne]; omega
  have hz2 : al ≠ 0 := by omega
  obtain ⟨U, hU⟩ : ∃ U, upI n al = U := ⟨_, rfl⟩
  rw [hU] at u1 ⊢
  go_enter Try.func35, Try.ntmps35
  go_wp2
  go_loopw [0] (fun q wl => ∃ m : Int, q = .int .i64 m ∧ 0 ≤ m ∧ m ≤ U ∧ upI m al = U ∧ wl = w) (fun q _ => (U - intOf q).toNat)
  case atStart => exact ⟨n, rfl, h.1, by rw [← hU]; exact upI_ge a0, hU, rfl⟩
  case round =>
    obtain ⟨m, rfl, m0, m1, m2, rfl⟩ := hrel
    by_cases hm : m % al = 0
    · have ht : m.tmod al = 0 := Int.tmod_eq_zero_of_dvd (Int.dvd_of_emod_eq_zero hm)
      have e : m = U := by rw [← m2]; exact (upI_mod a0 hm).symm
      subst e
      go_wp2
      go_ret
      exact ⟨rfl, rfl⟩
    · have ht : (m.tmod al != 0) = true := by
        rw [bne_iff_ne]
        rw [Int.tmod_eq_emod_of_nonneg m0]
        exact hm
      have m3 := upI_succ a0 hm
      have m4 := upI_ge (n := m + 1) a0
      go_wp2
      go_roundw
      case rel => exact ⟨m + 1, by first | rfl | go_num, by omega, by omega, by rw [m3]; exact m2, by first | rfl | trivial⟩
      case measure => simp [intOf]; omega
end Go.Proofs.Ytlhkhgkgjdfcgaa
