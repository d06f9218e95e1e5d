/-
  Plain facts: the word of an instruction is the sum of its fields; which immediates a format has room for; what is gathered of a word, by number.
-/
import Derived.Test.YtnjlcimeaoedcaaQOnce
namespace Go.Proofs.Ytnjlcimeaoedcaa
open Go.RowKit
set_option linter.unusedVariables false
set_option linter.unusedSimpArgs false
theorem esum_85 {o t s rd r1 r2 m : Int} (ho : 0 ≤ o ∧ o < 128) (ht : 0 ≤ t ∧ t < 8) (hs : 0 ≤ s ∧ s < 128) (n3 : has3 85 = false → t = 0) (n7 : has7 85 = false → s = 0) (hd : regB rd (uRd 85) = true) (h1 : regB r1 (uRs1 85) = true) (h2 : regB r2 (uRs2 85) = true) (m0 : 0 ≤ m) (m1 : m < 4294967296) :
    (bits .or .u32 (bits .or .u32 (fixF o t s) (bits .or .u32 (bits .or .u32 (rd * 128) (r1 * 32768)) (r2 * 1048576))) (scat 85 m 4)) = o + t * 4096 + s * 33554432 + rd * 128 + r1 * 32768 + r2 * 1048576 + scat 85 m 4 := by
  have d0 := reg_in hd
  have d1 := reg_in h1
  have d2 := reg_in h2
  have e1 : r1 = 0 := by simpa [regB, uRd, uRs1, uRs2] using h1
  have e2 : r2 = 0 := by simpa [regB, uRd, uRs1, uRs2] using h2
  have e3 : t = 0 := n3 rfl
  have e7 : s = 0 := n7 rfl
  rw [base_sum ho ht hs d0 d1 d2, scat_85 m m0 m1]
  clear hd h1 h2 n3 n7
  have b0 : 0 ≤ m / 4096 % 1048576 ∧ m / 4096 % 1048576 < 1048576 := by omega
  generalize m / 4096 % 1048576 = x0 at *
  have q := or_field (x := o + t * 4096 + s * 33554432 + rd * 128 + r1 * 32768 + r2 * 1048576) (f := x0) 12 20 (by omega) (by omega) (by omega) (by simp; omega) (by simp; omega) (by omega)
  simp only [Int.reducePow, Nat.reducePow, Nat.reduceAdd] at q
  rw [q]
  try omega
theorem esum_74 {o t s rd r1 r2 m : Int} (ho : 0 ≤ o ∧ o < 128) (ht : 0 ≤ t ∧ t < 8) (hs : 0 ≤ s ∧ s < 128) (n3 : has3 74 = false → t = 0) (n7 : has7 74 = false → s = 0) (hd : regB rd (uRd 74) = true) (h1 : regB r1 (uRs1 74) = true) (h2 : regB r2 (uRs2 74) = true) (m0 : 0 ≤ m) (m1 : m < 4294967296) :
    (bits .or .u32 (bits .or .u32 (fixF o t s) (bits .or .u32 (bits .or .u32 (rd * 128) (r1 * 32768)) (r2 * 1048576))) (scat 74 m 4)) = o + t * 4096 + s * 33554432 + rd * 128 + r1 * 32768 + r2 * 1048576 + scat 74 m 4 := by
  have d0 := reg_in hd
  have d1 := reg_in h1
  have d2 := reg_in h2
  have e1 : r1 = 0 := by simpa [regB, uRd, uRs1, uRs2] using h1
  have e2 : r2 = 0 := by simpa [regB, uRd, uRs1, uRs2] using h2
  have e3 : t = 0 := n3 rfl
  have e7 : s = 0 := n7 rfl
  rw [base_sum ho ht hs d0 d1 d2, scat_74 m m0 m1]
  clear hd h1 h2 n3 n7
  have b0 : 0 ≤ m / 1048576 % 2 ∧ m / 1048576 % 2 < 2 := by omega
  generalize m / 1048576 % 2 = x0 at *
  have b1 : 0 ≤ m / 2 % 1024 ∧ m / 2 % 1024 < 1024 := by omega
  generalize m / 2 % 1024 = x1 at *
  have b2 : 0 ≤ m / 2048 % 2 ∧ m / 2048 % 2 < 2 := by omega
  generalize m / 2048 % 2 = x2 at *
  have b3 : 0 ≤ m / 4096 % 256 ∧ m / 4096 % 256 < 256 := by omega
  generalize m / 4096 % 256 = x3 at *
  have q := or_field (x := o + t * 4096 + s * 33554432 + rd * 128 + r1 * 32768 + r2 * 1048576) (f := x0 * 524288 + x1 * 512 + x2 * 256 + x3) 12 20 (by omega) (by omega) (by omega) (by simp; omega) (by simp; omega) (by omega)
  simp only [Int.reducePow, Nat.reducePow, Nat.reduceAdd] at q
  rw [show x0 * 2147483648 + x1 * 2097152 + x2 * 1048576 + x3 * 4096 = (x0 * 524288 + x1 * 512 + x2 * 256 + x3) * 4096 by omega, q]
  try omega
theorem esum_73 {o t s rd r1 r2 m : Int} (ho : 0 ≤ o ∧ o < 128) (ht : 0 ≤ t ∧ t < 8) (hs : 0 ≤ s ∧ s < 128) (n3 : has3 73 = false → t = 0) (n7 : has7 73 = false → s = 0) (hd : regB rd (uRd 73) = true) (h1 : regB r1 (uRs1 73) = true) (h2 : regB r2 (uRs2 73) = true) (m0 : 0 ≤ m) (m1 : m < 4294967296) :
    (bits .or .u32 (bits .or .u32 (fixF o t s) (bits .or .u32 (bits .or .u32 (rd * 128) (r1 * 32768)) (r2 * 1048576))) (scat 73 m 4)) = o + t * 4096 + s * 33554432 + rd * 128 + r1 * 32768 + r2 * 1048576 + scat 73 m 4 := by
  have d0 := reg_in hd
  have d1 := reg_in h1
  have d2 := reg_in h2
  have e2 : r2 = 0 := by simpa [regB, uRd, uRs1, uRs2] using h2
  have e7 : s = 0 := n7 rfl
  rw [base_sum ho ht hs d0 d1 d2, scat_73 m m0 m1]
  clear hd h1 h2 n3 n7
  have b0 : 0 ≤ m % 4096 ∧ m % 4096 < 4096 := by omega
  generalize m % 4096 = x0 at *
  have q := or_field (x := o + t * 4096 + s * 33554432 + rd * 128 + r1 * 32768 + r2 * 1048576) (f := x0) 20 12 (by omega) (by omega) (by omega) (by simp; omega) (by simp; omega) (by omega)
  simp only [Int.reducePow, Nat.reducePow, Nat.reduceAdd] at q
  rw [q]
  try omega
theorem esum_72 {o t s rd r1 r2 m : Int} (ho : 0 ≤ o ∧ o < 128) (ht : 0 ≤ t ∧ t < 8) (hs : 0 ≤ s ∧ s < 128) (n3 : has3 72 = false → t = 0) (n7 : has7 72 = false → s = 0) (hd : regB rd (uRd 72) = true) (h1 : regB r1 (uRs1 72) = true) (h2 : regB r2 (uRs2 72) = true) (m0 : 0 ≤ m) (m1 : m < 4294967296) :
    (bits .or .u32 (bits .or .u32 (fixF o t s) (bits .or .u32 (bits .or .u32 (rd * 128) (r1 * 32768)) (r2 * 1048576))) (scat 72 m 4)) = o + t * 4096 + s * 33554432 + rd * 128 + r1 * 32768 + r2 * 1048576 + scat 72 m 4 := by
  have d0 := reg_in hd
  have d1 := reg_in h1
  have d2 := reg_in h2
  have e2 : r2 = 0 := by simpa [regB, uRd, uRs1, uRs2] using h2
  rw [base_sum ho ht hs d0 d1 d2, scat_72 m m0 m1]
  clear hd h1 h2 n3 n7
  have b0 : 0 ≤ m % 32 ∧ m % 32 < 32 := by omega
  generalize m % 32 = x0 at *
  have q := or_field (x := o + t * 4096 + s * 33554432 + rd * 128 + r1 * 32768 + r2 * 1048576) (f := x0) 20 5 (by omega) (by omega) (by omega) (by simp; omega) (by simp; omega) (by omega)
  simp only [Int.reducePow, Nat.reducePow, Nat.reduceAdd] at q
  rw [q]
  try omega
theorem esum_83 {o t s rd r1 r2 m : Int} (ho : 0 ≤ o ∧ o < 128) (ht : 0 ≤ t ∧ t < 8) (hs : 0 ≤ s ∧ s < 128) (n3 : has3 83 = false → t = 0) (n7 : has7 83 = false → s = 0) (hd : regB rd (uRd 83) = true) (h1 : regB r1 (uRs1 83) = true) (h2 : regB r2 (uRs2 83) = true) (m0 : 0 ≤ m) (m1 : m < 4294967296) :
    (bits .or .u32 (bits .or .u32 (fixF o t s) (bits .or .u32 (bits .or .u32 (rd * 128) (r1 * 32768)) (r2 * 1048576))) (scat 83 m 4)) = o + t * 4096 + s * 33554432 + rd * 128 + r1 * 32768 + r2 * 1048576 + scat 83 m 4 := by
  have d0 := reg_in hd
  have d1 := reg_in h1
  have d2 := reg_in h2
  have e0 : rd = 0 := by simpa [regB, uRd, uRs1, uRs2] using hd
  have e7 : s = 0 := n7 rfl
  rw [base_sum ho ht hs d0 d1 d2, scat_83 m m0 m1]
  clear hd h1 h2 n3 n7
  have b0 : 0 ≤ m % 32 ∧ m % 32 < 32 := by omega
  generalize m % 32 = x0 at *
  have b1 : 0 ≤ m / 32 % 128 ∧ m / 32 % 128 < 128 := by omega
  generalize m / 32 % 128 = x1 at *
  have q0 := or_field (x := x0 * 128) (f := x1) 25 7 (by omega) (by omega) (by omega) (by simp; omega) (by simp; omega) (by omega)
  have q1 := or_field (x := o + t * 4096 + s * 33554432 + rd * 128 + r1 * 32768 + r2 * 1048576) (f := x0) 7 5 (by omega) (by omega) (by omega) (by simp; omega) (by simp; omega) (by omega)
  have q2 := or_field (x := o + t * 4096 + s * 33554432 + rd * 128 + r1 * 32768 + r2 * 1048576 + x0 * 128) (f := x1) 25 7 (by omega) (by omega) (by omega) (by simp; omega) (by simp; omega) (by omega)
  simp only [Int.reducePow, Nat.reducePow, Nat.reduceAdd] at q0 q1 q2
  rw [show x0 * 128 + x1 * 33554432 = x0 * 128 + x1 * 33554432 by omega]
  rw [← q0, or_assoc' (by omega) (by omega) (by omega) (by omega) (by omega) (by omega), q1, q2, q0]
  try omega
theorem esum_66 {o t s rd r1 r2 m : Int} (ho : 0 ≤ o ∧ o < 128) (ht : 0 ≤ t ∧ t < 8) (hs : 0 ≤ s ∧ s < 128) (n3 : has3 66 = false → t = 0) (n7 : has7 66 = false → s = 0) (hd : regB rd (uRd 66) = true) (h1 : regB r1 (uRs1 66) = true) (h2 : regB r2 (uRs2 66) = true) (m0 : 0 ≤ m) (m1 : m < 4294967296) :
    (bits .or .u32 (bits .or .u32 (fixF o t s) (bits .or .u32 (bits .or .u32 (rd * 128) (r1 * 32768)) (r2 * 1048576))) (scat 66 m 4)) = o + t * 4096 + s * 33554432 + rd * 128 + r1 * 32768 + r2 * 1048576 + scat 66 m 4 := by
  have d0 := reg_in hd
  have d1 := reg_in h1
  have d2 := reg_in h2
  have e0 : rd = 0 := by simpa [regB, uRd, uRs1, uRs2] using hd
  have e7 : s = 0 := n7 rfl
  rw [base_sum ho ht hs d0 d1 d2, scat_66 m m0 m1]
  clear hd h1 h2 n3 n7
  have b0 : 0 ≤ m / 4096 % 2 ∧ m / 4096 % 2 < 2 := by omega
  generalize m / 4096 % 2 = x0 at *
  have b1 : 0 ≤ m / 32 % 64 ∧ m / 32 % 64 < 64 := by omega
  generalize m / 32 % 64 = x1 at *
  have b2 : 0 ≤ m / 2 % 16 ∧ m / 2 % 16 < 16 := by omega
  generalize m / 2 % 16 = x2 at *
  have b3 : 0 ≤ m / 2048 % 2 ∧ m / 2048 % 2 < 2 := by omega
  generalize m / 2048 % 2 = x3 at *
  have q0 := or_field (x := (x2 * 2 + x3) * 128) (f := (x0 * 64 + x1)) 25 7 (by omega) (by omega) (by omega) (by simp; omega) (by simp; omega) (by omega)
  have q1 := or_field (x := o + t * 4096 + s * 33554432 + rd * 128 + r1 * 32768 + r2 * 1048576) (f := (x2 * 2 + x3)) 7 5 (by omega) (by omega) (by omega) (by simp; omega) (by simp; omega) (by omega)
  have q2 := or_field (x := o + t * 4096 + s * 33554432 + rd * 128 + r1 * 32768 + r2 * 1048576 + (x2 * 2 + x3) * 128) (f := (x0 * 64 + x1)) 25 7 (by omega) (by omega) (by omega) (by simp; omega) (by simp; omega) (by omega)
  simp only [Int.reducePow, Nat.reducePow, Nat.reduceAdd] at q0 q1 q2
  rw [show x0 * 2147483648 + x1 * 33554432 + x2 * 256 + x3 * 128 = (x2 * 2 + x3) * 128 + (x0 * 64 + x1) * 33554432 by omega]
  rw [← q0, or_assoc' (by omega) (by omega) (by omega) (by omega) (by omega) (by omega), q1, q2, q0]
  try omega
theorem esum_82 {o t s rd r1 r2 m : Int} (ho : 0 ≤ o ∧ o < 128) (ht : 0 ≤ t ∧ t < 8) (hs : 0 ≤ s ∧ s < 128) (n3 : has3 82 = false → t = 0) (n7 : has7 82 = false → s = 0) (hd : regB rd (uRd 82) = true) (h1 : regB r1 (uRs1 82) = true) (h2 : regB r2 (uRs2 82) = true) (m0 : 0 ≤ m) (m1 : m < 4294967296) :
    (bits .or .u32 (bits .or .u32 (fixF o t s) (bits .or .u32 (bits .or .u32 (rd * 128) (r1 * 32768)) (r2 * 1048576))) (scat 82 m 4)) = o + t * 4096 + s * 33554432 + rd * 128 + r1 * 32768 + r2 * 1048576 + scat 82 m 4 := by
  have d0 := reg_in hd
  have d1 := reg_in h1
  have d2 := reg_in h2
  rw [base_sum ho ht hs d0 d1 d2, scat_82 m m0 m1]
  clear hd h1 h2 n3 n7
  rw [or_zero' (by omega) (by omega)]
  try omega
theorem esum_all {f o t s rd r1 r2 m : Int} (hf : isForm f) (hn : f ≠ 0) (ho : 0 ≤ o ∧ o < 128) (ht : 0 ≤ t ∧ t < 8) (hs : 0 ≤ s ∧ s < 128) (n3 : has3 f = false → t = 0) (n7 : has7 f = false → s = 0) (hd : regB rd (uRd f) = true) (h1 : regB r1 (uRs1 f) = true) (h2 : regB r2 (uRs2 f) = true) (m0 : 0 ≤ m) (m1 : m < 4294967296) :
    (bits .or .u32 (bits .or .u32 (fixF o t s) (bits .or .u32 (bits .or .u32 (rd * 128) (r1 * 32768)) (r2 * 1048576))) (scat f m 4)) = o + t * 4096 + s * 33554432 + rd * 128 + r1 * 32768 + r2 * 1048576 + scat f m 4 := by
  rcases hf with rfl | rfl | rfl | rfl | rfl | rfl | rfl | rfl
  · exact esum_85 ho ht hs n3 n7 hd h1 h2 m0 m1
  · exact esum_74 ho ht hs n3 n7 hd h1 h2 m0 m1
  · exact esum_73 ho ht hs n3 n7 hd h1 h2 m0 m1
  · exact esum_72 ho ht hs n3 n7 hd h1 h2 m0 m1
  · exact esum_83 ho ht hs n3 n7 hd h1 h2 m0 m1
  · exact esum_66 ho ht hs n3 n7 hd h1 h2 m0 m1
  · exact esum_82 ho ht hs n3 n7 hd h1 h2 m0 m1
  · exact absurd rfl hn
/-- The word of number k's instruction as a sum. -/
def sumW (k : Nat) (rd r1 r2 imm : Int) : Int := oc k + f3 k * 4096 + f7 k * 33554432 + rd * 128 + r1 * 32768 + r2 * 1048576 + scat (fm k) (imm % 4294967296) 4
theorem enc_sum {k : Nat} (hk : k < 46) {rd r1 r2 imm : Int} (h : fitsB rd r1 r2 imm (fm k) = true) : encW k rd r1 r2 imm = sumW k rd r1 r2 imm := by
  unfold fitsB at h
  simp only [Bool.and_eq_true, bne_iff_ne, beq_iff_eq] at h
  obtain ⟨⟨⟨⟨hn, hd⟩, h1⟩, h2⟩, hi⟩ := h
  unfold encW fixK sumW
  rw [ix_nat hk]
  exact esum_all (fm_form' k hk) hn (oc_in _ hk) (f3_in _ hk) (f7_in _ hk) (no3 _ hk) (no7 _ hk) hd h1 h2 (by omega) (by omega)
theorem sg12 {x : Int} (h0 : 0 ≤ x) (h1 : x < 4096) : sg (signF x 12) = if 2048 ≤ x then x - 4096 else x := by
  unfold signF signN sg; simp; split <;> split <;> split <;> omega
theorem sg13 {x : Int} (h0 : 0 ≤ x) (h1 : x < 8192) : sg (signF x 13) = if 4096 ≤ x then x - 8192 else x := by
  unfold signF signN sg; simp; split <;> split <;> split <;> omega
theorem sg21 {x : Int} (h0 : 0 ≤ x) (h1 : x < 2097152) : sg (signF x 21) = if 1048576 ≤ x then x - 2097152 else x := by
  unfold signF signN sg; simp; split <;> split <;> split <;> omega
theorem sg32 (x : Int) : sg (signF x 32) = if 2147483648 ≤ x then x - 4294967296 else x := by
  unfold signF sg; simp; split <;> split <;> omega
/-- The immediate of a word, by the format. -/
theorem gathS_85 {U : Int} (u0 : 0 ≤ U) (u1 : U ≤ 4294967295) : gathS 85 U = if 2147483648 ≤ U / 4096 % 1048576 * 4096 then U / 4096 % 1048576 * 4096 - 4294967296 else U / 4096 % 1048576 * 4096 := by
  unfold gathS; rw [gath_85 U u0 (by omega)]; exact sg32 _
theorem gathS_74 {U : Int} (u0 : 0 ≤ U) (u1 : U ≤ 4294967295) : gathS 74 U = if 1048576 ≤ U / 2147483648 % 2 * 1048576 + U / 2097152 % 1024 * 2 + U / 1048576 % 2 * 2048 + U / 4096 % 256 * 4096 then U / 2147483648 % 2 * 1048576 + U / 2097152 % 1024 * 2 + U / 1048576 % 2 * 2048 + U / 4096 % 256 * 4096 - 2097152 else U / 2147483648 % 2 * 1048576 + U / 2097152 % 1024 * 2 + U / 1048576 % 2 * 2048 + U / 4096 % 256 * 4096 := by
  unfold gathS; rw [gath_74 U u0 (by omega)]; exact sg21 (by omega) (by omega)
theorem gathS_73 {U : Int} (u0 : 0 ≤ U) (u1 : U ≤ 4294967295) : gathS 73 U = if 2048 ≤ U / 1048576 % 4096 then U / 1048576 % 4096 - 4096 else U / 1048576 % 4096 := by
  unfold gathS; rw [gath_73 U u0 (by omega)]; exact sg12 (by omega) (by omega)
theorem gathS_72 {U : Int} (u0 : 0 ≤ U) (u1 : U ≤ 4294967295) : gathS 72 U = U / 1048576 % 32 := by
  unfold gathS; rw [gath_72 U u0 (by omega)]; exact (sg32 _).trans (by rw [if_neg (by omega)])
theorem gathS_83 {U : Int} (u0 : 0 ≤ U) (u1 : U ≤ 4294967295) : gathS 83 U = if 2048 ≤ U / 128 % 32 + U / 33554432 % 128 * 32 then U / 128 % 32 + U / 33554432 % 128 * 32 - 4096 else U / 128 % 32 + U / 33554432 % 128 * 32 := by
  unfold gathS; rw [gath_83 U u0 (by omega)]; exact sg12 (by omega) (by omega)
theorem gathS_66 {U : Int} (u0 : 0 ≤ U) (u1 : U ≤ 4294967295) : gathS 66 U = if 4096 ≤ U / 2147483648 % 2 * 4096 + U / 33554432 % 64 * 32 + U / 256 % 16 * 2 + U / 128 % 2 * 2048 then U / 2147483648 % 2 * 4096 + U / 33554432 % 64 * 32 + U / 256 % 16 * 2 + U / 128 % 2 * 2048 - 8192 else U / 2147483648 % 2 * 4096 + U / 33554432 % 64 * 32 + U / 256 % 16 * 2 + U / 128 % 2 * 2048 := by
  unfold gathS; rw [gath_66 U u0 (by omega)]; exact sg13 (by omega) (by omega)
theorem gathS_82 {U : Int} (u0 : 0 ≤ U) (u1 : U ≤ 4294967295) : gathS 82 U = 0 := by
  unfold gathS; rw [gath_82 U u0 (by omega)]; rfl
/-- Has a format room for a number? -/
def roomB (f n : Int) : Bool :=
  if f = 85 then decide (-2147483648 ≤ n ∧ n ≤ 2147479552 ∧ n % 4096 = 0) else if f = 74 then decide (-1048576 ≤ n ∧ n ≤ 1048574 ∧ n % 2 = 0)
  else if f = 73 ∨ f = 83 then decide (-2048 ≤ n ∧ n ≤ 2047) else if f = 72 then decide (0 ≤ n ∧ n ≤ 31) else if f = 66 then decide (-4096 ≤ n ∧ n ≤ 4094 ∧ n % 2 = 0) else decide (n = 0)
theorem beq_dec {a b : Int} {p : Prop} [Decidable p] (h : a = b ↔ p) : (a == b) = decide p := by
  rw [Bool.eq_iff_iff]; simpa using h
theorem scat_in (f m : Int) : 0 ≤ scat f m 4 ∧ scat f m 4 ≤ 4294967295 := or_in _ _
theorem room_85 (n : Int) : (gathS 85 (scat 85 (n % 4294967296) 4) == n) = roomB 85 n := by
  obtain ⟨s0, s1⟩ := scat_in 85 (n % 4294967296)
  rw [gathS_85 s0 s1, scat_85 _ (by omega) (by omega)]
  refine beq_dec ?_
  have e : n % 4294967296 / 4096 % 1048576 * 4096 / 4096 % 1048576 * 4096 = n % 4294967296 / 4096 * 4096 := by omega
  rw [e]; clear e s0 s1
  split <;> omega
theorem room_74 (n : Int) : (gathS 74 (scat 74 (n % 4294967296) 4) == n) = roomB 74 n := by
  obtain ⟨s0, s1⟩ := scat_in 74 (n % 4294967296)
  rw [gathS_74 s0 s1, scat_74 _ (by omega) (by omega)]
  refine beq_dec ?_
  clear s0 s1
  have b0 : 0 ≤ n % 4294967296 / 1048576 % 2 ∧ n % 4294967296 / 1048576 % 2 < 2 := by omega
  have b1 : 0 ≤ n % 4294967296 / 2 % 1024 ∧ n % 4294967296 / 2 % 1024 < 1024 := by omega
  have b2 : 0 ≤ n % 4294967296 / 2048 % 2 ∧ n % 4294967296 / 2048 % 2 < 2 := by omega
  have b3 : 0 ≤ n % 4294967296 / 4096 % 256 ∧ n % 4294967296 / 4096 % 256 < 256 := by omega
  have g : n % 4294967296 / 1048576 % 2 * 1048576 + n % 4294967296 / 2 % 1024 * 2 + n % 4294967296 / 2048 % 2 * 2048 + n % 4294967296 / 4096 % 256 * 4096 = n % 2097152 / 2 * 2 := by omega
  generalize n % 4294967296 / 1048576 % 2 = x0 at *
  generalize n % 4294967296 / 2 % 1024 = x1 at *
  generalize n % 4294967296 / 2048 % 2 = x2 at *
  generalize n % 4294967296 / 4096 % 256 = x3 at *
  have e0 : (x0 * 2147483648 + x1 * 2097152 + x2 * 1048576 + x3 * 4096) / 2147483648 % 2 = x0 := by clear g; omega
  have e1 : (x0 * 2147483648 + x1 * 2097152 + x2 * 1048576 + x3 * 4096) / 2097152 % 1024 = x1 := by clear g; omega
  have e2 : (x0 * 2147483648 + x1 * 2097152 + x2 * 1048576 + x3 * 4096) / 1048576 % 2 = x2 := by clear g; omega
  have e3 : (x0 * 2147483648 + x1 * 2097152 + x2 * 1048576 + x3 * 4096) / 4096 % 256 = x3 := by clear g; omega
  rw [e0, e1, e2, e3, g]
  clear e0 e1 e2 e3 g b0 b1 b2 b3
  split <;> omega
theorem room_73 (n : Int) : (gathS 73 (scat 73 (n % 4294967296) 4) == n) = roomB 73 n := by
  obtain ⟨s0, s1⟩ := scat_in 73 (n % 4294967296)
  rw [gathS_73 s0 s1, scat_73 _ (by omega) (by omega)]
  refine beq_dec ?_
  have e : n % 4294967296 % 4096 * 1048576 / 1048576 % 4096 = n % 4096 := by omega
  rw [e]; clear e s0 s1
  split <;> omega
theorem room_72 (n : Int) : (gathS 72 (scat 72 (n % 4294967296) 4) == n) = roomB 72 n := by
  obtain ⟨s0, s1⟩ := scat_in 72 (n % 4294967296)
  rw [gathS_72 s0 s1, scat_72 _ (by omega) (by omega)]
  refine beq_dec ?_
  have e : n % 4294967296 % 32 * 1048576 / 1048576 % 32 = n % 32 := by omega
  rw [e]; clear e s0 s1
  omega
theorem room_83 (n : Int) : (gathS 83 (scat 83 (n % 4294967296) 4) == n) = roomB 83 n := by
  obtain ⟨s0, s1⟩ := scat_in 83 (n % 4294967296)
  rw [gathS_83 s0 s1, scat_83 _ (by omega) (by omega)]
  refine beq_dec ?_
  have e : (n % 4294967296 % 32 * 128 + n % 4294967296 / 32 % 128 * 33554432) / 128 % 32 + (n % 4294967296 % 32 * 128 + n % 4294967296 / 32 % 128 * 33554432) / 33554432 % 128 * 32 = n % 4096 := by
    have b0 : 0 ≤ n % 4294967296 % 32 ∧ n % 4294967296 % 32 < 32 := by omega
    have b1 : 0 ≤ n % 4294967296 / 32 % 128 ∧ n % 4294967296 / 32 % 128 < 128 := by omega
    have g : n % 4096 = n % 4294967296 % 32 + n % 4294967296 / 32 % 128 * 32 := by omega
    rw [g]
    generalize n % 4294967296 % 32 = x0 at *
    generalize n % 4294967296 / 32 % 128 = x1 at *
    omega
  rw [e]; clear e s0 s1
  split <;> omega
theorem room_66 (n : Int) : (gathS 66 (scat 66 (n % 4294967296) 4) == n) = roomB 66 n := by
  obtain ⟨s0, s1⟩ := scat_in 66 (n % 4294967296)
  rw [gathS_66 s0 s1, scat_66 _ (by omega) (by omega)]
  refine beq_dec ?_
  clear s0 s1
  have b0 : 0 ≤ n % 4294967296 / 4096 % 2 ∧ n % 4294967296 / 4096 % 2 < 2 := by omega
  have b1 : 0 ≤ n % 4294967296 / 32 % 64 ∧ n % 4294967296 / 32 % 64 < 64 := by omega
  have b2 : 0 ≤ n % 4294967296 / 2 % 16 ∧ n % 4294967296 / 2 % 16 < 16 := by omega
  have b3 : 0 ≤ n % 4294967296 / 2048 % 2 ∧ n % 4294967296 / 2048 % 2 < 2 := by omega
  have g : n % 4294967296 / 4096 % 2 * 4096 + n % 4294967296 / 32 % 64 * 32 + n % 4294967296 / 2 % 16 * 2 + n % 4294967296 / 2048 % 2 * 2048 = n % 8192 / 2 * 2 := by omega
  generalize n % 4294967296 / 4096 % 2 = x0 at *
  generalize n % 4294967296 / 32 % 64 = x1 at *
  generalize n % 4294967296 / 2 % 16 = x2 at *
  generalize n % 4294967296 / 2048 % 2 = x3 at *
  have e0 : (x0 * 2147483648 + x1 * 33554432 + x2 * 256 + x3 * 128) / 2147483648 % 2 = x0 := by clear g; omega
  have e1 : (x0 * 2147483648 + x1 * 33554432 + x2 * 256 + x3 * 128) / 33554432 % 64 = x1 := by clear g; omega
  have e2 : (x0 * 2147483648 + x1 * 33554432 + x2 * 256 + x3 * 128) / 256 % 16 = x2 := by clear g; omega
  have e3 : (x0 * 2147483648 + x1 * 33554432 + x2 * 256 + x3 * 128) / 128 % 2 = x3 := by clear g; omega
  rw [e0, e1, e2, e3, g]
  clear e0 e1 e2 e3 g b0 b1 b2 b3
  split <;> omega
theorem room_82 (n : Int) : (gathS 82 (scat 82 (n % 4294967296) 4) == n) = roomB 82 n := by
  obtain ⟨s0, s1⟩ := scat_in 82 (n % 4294967296)
  rw [gathS_82 s0 s1]
  exact beq_dec (by omega)
theorem room_all {f : Int} (hf : isForm f) (hn : f ≠ 0) (n : Int) : (gathS f (scat f (n % 4294967296) 4) == n) = roomB f n := by
  rcases hf with rfl | rfl | rfl | rfl | rfl | rfl | rfl | rfl
  · exact room_85 n
  · exact room_74 n
  · exact room_73 n
  · exact room_72 n
  · exact room_83 n
  · exact room_66 n
  · exact room_82 n
  · exact absurd rfl hn
end Go.Proofs.Ytnjlcimeaoedcaa
