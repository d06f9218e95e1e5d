/-
  Plain facts: the number that is gathered from a word is scattered as it stood; a word is known by its fields. Plain facts: what is decoded is an instruction, and its word is the word that was decoded. Plain facts: the word of an instruction is the sum of its fields; which immediates a format has room for; what is gathered of a word, by number.
-/
import Derived.Test.YtlagdgkjpnocfaaGreatDoorQBits
import Derived.Test.YtlagdgkjpnocfaaGreatDoorQFits
namespace Go.Proofs.YtlagdgkjpnocfaaGreatDoor
open Go.RowKit
set_option linter.unusedVariables false
set_option linter.unusedSimpArgs false

/-- The number of a word, as a word again. -/
theorem gathS_mod (f U : Int) : gathS f U % 4294967296 = signF (gath f U 4) (immB f) := by
  have h := signF_in (immB f) (or_in (gath f U 3) (U / 2 ^ (pA f 3).toNat % 2 ^ (pC f 3).toNat * 2 ^ (pF f 3).toNat % 4294967296))
  exact sg_mod h.1 h.2
theorem gs_85 {U : Int} (u0 : 0 ≤ U) (u1 : U ≤ 4294967295) : gath 85 (scat 85 (gathS 85 U % 4294967296) 4) 4 = gath 85 U 4 := by
  rw [gathS_mod, gath_85 U u0 (by omega)]
  have b0 : 0 ≤ U / 4096 % 1048576 ∧ U / 4096 % 1048576 < 1048576 := by omega
  generalize U / 4096 % 1048576 = x0 at *
  have hm : signF (x0 * 4096) (immB 85) = x0 * 4096 := by
    have e : immB 85 = 32 := rfl
    rw [e]; unfold signF; rw [if_pos (by omega)]
  rw [hm]
  generalize hmm : x0 * 4096 = m at *
  have mr : 0 ≤ m ∧ m < 4294967296 := by omega
  rw [scat_85 m mr.1 mr.2]
  have f0 : m / 4096 % 1048576 = x0 := by omega
  rw [f0]
  rw [gath_85 _ (by omega) (by omega)]
  have g0 : (x0 * 4096) / 4096 % 1048576 = x0 := by omega
  rw [g0]
  first | exact hmm | (simp; done) | omega
theorem gs_73 {U : Int} (u0 : 0 ≤ U) (u1 : U ≤ 4294967295) : gath 73 (scat 73 (gathS 73 U % 4294967296) 4) 4 = gath 73 U 4 := by
  rw [gathS_mod, gath_73 U u0 (by omega)]
  have b0 : 0 ≤ U / 1048576 % 4096 ∧ U / 1048576 % 4096 < 4096 := by omega
  generalize U / 1048576 % 4096 = x0 at *
  have hm : signF (x0) (immB 73) = x0 ∨ signF (x0) (immB 73) = x0 - 4096 + 4294967296 := by
    have e : immB 73 = 12 := rfl
    have e2 : (12 : Int).toNat = 12 := rfl
    rw [e]; unfold signF; rw [if_neg (by omega), e2]; unfold signN; simp only [Int.reducePow]; split <;> omega
  have mr : 0 ≤ signF (x0) (immB 73) ∧ signF (x0) (immB 73) < 4294967296 := by
    rcases hm with h | h <;> omega
  generalize signF (x0) (immB 73) = m at *
  rw [scat_73 m mr.1 mr.2]
  have f0 : m % 4096 = x0 := by omega
  rw [f0]
  rw [gath_73 _ (by omega) (by omega)]
  have g0 : (x0 * 1048576) / 1048576 % 4096 = x0 := by omega
  rw [g0]
theorem gs_72 {U : Int} (u0 : 0 ≤ U) (u1 : U ≤ 4294967295) : gath 72 (scat 72 (gathS 72 U % 4294967296) 4) 4 = gath 72 U 4 := by
  rw [gathS_mod, gath_72 U u0 (by omega)]
  have b0 : 0 ≤ U / 1048576 % 32 ∧ U / 1048576 % 32 < 32 := by omega
  generalize U / 1048576 % 32 = x0 at *
  have hm : signF (x0) (immB 72) = x0 := by
    have e : immB 72 = 32 := rfl
    rw [e]; unfold signF; rw [if_pos (by omega)]
  rw [hm]
  generalize hmm : x0 = m at *
  have mr : 0 ≤ m ∧ m < 4294967296 := by omega
  rw [scat_72 m mr.1 mr.2]
  have f0 : m % 32 = x0 := by omega
  rw [f0]
  rw [gath_72 _ (by omega) (by omega)]
  have g0 : (x0 * 1048576) / 1048576 % 32 = x0 := by omega
  rw [g0]
  first | exact hmm | (simp; done) | omega
theorem gs_83 {U : Int} (u0 : 0 ≤ U) (u1 : U ≤ 4294967295) : gath 83 (scat 83 (gathS 83 U % 4294967296) 4) 4 = gath 83 U 4 := by
  rw [gathS_mod, gath_83 U u0 (by omega)]
  have b0 : 0 ≤ U / 128 % 32 ∧ U / 128 % 32 < 32 := by omega
  generalize U / 128 % 32 = x0 at *
  have b1 : 0 ≤ U / 33554432 % 128 ∧ U / 33554432 % 128 < 128 := by omega
  generalize U / 33554432 % 128 = x1 at *
  have hm : signF (x0 + x1 * 32) (immB 83) = x0 + x1 * 32 ∨ signF (x0 + x1 * 32) (immB 83) = x0 + x1 * 32 - 4096 + 4294967296 := by
    have e : immB 83 = 12 := rfl
    have e2 : (12 : Int).toNat = 12 := rfl
    rw [e]; unfold signF; rw [if_neg (by omega), e2]; unfold signN; simp only [Int.reducePow]; split <;> omega
  have mr : 0 ≤ signF (x0 + x1 * 32) (immB 83) ∧ signF (x0 + x1 * 32) (immB 83) < 4294967296 := by
    rcases hm with h | h <;> omega
  generalize signF (x0 + x1 * 32) (immB 83) = m at *
  rw [scat_83 m mr.1 mr.2]
  have f0 : m % 32 = x0 := by omega
  have f1 : m / 32 % 128 = x1 := by omega
  rw [f0, f1]
  rw [gath_83 _ (by omega) (by omega)]
  have g0 : (x0 * 128 + x1 * 33554432) / 128 % 32 = x0 := by omega
  have g1 : (x0 * 128 + x1 * 33554432) / 33554432 % 128 = x1 := by omega
  rw [g0, g1]
theorem gs_82 {U : Int} (u0 : 0 ≤ U) (u1 : U ≤ 4294967295) : gath 82 (scat 82 (gathS 82 U % 4294967296) 4) 4 = gath 82 U 4 := by
  rw [gathS_mod, gath_82 U u0 (by omega), scat_82 _ (by decide) (by decide)]
  rfl
theorem inj_85 {U V : Int} (u0 : 0 ≤ U) (u1 : U ≤ 4294967295) (v0 : 0 ≤ V) (v1 : V ≤ 4294967295) (h1 : U % 128 = V % 128) (h2 : has3 85 = true → U / 4096 % 8 = V / 4096 % 8) (h3 : has7 85 = true → U / 33554432 = V / 33554432) (h4 : regV U 7 (uRd 85) = regV V 7 (uRd 85)) (h5 : regV U 15 (uRs1 85) = regV V 15 (uRs1 85)) (h6 : regV U 20 (uRs2 85) = regV V 20 (uRs2 85)) (h7 : gath 85 U 4 = gath 85 V 4) : U = V := by
  rw [gath_85 U u0 (by omega), gath_85 V v0 (by omega)] at h7
  clear h2
  clear h3
  simp [regV, uRd, uRs1, uRs2] at h4 h5 h6
  omega
theorem inj_73 {U V : Int} (u0 : 0 ≤ U) (u1 : U ≤ 4294967295) (v0 : 0 ≤ V) (v1 : V ≤ 4294967295) (h1 : U % 128 = V % 128) (h2 : has3 73 = true → U / 4096 % 8 = V / 4096 % 8) (h3 : has7 73 = true → U / 33554432 = V / 33554432) (h4 : regV U 7 (uRd 73) = regV V 7 (uRd 73)) (h5 : regV U 15 (uRs1 73) = regV V 15 (uRs1 73)) (h6 : regV U 20 (uRs2 73) = regV V 20 (uRs2 73)) (h7 : gath 73 U 4 = gath 73 V 4) : U = V := by
  rw [gath_73 U u0 (by omega), gath_73 V v0 (by omega)] at h7
  have h2 := h2 rfl
  clear h3
  simp [regV, uRd, uRs1, uRs2] at h4 h5 h6
  omega
theorem inj_72 {U V : Int} (u0 : 0 ≤ U) (u1 : U ≤ 4294967295) (v0 : 0 ≤ V) (v1 : V ≤ 4294967295) (h1 : U % 128 = V % 128) (h2 : has3 72 = true → U / 4096 % 8 = V / 4096 % 8) (h3 : has7 72 = true → U / 33554432 = V / 33554432) (h4 : regV U 7 (uRd 72) = regV V 7 (uRd 72)) (h5 : regV U 15 (uRs1 72) = regV V 15 (uRs1 72)) (h6 : regV U 20 (uRs2 72) = regV V 20 (uRs2 72)) (h7 : gath 72 U 4 = gath 72 V 4) : U = V := by
  rw [gath_72 U u0 (by omega), gath_72 V v0 (by omega)] at h7
  have h2 := h2 rfl
  have h3 := h3 rfl
  simp [regV, uRd, uRs1, uRs2] at h4 h5 h6
  omega
theorem inj_83 {U V : Int} (u0 : 0 ≤ U) (u1 : U ≤ 4294967295) (v0 : 0 ≤ V) (v1 : V ≤ 4294967295) (h1 : U % 128 = V % 128) (h2 : has3 83 = true → U / 4096 % 8 = V / 4096 % 8) (h3 : has7 83 = true → U / 33554432 = V / 33554432) (h4 : regV U 7 (uRd 83) = regV V 7 (uRd 83)) (h5 : regV U 15 (uRs1 83) = regV V 15 (uRs1 83)) (h6 : regV U 20 (uRs2 83) = regV V 20 (uRs2 83)) (h7 : gath 83 U 4 = gath 83 V 4) : U = V := by
  rw [gath_83 U u0 (by omega), gath_83 V v0 (by omega)] at h7
  have h2 := h2 rfl
  clear h3
  simp [regV, uRd, uRs1, uRs2] at h4 h5 h6
  omega
theorem inj_82 {U V : Int} (u0 : 0 ≤ U) (u1 : U ≤ 4294967295) (v0 : 0 ≤ V) (v1 : V ≤ 4294967295) (h1 : U % 128 = V % 128) (h2 : has3 82 = true → U / 4096 % 8 = V / 4096 % 8) (h3 : has7 82 = true → U / 33554432 = V / 33554432) (h4 : regV U 7 (uRd 82) = regV V 7 (uRd 82)) (h5 : regV U 15 (uRs1 82) = regV V 15 (uRs1 82)) (h6 : regV U 20 (uRs2 82) = regV V 20 (uRs2 82)) (h7 : gath 82 U 4 = gath 82 V 4) : U = V := by
  rw [gath_82 U u0 (by omega), gath_82 V v0 (by omega)] at h7
  have h2 := h2 rfl
  have h3 := h3 rfl
  simp [regV, uRd, uRs1, uRs2] at h4 h5 h6
  omega
set_option maxHeartbeats 100000 in
theorem gs_74 {U : Int} (u0 : 0 ≤ U) (u1 : U ≤ 4294967295) : gath 74 (scat 74 (gathS 74 U % 4294967296) 4) 4 = gath 74 U 4 := by
  rw [gathS_mod, gath_74 U u0 (by omega)]
  have b0 : 0 ≤ U / 2147483648 % 2 ∧ U / 2147483648 % 2 < 2 := by omega
  generalize U / 2147483648 % 2 = x0 at *
  have b1 : 0 ≤ U / 2097152 % 1024 ∧ U / 2097152 % 1024 < 1024 := by omega
  generalize U / 2097152 % 1024 = x1 at *
  have b2 : 0 ≤ U / 1048576 % 2 ∧ U / 1048576 % 2 < 2 := by omega
  generalize U / 1048576 % 2 = x2 at *
  have b3 : 0 ≤ U / 4096 % 256 ∧ U / 4096 % 256 < 256 := by omega
  generalize U / 4096 % 256 = x3 at *
  clear u0 u1
  have hm : signF (x0 * 1048576 + x1 * 2 + x2 * 2048 + x3 * 4096) (immB 74) = x0 * 1048576 + x1 * 2 + x2 * 2048 + x3 * 4096 ∨ signF (x0 * 1048576 + x1 * 2 + x2 * 2048 + x3 * 4096) (immB 74) = x0 * 1048576 + x1 * 2 + x2 * 2048 + x3 * 4096 + 4292870144 := by
    have e : immB 74 = 21 := rfl
    have e2 : (21 : Int).toNat = 21 := rfl
    rw [e]; unfold signF; rw [if_neg (by omega), e2]; unfold signN; simp only [Int.reducePow]; split <;> omega
  generalize signF (x0 * 1048576 + x1 * 2 + x2 * 2048 + x3 * 4096) (immB 74) = m at *
  have mr : 0 ≤ m ∧ m < 4294967296 := by rcases hm with h | h <;> omega
  have f0 : m / 1048576 % 2 = x0 := by
    rcases hm with h | h
    · have q : m / 1048576 = x0 := by omega
      rw [q]; clear h q mr; omega
    · have q : m / 1048576 = x0 + 4094 := by omega
      rw [q]; clear h q mr; omega
  have f1 : m / 2 % 1024 = x1 := by
    rcases hm with h | h
    · have q : m / 2 = x0 * 524288 + x1 + x2 * 1024 + x3 * 2048 := by omega
      rw [q]; clear h q mr; omega
    · have q : m / 2 = x0 * 524288 + x1 + x2 * 1024 + x3 * 2048 + 2146435072 := by omega
      rw [q]; clear h q mr; omega
  have f2 : m / 2048 % 2 = x2 := by
    rcases hm with h | h
    · have q : m / 2048 = x0 * 512 + x2 + x3 * 2 := by omega
      rw [q]; clear h q mr; omega
    · have q : m / 2048 = x0 * 512 + x2 + x3 * 2 + 2096128 := by omega
      rw [q]; clear h q mr; omega
  have f3 : m / 4096 % 256 = x3 := by
    rcases hm with h | h
    · have q : m / 4096 = x0 * 256 + x3 := by omega
      rw [q]; clear h q mr; omega
    · have q : m / 4096 = x0 * 256 + x3 + 1048064 := by omega
      rw [q]; clear h q mr; omega
  rw [scat_74 m mr.1 mr.2]
  rw [f0, f1, f2, f3]
  clear hm mr f0 f1 f2 f3
  rw [gath_74 _ (by omega) (by omega)]
  have g0 : (x0 * 2147483648 + x1 * 2097152 + x2 * 1048576 + x3 * 4096) / 2147483648 % 2 = x0 := by
    have q : (x0 * 2147483648 + x1 * 2097152 + x2 * 1048576 + x3 * 4096) / 2147483648 = x0 := by omega
    rw [q]; clear q; omega
  have g1 : (x0 * 2147483648 + x1 * 2097152 + x2 * 1048576 + x3 * 4096) / 2097152 % 1024 = x1 := by
    have q : (x0 * 2147483648 + x1 * 2097152 + x2 * 1048576 + x3 * 4096) / 2097152 = x0 * 1024 + x1 := by omega
    rw [q]; clear q; omega
  have g2 : (x0 * 2147483648 + x1 * 2097152 + x2 * 1048576 + x3 * 4096) / 1048576 % 2 = x2 := by
    have q : (x0 * 2147483648 + x1 * 2097152 + x2 * 1048576 + x3 * 4096) / 1048576 = x0 * 2048 + x1 * 2 + x2 := by omega
    rw [q]; clear q; omega
  have g3 : (x0 * 2147483648 + x1 * 2097152 + x2 * 1048576 + x3 * 4096) / 4096 % 256 = x3 := by
    have q : (x0 * 2147483648 + x1 * 2097152 + x2 * 1048576 + x3 * 4096) / 4096 = x0 * 524288 + x1 * 512 + x2 * 256 + x3 := by omega
    rw [q]; clear q; omega
  rw [g0, g1, g2, g3]
set_option maxHeartbeats 100000 in
theorem gs_66 {U : Int} (u0 : 0 ≤ U) (u1 : U ≤ 4294967295) : gath 66 (scat 66 (gathS 66 U % 4294967296) 4) 4 = gath 66 U 4 := by
  rw [gathS_mod, gath_66 U u0 (by omega)]
  have b0 : 0 ≤ U / 2147483648 % 2 ∧ U / 2147483648 % 2 < 2 := by omega
  generalize U / 2147483648 % 2 = x0 at *
  have b1 : 0 ≤ U / 33554432 % 64 ∧ U / 33554432 % 64 < 64 := by omega
  generalize U / 33554432 % 64 = x1 at *
  have b2 : 0 ≤ U / 256 % 16 ∧ U / 256 % 16 < 16 := by omega
  generalize U / 256 % 16 = x2 at *
  have b3 : 0 ≤ U / 128 % 2 ∧ U / 128 % 2 < 2 := by omega
  generalize U / 128 % 2 = x3 at *
  clear u0 u1
  have hm : signF (x0 * 4096 + x1 * 32 + x2 * 2 + x3 * 2048) (immB 66) = x0 * 4096 + x1 * 32 + x2 * 2 + x3 * 2048 ∨ signF (x0 * 4096 + x1 * 32 + x2 * 2 + x3 * 2048) (immB 66) = x0 * 4096 + x1 * 32 + x2 * 2 + x3 * 2048 + 4294959104 := by
    have e : immB 66 = 13 := rfl
    have e2 : (13 : Int).toNat = 13 := rfl
    rw [e]; unfold signF; rw [if_neg (by omega), e2]; unfold signN; simp only [Int.reducePow]; split <;> omega
  generalize signF (x0 * 4096 + x1 * 32 + x2 * 2 + x3 * 2048) (immB 66) = m at *
  have mr : 0 ≤ m ∧ m < 4294967296 := by rcases hm with h | h <;> omega
  have f0 : m / 4096 % 2 = x0 := by
    rcases hm with h | h
    · have q : m / 4096 = x0 := by omega
      rw [q]; clear h q mr; omega
    · have q : m / 4096 = x0 + 1048574 := by omega
      rw [q]; clear h q mr; omega
  have f1 : m / 32 % 64 = x1 := by
    rcases hm with h | h
    · have q : m / 32 = x0 * 128 + x1 + x3 * 64 := by omega
      rw [q]; clear h q mr; omega
    · have q : m / 32 = x0 * 128 + x1 + x3 * 64 + 134217472 := by omega
      rw [q]; clear h q mr; omega
  have f2 : m / 2 % 16 = x2 := by
    rcases hm with h | h
    · have q : m / 2 = x0 * 2048 + x1 * 16 + x2 + x3 * 1024 := by omega
      rw [q]; clear h q mr; omega
    · have q : m / 2 = x0 * 2048 + x1 * 16 + x2 + x3 * 1024 + 2147479552 := by omega
      rw [q]; clear h q mr; omega
  have f3 : m / 2048 % 2 = x3 := by
    rcases hm with h | h
    · have q : m / 2048 = x0 * 2 + x3 := by omega
      rw [q]; clear h q mr; omega
    · have q : m / 2048 = x0 * 2 + x3 + 2097148 := by omega
      rw [q]; clear h q mr; omega
  rw [scat_66 m mr.1 mr.2]
  rw [f0, f1, f2, f3]
  clear hm mr f0 f1 f2 f3
  rw [gath_66 _ (by omega) (by omega)]
  have g0 : (x0 * 2147483648 + x1 * 33554432 + x2 * 256 + x3 * 128) / 2147483648 % 2 = x0 := by
    have q : (x0 * 2147483648 + x1 * 33554432 + x2 * 256 + x3 * 128) / 2147483648 = x0 := by omega
    rw [q]; clear q; omega
  have g1 : (x0 * 2147483648 + x1 * 33554432 + x2 * 256 + x3 * 128) / 33554432 % 64 = x1 := by
    have q : (x0 * 2147483648 + x1 * 33554432 + x2 * 256 + x3 * 128) / 33554432 = x0 * 64 + x1 := by omega
    rw [q]; clear q; omega
  have g2 : (x0 * 2147483648 + x1 * 33554432 + x2 * 256 + x3 * 128) / 256 % 16 = x2 := by
    have q : (x0 * 2147483648 + x1 * 33554432 + x2 * 256 + x3 * 128) / 256 = x0 * 8388608 + x1 * 131072 + x2 := by omega
    rw [q]; clear q; omega
  have g3 : (x0 * 2147483648 + x1 * 33554432 + x2 * 256 + x3 * 128) / 128 % 2 = x3 := by
    have q : (x0 * 2147483648 + x1 * 33554432 + x2 * 256 + x3 * 128) / 128 = x0 * 16777216 + x1 * 262144 + x2 * 2 + x3 := by omega
    rw [q]; clear q; omega
  rw [g0, g1, g2, g3]
theorem cut_top {W : Int} (h0 : 0 ≤ W) (h1 : W ≤ 4294967295) : W / 2147483648 = W / 2147483648 % 2 := by omega
theorem cut_0 (W : Int) : W / 2097152 = W / 2147483648 * 1024 + W / 2097152 % 1024 := by omega
theorem cut_1 (W : Int) : W / 1048576 = W / 2097152 * 2 + W / 1048576 % 2 := by omega
theorem cut_2 (W : Int) : W / 4096 = W / 1048576 * 256 + W / 4096 % 256 := by omega
theorem cut_3 (W : Int) : W / 128 = W / 4096 * 32 + W / 128 % 32 := by omega
theorem cut_4 (W : Int) : W = W / 128 * 128 + W % 128 := by omega
theorem cut_5 (W : Int) : W / 33554432 = W / 2147483648 * 64 + W / 33554432 % 64 := by omega
theorem cut_6 (W : Int) : W / 1048576 = W / 33554432 * 32 + W / 1048576 % 32 := by omega
theorem cut_7 (W : Int) : W / 32768 = W / 1048576 * 32 + W / 32768 % 32 := by omega
theorem cut_8 (W : Int) : W / 4096 = W / 32768 * 8 + W / 4096 % 8 := by omega
theorem cut_9 (W : Int) : W / 256 = W / 4096 * 16 + W / 256 % 16 := by omega
theorem cut_10 (W : Int) : W / 128 = W / 256 * 2 + W / 128 % 2 := by omega
theorem cut_step {a b q r q' r' d : Int} (h : a = q * d + r) (h' : b = q' * d + r') (e : q = q') (f : r = r') : a = b := by rw [h, h', e, f]
theorem parts_74 {x0 x1 x2 x3 y0 y1 y2 y3 : Int} (bx0 : 0 ≤ x0 ∧ x0 < 2) (bx1 : 0 ≤ x1 ∧ x1 < 1024) (bx2 : 0 ≤ x2 ∧ x2 < 2) (bx3 : 0 ≤ x3 ∧ x3 < 256) (by0 : 0 ≤ y0 ∧ y0 < 2) (by1 : 0 ≤ y1 ∧ y1 < 1024) (by2 : 0 ≤ y2 ∧ y2 < 2) (by3 : 0 ≤ y3 ∧ y3 < 256) (h : x0 * 1048576 + x1 * 2 + x2 * 2048 + x3 * 4096 = y0 * 1048576 + y1 * 2 + y2 * 2048 + y3 * 4096) : x0 = y0 ∧ x1 = y1 ∧ x2 = y2 ∧ x3 = y3 := by
  have e0 : x0 = y0 := by
    obtain ⟨r, hr⟩ : ∃ r, r = x3 * 4096 + x2 * 2048 + x1 * 2 := ⟨_, rfl⟩
    obtain ⟨r', hr'⟩ : ∃ r', r' = y3 * 4096 + y2 * 2048 + y1 * 2 := ⟨_, rfl⟩
    have c1 : 0 ≤ r ∧ r < 1048576 := by clear h; omega
    have c2 : 0 ≤ r' ∧ r' < 1048576 := by clear h; omega
    have h' : x0 * 1048576 + r = y0 * 1048576 + r' := by rw [hr, hr']; omega
    clear hr hr' h
    omega
  subst e0
  have e3 : x3 = y3 := by
    obtain ⟨r, hr⟩ : ∃ r, r = x2 * 2048 + x1 * 2 := ⟨_, rfl⟩
    obtain ⟨r', hr'⟩ : ∃ r', r' = y2 * 2048 + y1 * 2 := ⟨_, rfl⟩
    have c1 : 0 ≤ r ∧ r < 4096 := by clear h; omega
    have c2 : 0 ≤ r' ∧ r' < 4096 := by clear h; omega
    have h' : x3 * 4096 + r = y3 * 4096 + r' := by rw [hr, hr']; omega
    clear hr hr' h
    omega
  subst e3
  have e2 : x2 = y2 := by
    obtain ⟨r, hr⟩ : ∃ r, r = x1 * 2 := ⟨_, rfl⟩
    obtain ⟨r', hr'⟩ : ∃ r', r' = y1 * 2 := ⟨_, rfl⟩
    have c1 : 0 ≤ r ∧ r < 2048 := by clear h; omega
    have c2 : 0 ≤ r' ∧ r' < 2048 := by clear h; omega
    have h' : x2 * 2048 + r = y2 * 2048 + r' := by rw [hr, hr']; omega
    clear hr hr' h
    omega
  subst e2
  have e1 : x1 = y1 := by omega
  exact ⟨rfl, e1, rfl, rfl⟩
theorem parts_66 {x0 x1 x2 x3 y0 y1 y2 y3 : Int} (bx0 : 0 ≤ x0 ∧ x0 < 2) (bx1 : 0 ≤ x1 ∧ x1 < 64) (bx2 : 0 ≤ x2 ∧ x2 < 16) (bx3 : 0 ≤ x3 ∧ x3 < 2) (by0 : 0 ≤ y0 ∧ y0 < 2) (by1 : 0 ≤ y1 ∧ y1 < 64) (by2 : 0 ≤ y2 ∧ y2 < 16) (by3 : 0 ≤ y3 ∧ y3 < 2) (h : x0 * 4096 + x1 * 32 + x2 * 2 + x3 * 2048 = y0 * 4096 + y1 * 32 + y2 * 2 + y3 * 2048) : x0 = y0 ∧ x1 = y1 ∧ x2 = y2 ∧ x3 = y3 := by
  have e0 : x0 = y0 := by
    obtain ⟨r, hr⟩ : ∃ r, r = x3 * 2048 + x1 * 32 + x2 * 2 := ⟨_, rfl⟩
    obtain ⟨r', hr'⟩ : ∃ r', r' = y3 * 2048 + y1 * 32 + y2 * 2 := ⟨_, rfl⟩
    have c1 : 0 ≤ r ∧ r < 4096 := by clear h; omega
    have c2 : 0 ≤ r' ∧ r' < 4096 := by clear h; omega
    have h' : x0 * 4096 + r = y0 * 4096 + r' := by rw [hr, hr']; omega
    clear hr hr' h
    omega
  subst e0
  have e3 : x3 = y3 := by
    obtain ⟨r, hr⟩ : ∃ r, r = x1 * 32 + x2 * 2 := ⟨_, rfl⟩
    obtain ⟨r', hr'⟩ : ∃ r', r' = y1 * 32 + y2 * 2 := ⟨_, rfl⟩
    have c1 : 0 ≤ r ∧ r < 2048 := by clear h; omega
    have c2 : 0 ≤ r' ∧ r' < 2048 := by clear h; omega
    have h' : x3 * 2048 + r = y3 * 2048 + r' := by rw [hr, hr']; omega
    clear hr hr' h
    omega
  subst e3
  have e1 : x1 = y1 := by
    obtain ⟨r, hr⟩ : ∃ r, r = x2 * 2 := ⟨_, rfl⟩
    obtain ⟨r', hr'⟩ : ∃ r', r' = y2 * 2 := ⟨_, rfl⟩
    have c1 : 0 ≤ r ∧ r < 32 := by clear h; omega
    have c2 : 0 ≤ r' ∧ r' < 32 := by clear h; omega
    have h' : x1 * 32 + r = y1 * 32 + r' := by rw [hr, hr']; omega
    clear hr hr' h
    omega
  subst e1
  have e2 : x2 = y2 := by omega
  exact ⟨rfl, rfl, e2, rfl⟩
theorem inj_74 {U V : Int} (u0 : 0 ≤ U) (u1 : U ≤ 4294967295) (v0 : 0 ≤ V) (v1 : V ≤ 4294967295) (h1 : U % 128 = V % 128) (h2 : has3 74 = true → U / 4096 % 8 = V / 4096 % 8) (h3 : has7 74 = true → U / 33554432 = V / 33554432) (h4 : regV U 7 (uRd 74) = regV V 7 (uRd 74)) (h5 : regV U 15 (uRs1 74) = regV V 15 (uRs1 74)) (h6 : regV U 20 (uRs2 74) = regV V 20 (uRs2 74)) (h7 : gath 74 U 4 = gath 74 V 4) : U = V := by
  rw [gath_74 U u0 (Int.lt_of_le_of_lt u1 (by decide)), gath_74 V v0 (Int.lt_of_le_of_lt v1 (by decide))] at h7
  clear h2
  clear h3
  simp [regV, uRd, uRs1, uRs2] at h4 h5 h6
  obtain ⟨e0, e1, e2, e3⟩ := parts_74 ⟨Int.emod_nonneg _ (by decide), Int.emod_lt_of_pos _ (by decide)⟩ ⟨Int.emod_nonneg _ (by decide), Int.emod_lt_of_pos _ (by decide)⟩ ⟨Int.emod_nonneg _ (by decide), Int.emod_lt_of_pos _ (by decide)⟩ ⟨Int.emod_nonneg _ (by decide), Int.emod_lt_of_pos _ (by decide)⟩ ⟨Int.emod_nonneg _ (by decide), Int.emod_lt_of_pos _ (by decide)⟩ ⟨Int.emod_nonneg _ (by decide), Int.emod_lt_of_pos _ (by decide)⟩ ⟨Int.emod_nonneg _ (by decide), Int.emod_lt_of_pos _ (by decide)⟩ ⟨Int.emod_nonneg _ (by decide), Int.emod_lt_of_pos _ (by decide)⟩ h7
  clear h7
  have s5 : U / 2147483648 = V / 2147483648 := by
    have a := cut_top u0 u1
    have b := cut_top v0 v1
    rw [a, b]; exact e0
  have s4 : U / 2097152 = V / 2097152 := cut_step (cut_0 U) (cut_0 V) s5 e1
  have s3 : U / 1048576 = V / 1048576 := cut_step (cut_1 U) (cut_1 V) s4 e2
  have s2 : U / 4096 = V / 4096 := cut_step (cut_2 U) (cut_2 V) s3 e3
  have s1 : U / 128 = V / 128 := cut_step (cut_3 U) (cut_3 V) s2 h4
  have s0 : U = V := cut_step (cut_4 U) (cut_4 V) s1 h1
  exact s0
theorem inj_66 {U V : Int} (u0 : 0 ≤ U) (u1 : U ≤ 4294967295) (v0 : 0 ≤ V) (v1 : V ≤ 4294967295) (h1 : U % 128 = V % 128) (h2 : has3 66 = true → U / 4096 % 8 = V / 4096 % 8) (h3 : has7 66 = true → U / 33554432 = V / 33554432) (h4 : regV U 7 (uRd 66) = regV V 7 (uRd 66)) (h5 : regV U 15 (uRs1 66) = regV V 15 (uRs1 66)) (h6 : regV U 20 (uRs2 66) = regV V 20 (uRs2 66)) (h7 : gath 66 U 4 = gath 66 V 4) : U = V := by
  rw [gath_66 U u0 (Int.lt_of_le_of_lt u1 (by decide)), gath_66 V v0 (Int.lt_of_le_of_lt v1 (by decide))] at h7
  have h2 := h2 rfl
  clear h3
  simp [regV, uRd, uRs1, uRs2] at h4 h5 h6
  obtain ⟨e0, e1, e2, e3⟩ := parts_66 ⟨Int.emod_nonneg _ (by decide), Int.emod_lt_of_pos _ (by decide)⟩ ⟨Int.emod_nonneg _ (by decide), Int.emod_lt_of_pos _ (by decide)⟩ ⟨Int.emod_nonneg _ (by decide), Int.emod_lt_of_pos _ (by decide)⟩ ⟨Int.emod_nonneg _ (by decide), Int.emod_lt_of_pos _ (by decide)⟩ ⟨Int.emod_nonneg _ (by decide), Int.emod_lt_of_pos _ (by decide)⟩ ⟨Int.emod_nonneg _ (by decide), Int.emod_lt_of_pos _ (by decide)⟩ ⟨Int.emod_nonneg _ (by decide), Int.emod_lt_of_pos _ (by decide)⟩ ⟨Int.emod_nonneg _ (by decide), Int.emod_lt_of_pos _ (by decide)⟩ h7
  clear h7
  have s7 : U / 2147483648 = V / 2147483648 := by
    have a := cut_top u0 u1
    have b := cut_top v0 v1
    rw [a, b]; exact e0
  have s6 : U / 33554432 = V / 33554432 := cut_step (cut_5 U) (cut_5 V) s7 e1
  have s5 : U / 1048576 = V / 1048576 := cut_step (cut_6 U) (cut_6 V) s6 h6
  have s4 : U / 32768 = V / 32768 := cut_step (cut_7 U) (cut_7 V) s5 h5
  have s3 : U / 4096 = V / 4096 := cut_step (cut_8 U) (cut_8 V) s4 h2
  have s2 : U / 256 = V / 256 := cut_step (cut_9 U) (cut_9 V) s3 e2
  have s1 : U / 128 = V / 128 := cut_step (cut_10 U) (cut_10 V) s2 e3
  have s0 : U = V := cut_step (cut_4 U) (cut_4 V) s1 h1
  exact s0

theorem gs_all {f U : Int} (hf : isForm f) (u0 : 0 ≤ U) (u1 : U ≤ 4294967295) : gath f (scat f (gathS f U % 4294967296) 4) 4 = gath f U 4 := by
  rcases hf with rfl | rfl | rfl | rfl | rfl | rfl | rfl | rfl
  · exact gs_85 u0 u1
  · exact gs_74 u0 u1
  · exact gs_73 u0 u1
  · exact gs_72 u0 u1
  · exact gs_83 u0 u1
  · exact gs_66 u0 u1
  · exact gs_82 u0 u1
  · have h : 0 ≤ scat 0 (gathS 0 U % 4294967296) 4 ∧ scat 0 (gathS 0 U % 4294967296) 4 ≤ 4294967295 := or_in _ _
    rw [gath_0 U u0 (by omega), gath_0 _ h.1 (by omega)]
theorem inj_all {f U V : Int} (hf : isForm f) (hn : f ≠ 0) (u0 : 0 ≤ U) (u1 : U ≤ 4294967295) (v0 : 0 ≤ V) (v1 : V ≤ 4294967295) (h1 : U % 128 = V % 128) (h2 : has3 f = true → U / 4096 % 8 = V / 4096 % 8) (h3 : has7 f = true → U / 33554432 = V / 33554432) (h4 : regV U 7 (uRd f) = regV V 7 (uRd f)) (h5 : regV U 15 (uRs1 f) = regV V 15 (uRs1 f)) (h6 : regV U 20 (uRs2 f) = regV V 20 (uRs2 f)) (h7 : gath f U 4 = gath f V 4) : U = V := by
  rcases hf with rfl | rfl | rfl | rfl | rfl | rfl | rfl | rfl
  · exact inj_85 u0 u1 v0 v1 h1 h2 h3 h4 h5 h6 h7
  · exact inj_74 u0 u1 v0 v1 h1 h2 h3 h4 h5 h6 h7
  · exact inj_73 u0 u1 v0 v1 h1 h2 h3 h4 h5 h6 h7
  · exact inj_72 u0 u1 v0 v1 h1 h2 h3 h4 h5 h6 h7
  · exact inj_83 u0 u1 v0 v1 h1 h2 h3 h4 h5 h6 h7
  · exact inj_66 u0 u1 v0 v1 h1 h2 h3 h4 h5 h6 h7
  · exact inj_82 u0 u1 v0 v1 h1 h2 h3 h4 h5 h6 h7
  · exact absurd rfl hn
theorem regB_V (U : Int) (n : Int) (u : Bool) : regB (regV U n u) u = true := by
  cases u
  · simp [regB, regV]
  · simp only [regB, regV, if_true, decide_eq_true_eq]; omega
/-- The fields that a word gives to a number's format are those of an instruction, and its word is that word. -/
theorem dec_once {U : Int} (u0 : 0 ≤ U) (u1 : U ≤ 4294967295) {k : Nat} (hk : k < 46) (k0 : k ≠ 0) (m : Mt U k) :
    fitsB (regV U 7 (uRd (fm k))) (regV U 15 (uRs1 (fm k))) (regV U 20 (uRs2 (fm k))) (gathS (fm k) U) (fm k) = true ∧
    encW k (regV U 7 (uRd (fm k))) (regV U 15 (uRs1 (fm k))) (regV U 20 (uRs2 (fm k))) (gathS (fm k) U) = U := by
  have hf := fm_form' k hk
  have hn := fm_pos k hk k0
  have g := gs_all hf u0 u1
  have B := back_all (m := gathS (fm k) U % 4294967296) hf hn (oc_in _ hk) (f3_in _ hk) (f7_in _ hk) (no3 _ hk) (no7 _ hk) (regB_V U 7 _) (regB_V U 15 _) (regB_V U 20 _) (by omega) (by omega)
  refine ⟨?_, ?_⟩
  · unfold fitsB
    simp only [Bool.and_eq_true, bne_iff_ne, beq_iff_eq]
    refine ⟨⟨⟨⟨hn, regB_V U 7 _⟩, regB_V U 15 _⟩, regB_V U 20 _⟩, ?_⟩
    show sg (signF (gath (fm k) (scat (fm k) (gathS (fm k) U % 4294967296) 4) 4) (immB (fm k))) = gathS (fm k) U
    rw [g]; rfl
  · have e : bits .or .u32 (bits .or .u32 (fixF (oc k) (f3 k) (f7 k)) (bits .or .u32 (bits .or .u32 (regV U 7 (uRd (fm k)) * 128) (regV U 15 (uRs1 (fm k)) * 32768)) (regV U 20 (uRs2 (fm k)) * 1048576))) (scat (fm k) (gathS (fm k) U % 4294967296) 4) = encW k (regV U 7 (uRd (fm k))) (regV U 15 (uRs1 (fm k))) (regV U 20 (uRs2 (fm k))) (gathS (fm k) U) := by
      unfold encW fixK; rw [ix_nat hk]
    rw [e] at B
    clear e
    generalize encW k (regV U 7 (uRd (fm k))) (regV U 15 (uRs1 (fm k))) (regV U 20 (uRs2 (fm k))) (gathS (fm k) U) = V at *
    obtain ⟨b0, b1, b2, b3, b4, b5, b6, b7, b8⟩ := B
    obtain ⟨m1, m2, m3⟩ := m
    exact inj_all hf hn b0 b1 u0 u1 (by rw [b2, m1]) (fun h => by rw [b3 h, m2 h]) (fun h => by rw [b4 h, m3 h]) b5 b6 b7 (by rw [b8, g])
theorem esum_85 {o t s rd r1 r2 m : Int} (ho : 0 ≤ o ∧ o < 128) (ht : 0 ≤ t ∧ t < 8) (hs : 0 ≤ s ∧ s < 128) (n3 : has3 85 = false → t = 0) (n7 : has7 85 = false → s = 0) (hd : regB rd (uRd 85) = true) (h1 : regB r1 (uRs1 85) = true) (h2 : regB r2 (uRs2 85) = true) (m0 : 0 ≤ m) (m1 : m < 4294967296) :
    (bits .or .u32 (bits .or .u32 (fixF o t s) (bits .or .u32 (bits .or .u32 (rd * 128) (r1 * 32768)) (r2 * 1048576))) (scat 85 m 4)) = o + t * 4096 + s * 33554432 + rd * 128 + r1 * 32768 + r2 * 1048576 + scat 85 m 4 := by
  have d0 := reg_in hd
  have d1 := reg_in h1
  have d2 := reg_in h2
  have e1 : r1 = 0 := by simpa [regB, uRd, uRs1, uRs2] using h1
  have e2 : r2 = 0 := by simpa [regB, uRd, uRs1, uRs2] using h2
  have e3 : t = 0 := n3 rfl
  have e7 : s = 0 := n7 rfl
  rw [base_sum ho ht hs d0 d1 d2, scat_85 m m0 m1]
  clear hd h1 h2 n3 n7
  have b0 : 0 ≤ m / 4096 % 1048576 ∧ m / 4096 % 1048576 < 1048576 := by omega
  generalize m / 4096 % 1048576 = x0 at *
  have q := or_field (x := o + t * 4096 + s * 33554432 + rd * 128 + r1 * 32768 + r2 * 1048576) (f := x0) 12 20 (by omega) (by omega) (by omega) (by simp; omega) (by simp; omega) (by omega)
  simp only [Int.reducePow, Nat.reducePow, Nat.reduceAdd] at q
  rw [q]
  try omega
theorem esum_74 {o t s rd r1 r2 m : Int} (ho : 0 ≤ o ∧ o < 128) (ht : 0 ≤ t ∧ t < 8) (hs : 0 ≤ s ∧ s < 128) (n3 : has3 74 = false → t = 0) (n7 : has7 74 = false → s = 0) (hd : regB rd (uRd 74) = true) (h1 : regB r1 (uRs1 74) = true) (h2 : regB r2 (uRs2 74) = true) (m0 : 0 ≤ m) (m1 : m < 4294967296) :
    (bits .or .u32 (bits .or .u32 (fixF o t s) (bits .or .u32 (bits .or .u32 (rd * 128) (r1 * 32768)) (r2 * 1048576))) (scat 74 m 4)) = o + t * 4096 + s * 33554432 + rd * 128 + r1 * 32768 + r2 * 1048576 + scat 74 m 4 := by
  have d0 := reg_in hd
  have d1 := reg_in h1
  have d2 := reg_in h2
  have e1 : r1 = 0 := by simpa [regB, uRd, uRs1, uRs2] using h1
  have e2 : r2 = 0 := by simpa [regB, uRd, uRs1, uRs2] using h2
  have e3 : t = 0 := n3 rfl
  have e7 : s = 0 := n7 rfl
  rw [base_sum ho ht hs d0 d1 d2, scat_74 m m0 m1]
  clear hd h1 h2 n3 n7
  have b0 : 0 ≤ m / 1048576 % 2 ∧ m / 1048576 % 2 < 2 := by omega
  generalize m / 1048576 % 2 = x0 at *
  have b1 : 0 ≤ m / 2 % 1024 ∧ m / 2 % 1024 < 1024 := by omega
  generalize m / 2 % 1024 = x1 at *
  have b2 : 0 ≤ m / 2048 % 2 ∧ m / 2048 % 2 < 2 := by omega
  generalize m / 2048 % 2 = x2 at *
  have b3 : 0 ≤ m / 4096 % 256 ∧ m / 4096 % 256 < 256 := by omega
  generalize m / 4096 % 256 = x3 at *
  have q := or_field (x := o + t * 4096 + s * 33554432 + rd * 128 + r1 * 32768 + r2 * 1048576) (f := x0 * 524288 + x1 * 512 + x2 * 256 + x3) 12 20 (by omega) (by omega) (by omega) (by simp; omega) (by simp; omega) (by omega)
  simp only [Int.reducePow, Nat.reducePow, Nat.reduceAdd] at q
  rw [show x0 * 2147483648 + x1 * 2097152 + x2 * 1048576 + x3 * 4096 = (x0 * 524288 + x1 * 512 + x2 * 256 + x3) * 4096 by omega, q]
  try omega
theorem esum_73 {o t s rd r1 r2 m : Int} (ho : 0 ≤ o ∧ o < 128) (ht : 0 ≤ t ∧ t < 8) (hs : 0 ≤ s ∧ s < 128) (n3 : has3 73 = false → t = 0) (n7 : has7 73 = false → s = 0) (hd : regB rd (uRd 73) = true) (h1 : regB r1 (uRs1 73) = true) (h2 : regB r2 (uRs2 73) = true) (m0 : 0 ≤ m) (m1 : m < 4294967296) :
    (bits .or .u32 (bits .or .u32 (fixF o t s) (bits .or .u32 (bits .or .u32 (rd * 128) (r1 * 32768)) (r2 * 1048576))) (scat 73 m 4)) = o + t * 4096 + s * 33554432 + rd * 128 + r1 * 32768 + r2 * 1048576 + scat 73 m 4 := by
  have d0 := reg_in hd
  have d1 := reg_in h1
  have d2 := reg_in h2
  have e2 : r2 = 0 := by simpa [regB, uRd, uRs1, uRs2] using h2
  have e7 : s = 0 := n7 rfl
  rw [base_sum ho ht hs d0 d1 d2, scat_73 m m0 m1]
  clear hd h1 h2 n3 n7
  have b0 : 0 ≤ m % 4096 ∧ m % 4096 < 4096 := by omega
  generalize m % 4096 = x0 at *
  have q := or_field (x := o + t * 4096 + s * 33554432 + rd * 128 + r1 * 32768 + r2 * 1048576) (f := x0) 20 12 (by omega) (by omega) (by omega) (by simp; omega) (by simp; omega) (by omega)
  simp only [Int.reducePow, Nat.reducePow, Nat.reduceAdd] at q
  rw [q]
  try omega
theorem esum_72 {o t s rd r1 r2 m : Int} (ho : 0 ≤ o ∧ o < 128) (ht : 0 ≤ t ∧ t < 8) (hs : 0 ≤ s ∧ s < 128) (n3 : has3 72 = false → t = 0) (n7 : has7 72 = false → s = 0) (hd : regB rd (uRd 72) = true) (h1 : regB r1 (uRs1 72) = true) (h2 : regB r2 (uRs2 72) = true) (m0 : 0 ≤ m) (m1 : m < 4294967296) :
    (bits .or .u32 (bits .or .u32 (fixF o t s) (bits .or .u32 (bits .or .u32 (rd * 128) (r1 * 32768)) (r2 * 1048576))) (scat 72 m 4)) = o + t * 4096 + s * 33554432 + rd * 128 + r1 * 32768 + r2 * 1048576 + scat 72 m 4 := by
  have d0 := reg_in hd
  have d1 := reg_in h1
  have d2 := reg_in h2
  have e2 : r2 = 0 := by simpa [regB, uRd, uRs1, uRs2] using h2
  rw [base_sum ho ht hs d0 d1 d2, scat_72 m m0 m1]
  clear hd h1 h2 n3 n7
  have b0 : 0 ≤ m % 32 ∧ m % 32 < 32 := by omega
  generalize m % 32 = x0 at *
  have q := or_field (x := o + t * 4096 + s * 33554432 + rd * 128 + r1 * 32768 + r2 * 1048576) (f := x0) 20 5 (by omega) (by omega) (by omega) (by simp; omega) (by simp; omega) (by omega)
  simp only [Int.reducePow, Nat.reducePow, Nat.reduceAdd] at q
  rw [q]
  try omega
theorem esum_83 {o t s rd r1 r2 m : Int} (ho : 0 ≤ o ∧ o < 128) (ht : 0 ≤ t ∧ t < 8) (hs : 0 ≤ s ∧ s < 128) (n3 : has3 83 = false → t = 0) (n7 : has7 83 = false → s = 0) (hd : regB rd (uRd 83) = true) (h1 : regB r1 (uRs1 83) = true) (h2 : regB r2 (uRs2 83) = true) (m0 : 0 ≤ m) (m1 : m < 4294967296) :
    (bits .or .u32 (bits .or .u32 (fixF o t s) (bits .or .u32 (bits .or .u32 (rd * 128) (r1 * 32768)) (r2 * 1048576))) (scat 83 m 4)) = o + t * 4096 + s * 33554432 + rd * 128 + r1 * 32768 + r2 * 1048576 + scat 83 m 4 := by
  have d0 := reg_in hd
  have d1 := reg_in h1
  have d2 := reg_in h2
  have e0 : rd = 0 := by simpa [regB, uRd, uRs1, uRs2] using hd
  have e7 : s = 0 := n7 rfl
  rw [base_sum ho ht hs d0 d1 d2, scat_83 m m0 m1]
  clear hd h1 h2 n3 n7
  have b0 : 0 ≤ m % 32 ∧ m % 32 < 32 := by omega
  generalize m % 32 = x0 at *
  have b1 : 0 ≤ m / 32 % 128 ∧ m / 32 % 128 < 128 := by omega
  generalize m / 32 % 128 = x1 at *
  have q0 := or_field (x := x0 * 128) (f := x1) 25 7 (by omega) (by omega) (by omega) (by simp; omega) (by simp; omega) (by omega)
  have q1 := or_field (x := o + t * 4096 + s * 33554432 + rd * 128 + r1 * 32768 + r2 * 1048576) (f := x0) 7 5 (by omega) (by omega) (by omega) (by simp; omega) (by simp; omega) (by omega)
  have q2 := or_field (x := o + t * 4096 + s * 33554432 + rd * 128 + r1 * 32768 + r2 * 1048576 + x0 * 128) (f := x1) 25 7 (by omega) (by omega) (by omega) (by simp; omega) (by simp; omega) (by omega)
  simp only [Int.reducePow, Nat.reducePow, Nat.reduceAdd] at q0 q1 q2
  rw [show x0 * 128 + x1 * 33554432 = x0 * 128 + x1 * 33554432 by omega]
  rw [← q0, or_assoc' (by omega) (by omega) (by omega) (by omega) (by omega) (by omega), q1, q2, q0]
  try omega
theorem esum_66 {o t s rd r1 r2 m : Int} (ho : 0 ≤ o ∧ o < 128) (ht : 0 ≤ t ∧ t < 8) (hs : 0 ≤ s ∧ s < 128) (n3 : has3 66 = false → t = 0) (n7 : has7 66 = false → s = 0) (hd : regB rd (uRd 66) = true) (h1 : regB r1 (uRs1 66) = true) (h2 : regB r2 (uRs2 66) = true) (m0 : 0 ≤ m) (m1 : m < 4294967296) :
    (bits .or .u32 (bits .or .u32 (fixF o t s) (bits .or .u32 (bits .or .u32 (rd * 128) (r1 * 32768)) (r2 * 1048576))) (scat 66 m 4)) = o + t * 4096 + s * 33554432 + rd * 128 + r1 * 32768 + r2 * 1048576 + scat 66 m 4 := by
  have d0 := reg_in hd
  have d1 := reg_in h1
  have d2 := reg_in h2
  have e0 : rd = 0 := by simpa [regB, uRd, uRs1, uRs2] using hd
  have e7 : s = 0 := n7 rfl
  rw [base_sum ho ht hs d0 d1 d2, scat_66 m m0 m1]
  clear hd h1 h2 n3 n7
  have b0 : 0 ≤ m / 4096 % 2 ∧ m / 4096 % 2 < 2 := by omega
  generalize m / 4096 % 2 = x0 at *
  have b1 : 0 ≤ m / 32 % 64 ∧ m / 32 % 64 < 64 := by omega
  generalize m / 32 % 64 = x1 at *
  have b2 : 0 ≤ m / 2 % 16 ∧ m / 2 % 16 < 16 := by omega
  generalize m / 2 % 16 = x2 at *
  have b3 : 0 ≤ m / 2048 % 2 ∧ m / 2048 % 2 < 2 := by omega
  generalize m / 2048 % 2 = x3 at *
  have q0 := or_field (x := (x2 * 2 + x3) * 128) (f := (x0 * 64 + x1)) 25 7 (by omega) (by omega) (by omega) (by simp; omega) (by simp; omega) (by omega)
  have q1 := or_field (x := o + t * 4096 + s * 33554432 + rd * 128 + r1 * 32768 + r2 * 1048576) (f := (x2 * 2 + x3)) 7 5 (by omega) (by omega) (by omega) (by simp; omega) (by simp; omega) (by omega)
  have q2 := or_field (x := o + t * 4096 + s * 33554432 + rd * 128 + r1 * 32768 + r2 * 1048576 + (x2 * 2 + x3) * 128) (f := (x0 * 64 + x1)) 25 7 (by omega) (by omega) (by omega) (by simp; omega) (by simp; omega) (by omega)
  simp only [Int.reducePow, Nat.reducePow, Nat.reduceAdd] at q0 q1 q2
  rw [show x0 * 2147483648 + x1 * 33554432 + x2 * 256 + x3 * 128 = (x2 * 2 + x3) * 128 + (x0 * 64 + x1) * 33554432 by omega]
  rw [← q0, or_assoc' (by omega) (by omega) (by omega) (by omega) (by omega) (by omega), q1, q2, q0]
  try omega
theorem esum_82 {o t s rd r1 r2 m : Int} (ho : 0 ≤ o ∧ o < 128) (ht : 0 ≤ t ∧ t < 8) (hs : 0 ≤ s ∧ s < 128) (n3 : has3 82 = false → t = 0) (n7 : has7 82 = false → s = 0) (hd : regB rd (uRd 82) = true) (h1 : regB r1 (uRs1 82) = true) (h2 : regB r2 (uRs2 82) = true) (m0 : 0 ≤ m) (m1 : m < 4294967296) :
    (bits .or .u32 (bits .or .u32 (fixF o t s) (bits .or .u32 (bits .or .u32 (rd * 128) (r1 * 32768)) (r2 * 1048576))) (scat 82 m 4)) = o + t * 4096 + s * 33554432 + rd * 128 + r1 * 32768 + r2 * 1048576 + scat 82 m 4 := by
  have d0 := reg_in hd
  have d1 := reg_in h1
  have d2 := reg_in h2
  rw [base_sum ho ht hs d0 d1 d2, scat_82 m m0 m1]
  clear hd h1 h2 n3 n7
  rw [or_zero' (by omega) (by omega)]
  try omega
theorem esum_all {f o t s rd r1 r2 m : Int} (hf : isForm f) (hn : f ≠ 0) (ho : 0 ≤ o ∧ o < 128) (ht : 0 ≤ t ∧ t < 8) (hs : 0 ≤ s ∧ s < 128) (n3 : has3 f = false → t = 0) (n7 : has7 f = false → s = 0) (hd : regB rd (uRd f) = true) (h1 : regB r1 (uRs1 f) = true) (h2 : regB r2 (uRs2 f) = true) (m0 : 0 ≤ m) (m1 : m < 4294967296) :
    (bits .or .u32 (bits .or .u32 (fixF o t s) (bits .or .u32 (bits .or .u32 (rd * 128) (r1 * 32768)) (r2 * 1048576))) (scat f m 4)) = o + t * 4096 + s * 33554432 + rd * 128 + r1 * 32768 + r2 * 1048576 + scat f m 4 := by
  rcases hf with rfl | rfl | rfl | rfl | rfl | rfl | rfl | rfl
  · exact esum_85 ho ht hs n3 n7 hd h1 h2 m0 m1
  · exact esum_74 ho ht hs n3 n7 hd h1 h2 m0 m1
  · exact esum_73 ho ht hs n3 n7 hd h1 h2 m0 m1
  · exact esum_72 ho ht hs n3 n7 hd h1 h2 m0 m1
  · exact esum_83 ho ht hs n3 n7 hd h1 h2 m0 m1
  · exact esum_66 ho ht hs n3 n7 hd h1 h2 m0 m1
  · exact esum_82 ho ht hs n3 n7 hd h1 h2 m0 m1
  · exact absurd rfl hn
/-- The word of number k's instruction as a sum. -/
def sumW (k : Nat) (rd r1 r2 imm : Int) : Int := oc k + f3 k * 4096 + f7 k * 33554432 + rd * 128 + r1 * 32768 + r2 * 1048576 + scat (fm k) (imm % 4294967296) 4
theorem enc_sum {k : Nat} (hk : k < 46) {rd r1 r2 imm : Int} (h : fitsB rd r1 r2 imm (fm k) = true) : encW k rd r1 r2 imm = sumW k rd r1 r2 imm := by
  unfold fitsB at h
  simp only [Bool.and_eq_true, bne_iff_ne, beq_iff_eq] at h
  obtain ⟨⟨⟨⟨hn, hd⟩, h1⟩, h2⟩, hi⟩ := h
  unfold encW fixK sumW
  rw [ix_nat hk]
  exact esum_all (fm_form' k hk) hn (oc_in _ hk) (f3_in _ hk) (f7_in _ hk) (no3 _ hk) (no7 _ hk) hd h1 h2 (by omega) (by omega)
theorem sg12 {x : Int} (h0 : 0 ≤ x) (h1 : x < 4096) : sg (signF x 12) = if 2048 ≤ x then x - 4096 else x := by
  unfold signF signN sg; simp; split <;> split <;> split <;> omega
theorem sg13 {x : Int} (h0 : 0 ≤ x) (h1 : x < 8192) : sg (signF x 13) = if 4096 ≤ x then x - 8192 else x := by
  unfold signF signN sg; simp; split <;> split <;> split <;> omega
theorem sg21 {x : Int} (h0 : 0 ≤ x) (h1 : x < 2097152) : sg (signF x 21) = if 1048576 ≤ x then x - 2097152 else x := by
  unfold signF signN sg; simp; split <;> split <;> split <;> omega
theorem sg32 (x : Int) : sg (signF x 32) = if 2147483648 ≤ x then x - 4294967296 else x := by
  unfold signF sg; simp; split <;> split <;> omega
/-- The immediate of a word, by the format. -/
theorem gathS_85 {U : Int} (u0 : 0 ≤ U) (u1 : U ≤ 4294967295) : gathS 85 U = if 2147483648 ≤ U / 4096 % 1048576 * 4096 then U / 4096 % 1048576 * 4096 - 4294967296 else U / 4096 % 1048576 * 4096 := by
  unfold gathS; rw [gath_85 U u0 (by omega)]; exact sg32 _
theorem gathS_74 {U : Int} (u0 : 0 ≤ U) (u1 : U ≤ 4294967295) : gathS 74 U = if 1048576 ≤ U / 2147483648 % 2 * 1048576 + U / 2097152 % 1024 * 2 + U / 1048576 % 2 * 2048 + U / 4096 % 256 * 4096 then U / 2147483648 % 2 * 1048576 + U / 2097152 % 1024 * 2 + U / 1048576 % 2 * 2048 + U / 4096 % 256 * 4096 - 2097152 else U / 2147483648 % 2 * 1048576 + U / 2097152 % 1024 * 2 + U / 1048576 % 2 * 2048 + U / 4096 % 256 * 4096 := by
  unfold gathS; rw [gath_74 U u0 (by omega)]; exact sg21 (by omega) (by omega)
theorem gathS_73 {U : Int} (u0 : 0 ≤ U) (u1 : U ≤ 4294967295) : gathS 73 U = if 2048 ≤ U / 1048576 % 4096 then U / 1048576 % 4096 - 4096 else U / 1048576 % 4096 := by
  unfold gathS; rw [gath_73 U u0 (by omega)]; exact sg12 (by omega) (by omega)
theorem gathS_72 {U : Int} (u0 : 0 ≤ U) (u1 : U ≤ 4294967295) : gathS 72 U = U / 1048576 % 32 := by
  unfold gathS; rw [gath_72 U u0 (by omega)]; exact (sg32 _).trans (by rw [if_neg (by omega)])
theorem gathS_83 {U : Int} (u0 : 0 ≤ U) (u1 : U ≤ 4294967295) : gathS 83 U = if 2048 ≤ U / 128 % 32 + U / 33554432 % 128 * 32 then U / 128 % 32 + U / 33554432 % 128 * 32 - 4096 else U / 128 % 32 + U / 33554432 % 128 * 32 := by
  unfold gathS; rw [gath_83 U u0 (by omega)]; exact sg12 (by omega) (by omega)
theorem gathS_66 {U : Int} (u0 : 0 ≤ U) (u1 : U ≤ 4294967295) : gathS 66 U = if 4096 ≤ U / 2147483648 % 2 * 4096 + U / 33554432 % 64 * 32 + U / 256 % 16 * 2 + U / 128 % 2 * 2048 then U / 2147483648 % 2 * 4096 + U / 33554432 % 64 * 32 + U / 256 % 16 * 2 + U / 128 % 2 * 2048 - 8192 else U / 2147483648 % 2 * 4096 + U / 33554432 % 64 * 32 + U / 256 % 16 * 2 + U / 128 % 2 * 2048 := by
  unfold gathS; rw [gath_66 U u0 (by omega)]; exact sg13 (by omega) (by omega)
theorem gathS_82 {U : Int} (u0 : 0 ≤ U) (u1 : U ≤ 4294967295) : gathS 82 U = 0 := by
  unfold gathS; rw [gath_82 U u0 (by omega)]; rfl
/-- Has a format room for a number? -/
def roomB (f n : Int) : Bool :=
  if f = 85 then decide (-2147483648 ≤ n ∧ n ≤ 2147479552 ∧ n % 4096 = 0) else if f = 74 then decide (-1048576 ≤ n ∧ n ≤ 1048574 ∧ n % 2 = 0)
  else if f = 73 ∨ f = 83 then decide (-2048 ≤ n ∧ n ≤ 2047) else if f = 72 then decide (0 ≤ n ∧ n ≤ 31) else if f = 66 then decide (-4096 ≤ n ∧ n ≤ 4094 ∧ n % 2 = 0) else decide (n = 0)
theorem beq_dec {a b : Int} {p : Prop} [Decidable p] (h : a = b ↔ p) : (a == b) = decide p := by
  rw [Bool.eq_iff_iff]; simpa using h
theorem scat_in (f m : Int) : 0 ≤ scat f m 4 ∧ scat f m 4 ≤ 4294967295 := or_in _ _
theorem room_85 (n : Int) : (gathS 85 (scat 85 (n % 4294967296) 4) == n) = roomB 85 n := by
  obtain ⟨s0, s1⟩ := scat_in 85 (n % 4294967296)
  rw [gathS_85 s0 s1, scat_85 _ (by omega) (by omega)]
  refine beq_dec ?_
  have e : n % 4294967296 / 4096 % 1048576 * 4096 / 4096 % 1048576 * 4096 = n % 4294967296 / 4096 * 4096 := by omega
  rw [e]; clear e s0 s1
  split <;> omega
theorem room_74 (n : Int) : (gathS 74 (scat 74 (n % 4294967296) 4) == n) = roomB 74 n := by
  obtain ⟨s0, s1⟩ := scat_in 74 (n % 4294967296)
  rw [gathS_74 s0 s1, scat_74 _ (by omega) (by omega)]
  refine beq_dec ?_
  clear s0 s1
  have b0 : 0 ≤ n % 4294967296 / 1048576 % 2 ∧ n % 4294967296 / 1048576 % 2 < 2 := by omega
  have b1 : 0 ≤ n % 4294967296 / 2 % 1024 ∧ n % 4294967296 / 2 % 1024 < 1024 := by omega
  have b2 : 0 ≤ n % 4294967296 / 2048 % 2 ∧ n % 4294967296 / 2048 % 2 < 2 := by omega
  have b3 : 0 ≤ n % 4294967296 / 4096 % 256 ∧ n % 4294967296 / 4096 % 256 < 256 := by omega
  have g : n % 4294967296 / 1048576 % 2 * 1048576 + n % 4294967296 / 2 % 1024 * 2 + n % 4294967296 / 2048 % 2 * 2048 + n % 4294967296 / 4096 % 256 * 4096 = n % 2097152 / 2 * 2 := by omega
  generalize n % 4294967296 / 1048576 % 2 = x0 at *
  generalize n % 4294967296 / 2 % 1024 = x1 at *
  generalize n % 4294967296 / 2048 % 2 = x2 at *
  generalize n % 4294967296 / 4096 % 256 = x3 at *
  have e0 : (x0 * 2147483648 + x1 * 2097152 + x2 * 1048576 + x3 * 4096) / 2147483648 % 2 = x0 := by clear g; omega
  have e1 : (x0 * 2147483648 + x1 * 2097152 + x2 * 1048576 + x3 * 4096) / 2097152 % 1024 = x1 := by clear g; omega
  have e2 : (x0 * 2147483648 + x1 * 2097152 + x2 * 1048576 + x3 * 4096) / 1048576 % 2 = x2 := by clear g; omega
  have e3 : (x0 * 2147483648 + x1 * 2097152 + x2 * 1048576 + x3 * 4096) / 4096 % 256 = x3 := by clear g; omega
  rw [e0, e1, e2, e3, g]
  clear e0 e1 e2 e3 g b0 b1 b2 b3
  split <;> omega
theorem room_73 (n : Int) : (gathS 73 (scat 73 (n % 4294967296) 4) == n) = roomB 73 n := by
  obtain ⟨s0, s1⟩ := scat_in 73 (n % 4294967296)
  rw [gathS_73 s0 s1, scat_73 _ (by omega) (by omega)]
  refine beq_dec ?_
  have e : n % 4294967296 % 4096 * 1048576 / 1048576 % 4096 = n % 4096 := by omega
  rw [e]; clear e s0 s1
  split <;> omega
theorem room_72 (n : Int) : (gathS 72 (scat 72 (n % 4294967296) 4) == n) = roomB 72 n := by
  obtain ⟨s0, s1⟩ := scat_in 72 (n % 4294967296)
  rw [gathS_72 s0 s1, scat_72 _ (by omega) (by omega)]
  refine beq_dec ?_
  have e : n % 4294967296 % 32 * 1048576 / 1048576 % 32 = n % 32 := by omega
  rw [e]; clear e s0 s1
  omega
theorem room_83 (n : Int) : (gathS 83 (scat 83 (n % 4294967296) 4) == n) = roomB 83 n := by
  obtain ⟨s0, s1⟩ := scat_in 83 (n % 4294967296)
  rw [gathS_83 s0 s1, scat_83 _ (by omega) (by omega)]
  refine beq_dec ?_
  have e : (n % 4294967296 % 32 * 128 + n % 4294967296 / 32 % 128 * 33554432) / 128 % 32 + (n % 4294967296 % 32 * 128 + n % 4294967296 / 32 % 128 * 33554432) / 33554432 % 128 * 32 = n % 4096 := by
    have b0 : 0 ≤ n % 4294967296 % 32 ∧ n % 4294967296 % 32 < 32 := by omega
    have b1 : 0 ≤ n % 4294967296 / 32 % 128 ∧ n % 4294967296 / 32 % 128 < 128 := by omega
    have g : n % 4096 = n % 4294967296 % 32 + n % 4294967296 / 32 % 128 * 32 := by omega
    rw [g]
    generalize n % 4294967296 % 32 = x0 at *
    generalize n % 4294967296 / 32 % 128 = x1 at *
    omega
  rw [e]; clear e s0 s1
  split <;> omega
theorem room_66 (n : Int) : (gathS 66 (scat 66 (n % 4294967296) 4) == n) = roomB 66 n := by
  obtain ⟨s0, s1⟩ := scat_in 66 (n % 4294967296)
  rw [gathS_66 s0 s1, scat_66 _ (by omega) (by omega)]
  refine beq_dec ?_
  clear s0 s1
  have b0 : 0 ≤ n % 4294967296 / 4096 % 2 ∧ n % 4294967296 / 4096 % 2 < 2 := by omega
  have b1 : 0 ≤ n % 4294967296 / 32 % 64 ∧ n % 4294967296 / 32 % 64 < 64 := by omega
  have b2 : 0 ≤ n % 4294967296 / 2 % 16 ∧ n % 4294967296 / 2 % 16 < 16 := by omega
  have b3 : 0 ≤ n % 4294967296 / 2048 % 2 ∧ n % 4294967296 / 2048 % 2 < 2 := by omega
  have g : n % 4294967296 / 4096 % 2 * 4096 + n % 4294967296 / 32 % 64 * 32 + n % 4294967296 / 2 % 16 * 2 + n % 4294967296 / 2048 % 2 * 2048 = n % 8192 / 2 * 2 := by omega
  generalize n % 4294967296 / 4096 % 2 = x0 at *
  generalize n % 4294967296 / 32 % 64 = x1 at *
  generalize n % 4294967296 / 2 % 16 = x2 at *
  generalize n % 4294967296 / 2048 % 2 = x3 at *
  have e0 : (x0 * 2147483648 + x1 * 33554432 + x2 * 256 + x3 * 128) / 2147483648 % 2 = x0 := by clear g; omega
  have e1 : (x0 * 2147483648 + x1 * 33554432 + x2 * 256 + x3 * 128) / 33554432 % 64 = x1 := by clear g; omega
  have e2 : (x0 * 2147483648 + x1 * 33554432 + x2 * 256 + x3 * 128) / 256 % 16 = x2 := by clear g; omega
  have e3 : (x0 * 2147483648 + x1 * 33554432 + x2 * 256 + x3 * 128) / 128 % 2 = x3 := by clear g; omega
  rw [e0, e1, e2, e3, g]
  clear e0 e1 e2 e3 g b0 b1 b2 b3
  split <;> omega
theorem room_82 (n : Int) : (gathS 82 (scat 82 (n % 4294967296) 4) == n) = roomB 82 n := by
  obtain ⟨s0, s1⟩ := scat_in 82 (n % 4294967296)
  rw [gathS_82 s0 s1]
  exact beq_dec (by omega)
theorem room_all {f : Int} (hf : isForm f) (hn : f ≠ 0) (n : Int) : (gathS f (scat f (n % 4294967296) 4) == n) = roomB f n := by
  rcases hf with rfl | rfl | rfl | rfl | rfl | rfl | rfl | rfl
  · exact room_85 n
  · exact room_74 n
  · exact room_73 n
  · exact room_72 n
  · exact room_83 n
  · exact room_66 n
  · exact room_82 n
  · exact absurd rfl hn
end Go.Proofs.YtlagdgkjpnocfaaGreatDoor
