/-
  Plain facts: what the pieces of each format make of a number and of a word, as sums of fields.
-/
import Derived.Test.YtnjlcimeaoedcaaQBits
namespace Go.Proofs.Ytnjlcimeaoedcaa
open Go.RowKit
set_option linter.unusedVariables false
set_option linter.unusedSimpArgs false

theorem or_zero' {x : Int} (h0 : 0 ≤ x) (h1 : x < 4294967296) : bits .or .u32 x 0 = x := by
  have := or_field (x := x) (f := 0) 0 0 h0 h1 (by omega) (by simp) (by simp) (by omega)
  simpa using this
theorem zero_or' {x : Int} (h0 : 0 ≤ x) (h1 : x < 4294967296) : bits .or .u32 0 x = x := by
  have := or_field (x := 0) (f := x) 0 32 (by omega) (by omega) h0 (by simp) (by simp; omega) (by omega)
  simpa using this
theorem scat_85 (m : Int) (h0 : 0 ≤ m) (h1 : m < 4294967296) : scat 85 m 4 = m / 4096 % 1048576 * 4096 := by
  simp [scat, pF, pC, pA, pcs]
  have b0 : 0 ≤ m / 4096 % 1048576 ∧ m / 4096 % 1048576 < 1048576 := by omega
  generalize m / 4096 % 1048576 = x0 at *
  have m0 : x0 * 4096 % 4294967296 = x0 * 4096 := by omega
  have o0 := zero_or' (x := x0 * 4096) (by omega) (by omega)
  have z := or_zero' (x := x0 * 4096) (by omega) (by omega)
  (try simp only [m0])
  rw [o0]
  rw [z, z, z]
theorem scat_74 (m : Int) (h0 : 0 ≤ m) (h1 : m < 4294967296) : scat 74 m 4 = m / 1048576 % 2 * 2147483648 + m / 2 % 1024 * 2097152 + m / 2048 % 2 * 1048576 + m / 4096 % 256 * 4096 := by
  simp [scat, pF, pC, pA, pcs]
  have b0 : 0 ≤ m / 1048576 % 2 ∧ m / 1048576 % 2 < 2 := by omega
  generalize m / 1048576 % 2 = x0 at *
  have b1 : 0 ≤ m / 2 % 1024 ∧ m / 2 % 1024 < 1024 := by omega
  generalize m / 2 % 1024 = x1 at *
  have b2 : 0 ≤ m / 2048 % 2 ∧ m / 2048 % 2 < 2 := by omega
  generalize m / 2048 % 2 = x2 at *
  have b3 : 0 ≤ m / 4096 % 256 ∧ m / 4096 % 256 < 256 := by omega
  generalize m / 4096 % 256 = x3 at *
  have m0 : x0 * 2147483648 % 4294967296 = x0 * 2147483648 := by omega
  have o0 := zero_or' (x := x0 * 2147483648) (by omega) (by omega)
  have m1 : x1 * 2097152 % 4294967296 = x1 * 2097152 := by omega
  have o1 := or_field (x := x0 * 2147483648) (f := x1) 21 10 (by omega) (by omega) (by omega) (by simp; omega) (by simp; omega) (by omega)
  simp only [Int.reducePow, Nat.reducePow, Int.mul_one, Nat.reduceAdd] at o1
  have m2 : x2 * 1048576 % 4294967296 = x2 * 1048576 := by omega
  have o2 := or_field (x := x0 * 2147483648 + x1 * 2097152) (f := x2) 20 1 (by omega) (by omega) (by omega) (by simp; omega) (by simp; omega) (by omega)
  simp only [Int.reducePow, Nat.reducePow, Int.mul_one, Nat.reduceAdd] at o2
  have m3 : x3 * 4096 % 4294967296 = x3 * 4096 := by omega
  have o3 := or_field (x := x0 * 2147483648 + x1 * 2097152 + x2 * 1048576) (f := x3) 12 8 (by omega) (by omega) (by omega) (by simp; omega) (by simp; omega) (by omega)
  simp only [Int.reducePow, Nat.reducePow, Int.mul_one, Nat.reduceAdd] at o3
  have z := or_zero' (x := x0 * 2147483648 + x1 * 2097152 + x2 * 1048576 + x3 * 4096) (by omega) (by omega)
  (try simp only [m0, m1, m2, m3])
  rw [o0, o1, o2, o3]
theorem scat_73 (m : Int) (h0 : 0 ≤ m) (h1 : m < 4294967296) : scat 73 m 4 = m % 4096 * 1048576 := by
  simp [scat, pF, pC, pA, pcs]
  have b0 : 0 ≤ m % 4096 ∧ m % 4096 < 4096 := by omega
  generalize m % 4096 = x0 at *
  have m0 : x0 * 1048576 % 4294967296 = x0 * 1048576 := by omega
  have o0 := zero_or' (x := x0 * 1048576) (by omega) (by omega)
  have z := or_zero' (x := x0 * 1048576) (by omega) (by omega)
  (try simp only [m0])
  rw [o0]
  rw [z, z, z]
theorem scat_72 (m : Int) (h0 : 0 ≤ m) (h1 : m < 4294967296) : scat 72 m 4 = m % 32 * 1048576 := by
  simp [scat, pF, pC, pA, pcs]
  have b0 : 0 ≤ m % 32 ∧ m % 32 < 32 := by omega
  generalize m % 32 = x0 at *
  have m0 : x0 * 1048576 % 4294967296 = x0 * 1048576 := by omega
  have o0 := zero_or' (x := x0 * 1048576) (by omega) (by omega)
  have z := or_zero' (x := x0 * 1048576) (by omega) (by omega)
  (try simp only [m0])
  rw [o0]
  rw [z, z, z]
theorem scat_83 (m : Int) (h0 : 0 ≤ m) (h1 : m < 4294967296) : scat 83 m 4 = m % 32 * 128 + m / 32 % 128 * 33554432 := by
  simp [scat, pF, pC, pA, pcs]
  have b0 : 0 ≤ m % 32 ∧ m % 32 < 32 := by omega
  generalize m % 32 = x0 at *
  have b1 : 0 ≤ m / 32 % 128 ∧ m / 32 % 128 < 128 := by omega
  generalize m / 32 % 128 = x1 at *
  have m0 : x0 * 128 % 4294967296 = x0 * 128 := by omega
  have o0 := zero_or' (x := x0 * 128) (by omega) (by omega)
  have m1 : x1 * 33554432 % 4294967296 = x1 * 33554432 := by omega
  have o1 := or_field (x := x0 * 128) (f := x1) 25 7 (by omega) (by omega) (by omega) (by simp; omega) (by simp; omega) (by omega)
  simp only [Int.reducePow, Nat.reducePow, Int.mul_one, Nat.reduceAdd] at o1
  have z := or_zero' (x := x0 * 128 + x1 * 33554432) (by omega) (by omega)
  (try simp only [m0, m1])
  rw [o0, o1]
  rw [z, z]
theorem scat_66 (m : Int) (h0 : 0 ≤ m) (h1 : m < 4294967296) : scat 66 m 4 = m / 4096 % 2 * 2147483648 + m / 32 % 64 * 33554432 + m / 2 % 16 * 256 + m / 2048 % 2 * 128 := by
  simp [scat, pF, pC, pA, pcs]
  have b0 : 0 ≤ m / 4096 % 2 ∧ m / 4096 % 2 < 2 := by omega
  generalize m / 4096 % 2 = x0 at *
  have b1 : 0 ≤ m / 32 % 64 ∧ m / 32 % 64 < 64 := by omega
  generalize m / 32 % 64 = x1 at *
  have b2 : 0 ≤ m / 2 % 16 ∧ m / 2 % 16 < 16 := by omega
  generalize m / 2 % 16 = x2 at *
  have b3 : 0 ≤ m / 2048 % 2 ∧ m / 2048 % 2 < 2 := by omega
  generalize m / 2048 % 2 = x3 at *
  have m0 : x0 * 2147483648 % 4294967296 = x0 * 2147483648 := by omega
  have o0 := zero_or' (x := x0 * 2147483648) (by omega) (by omega)
  have m1 : x1 * 33554432 % 4294967296 = x1 * 33554432 := by omega
  have o1 := or_field (x := x0 * 2147483648) (f := x1) 25 6 (by omega) (by omega) (by omega) (by simp; omega) (by simp; omega) (by omega)
  simp only [Int.reducePow, Nat.reducePow, Int.mul_one, Nat.reduceAdd] at o1
  have m2 : x2 * 256 % 4294967296 = x2 * 256 := by omega
  have o2 := or_field (x := x0 * 2147483648 + x1 * 33554432) (f := x2) 8 4 (by omega) (by omega) (by omega) (by simp; omega) (by simp; omega) (by omega)
  simp only [Int.reducePow, Nat.reducePow, Int.mul_one, Nat.reduceAdd] at o2
  have m3 : x3 * 128 % 4294967296 = x3 * 128 := by omega
  have o3 := or_field (x := x0 * 2147483648 + x1 * 33554432 + x2 * 256) (f := x3) 7 1 (by omega) (by omega) (by omega) (by simp; omega) (by simp; omega) (by omega)
  simp only [Int.reducePow, Nat.reducePow, Int.mul_one, Nat.reduceAdd] at o3
  have z := or_zero' (x := x0 * 2147483648 + x1 * 33554432 + x2 * 256 + x3 * 128) (by omega) (by omega)
  (try simp only [m0, m1, m2, m3])
  rw [o0, o1, o2, o3]
theorem scat_82 (m : Int) (h0 : 0 ≤ m) (h1 : m < 4294967296) : scat 82 m 4 = 0 := by
  simp [scat, pF, pC, pA, pcs]
  have z := or_zero' (x := 0) (by omega) (by omega)
  simp only [z]
theorem scat_0 (m : Int) (h0 : 0 ≤ m) (h1 : m < 4294967296) : scat 0 m 4 = 0 := by
  simp [scat, pF, pC, pA, pcs]
  have z := or_zero' (x := 0) (by omega) (by omega)
  simp only [z]
theorem gath_85 (m : Int) (h0 : 0 ≤ m) (h1 : m < 4294967296) : gath 85 m 4 = m / 4096 % 1048576 * 4096 := by
  simp [gath, pF, pC, pA, pcs]
  have b0 : 0 ≤ m / 4096 % 1048576 ∧ m / 4096 % 1048576 < 1048576 := by omega
  generalize m / 4096 % 1048576 = x0 at *
  have m0 : x0 * 4096 % 4294967296 = x0 * 4096 := by omega
  have o0 := zero_or' (x := x0 * 4096) (by omega) (by omega)
  have z := or_zero' (x := x0 * 4096) (by omega) (by omega)
  (try simp only [m0])
  rw [o0]
  rw [z, z, z]
theorem gath_74 (m : Int) (h0 : 0 ≤ m) (h1 : m < 4294967296) : gath 74 m 4 = m / 2147483648 % 2 * 1048576 + m / 2097152 % 1024 * 2 + m / 1048576 % 2 * 2048 + m / 4096 % 256 * 4096 := by
  simp [gath, pF, pC, pA, pcs]
  have b0 : 0 ≤ m / 2147483648 % 2 ∧ m / 2147483648 % 2 < 2 := by omega
  generalize m / 2147483648 % 2 = x0 at *
  have b1 : 0 ≤ m / 2097152 % 1024 ∧ m / 2097152 % 1024 < 1024 := by omega
  generalize m / 2097152 % 1024 = x1 at *
  have b2 : 0 ≤ m / 1048576 % 2 ∧ m / 1048576 % 2 < 2 := by omega
  generalize m / 1048576 % 2 = x2 at *
  have b3 : 0 ≤ m / 4096 % 256 ∧ m / 4096 % 256 < 256 := by omega
  generalize m / 4096 % 256 = x3 at *
  have m0 : x0 * 1048576 % 4294967296 = x0 * 1048576 := by omega
  have o0 := zero_or' (x := x0 * 1048576) (by omega) (by omega)
  have m1 : x1 * 2 % 4294967296 = x1 * 2 := by omega
  have o1 := or_field (x := x0 * 1048576) (f := x1) 1 10 (by omega) (by omega) (by omega) (by simp; omega) (by simp; omega) (by omega)
  simp only [Int.reducePow, Nat.reducePow, Int.mul_one, Nat.reduceAdd] at o1
  have m2 : x2 * 2048 % 4294967296 = x2 * 2048 := by omega
  have o2 := or_field (x := x0 * 1048576 + x1 * 2) (f := x2) 11 1 (by omega) (by omega) (by omega) (by simp; omega) (by simp; omega) (by omega)
  simp only [Int.reducePow, Nat.reducePow, Int.mul_one, Nat.reduceAdd] at o2
  have m3 : x3 * 4096 % 4294967296 = x3 * 4096 := by omega
  have o3 := or_field (x := x0 * 1048576 + x1 * 2 + x2 * 2048) (f := x3) 12 8 (by omega) (by omega) (by omega) (by simp; omega) (by simp; omega) (by omega)
  simp only [Int.reducePow, Nat.reducePow, Int.mul_one, Nat.reduceAdd] at o3
  have z := or_zero' (x := x0 * 1048576 + x1 * 2 + x2 * 2048 + x3 * 4096) (by omega) (by omega)
  (try simp only [m0, m1, m2, m3])
  rw [o0, o1, o2, o3]
theorem gath_73 (m : Int) (h0 : 0 ≤ m) (h1 : m < 4294967296) : gath 73 m 4 = m / 1048576 % 4096 := by
  simp [gath, pF, pC, pA, pcs]
  have b0 : 0 ≤ m / 1048576 % 4096 ∧ m / 1048576 % 4096 < 4096 := by omega
  generalize m / 1048576 % 4096 = x0 at *
  have m0 : x0 % 4294967296 = x0 := by omega
  have o0 := zero_or' (x := x0) (by omega) (by omega)
  have z := or_zero' (x := x0) (by omega) (by omega)
  (try simp only [m0])
  rw [o0]
  rw [z, z, z]
theorem gath_72 (m : Int) (h0 : 0 ≤ m) (h1 : m < 4294967296) : gath 72 m 4 = m / 1048576 % 32 := by
  simp [gath, pF, pC, pA, pcs]
  have b0 : 0 ≤ m / 1048576 % 32 ∧ m / 1048576 % 32 < 32 := by omega
  generalize m / 1048576 % 32 = x0 at *
  have m0 : x0 % 4294967296 = x0 := by omega
  have o0 := zero_or' (x := x0) (by omega) (by omega)
  have z := or_zero' (x := x0) (by omega) (by omega)
  (try simp only [m0])
  rw [o0]
  rw [z, z, z]
theorem gath_83 (m : Int) (h0 : 0 ≤ m) (h1 : m < 4294967296) : gath 83 m 4 = m / 128 % 32 + m / 33554432 % 128 * 32 := by
  simp [gath, pF, pC, pA, pcs]
  have b0 : 0 ≤ m / 128 % 32 ∧ m / 128 % 32 < 32 := by omega
  generalize m / 128 % 32 = x0 at *
  have b1 : 0 ≤ m / 33554432 % 128 ∧ m / 33554432 % 128 < 128 := by omega
  generalize m / 33554432 % 128 = x1 at *
  have m0 : x0 % 4294967296 = x0 := by omega
  have o0 := zero_or' (x := x0) (by omega) (by omega)
  have m1 : x1 * 32 % 4294967296 = x1 * 32 := by omega
  have o1 := or_field (x := x0) (f := x1) 5 7 (by omega) (by omega) (by omega) (by simp; omega) (by simp; omega) (by omega)
  simp only [Int.reducePow, Nat.reducePow, Int.mul_one, Nat.reduceAdd] at o1
  have z := or_zero' (x := x0 + x1 * 32) (by omega) (by omega)
  (try simp only [m0, m1])
  rw [o0, o1]
  rw [z, z]
theorem gath_66 (m : Int) (h0 : 0 ≤ m) (h1 : m < 4294967296) : gath 66 m 4 = m / 2147483648 % 2 * 4096 + m / 33554432 % 64 * 32 + m / 256 % 16 * 2 + m / 128 % 2 * 2048 := by
  simp [gath, pF, pC, pA, pcs]
  have b0 : 0 ≤ m / 2147483648 % 2 ∧ m / 2147483648 % 2 < 2 := by omega
  generalize m / 2147483648 % 2 = x0 at *
  have b1 : 0 ≤ m / 33554432 % 64 ∧ m / 33554432 % 64 < 64 := by omega
  generalize m / 33554432 % 64 = x1 at *
  have b2 : 0 ≤ m / 256 % 16 ∧ m / 256 % 16 < 16 := by omega
  generalize m / 256 % 16 = x2 at *
  have b3 : 0 ≤ m / 128 % 2 ∧ m / 128 % 2 < 2 := by omega
  generalize m / 128 % 2 = x3 at *
  have m0 : x0 * 4096 % 4294967296 = x0 * 4096 := by omega
  have o0 := zero_or' (x := x0 * 4096) (by omega) (by omega)
  have m1 : x1 * 32 % 4294967296 = x1 * 32 := by omega
  have o1 := or_field (x := x0 * 4096) (f := x1) 5 6 (by omega) (by omega) (by omega) (by simp; omega) (by simp; omega) (by omega)
  simp only [Int.reducePow, Nat.reducePow, Int.mul_one, Nat.reduceAdd] at o1
  have m2 : x2 * 2 % 4294967296 = x2 * 2 := by omega
  have o2 := or_field (x := x0 * 4096 + x1 * 32) (f := x2) 1 4 (by omega) (by omega) (by omega) (by simp; omega) (by simp; omega) (by omega)
  simp only [Int.reducePow, Nat.reducePow, Int.mul_one, Nat.reduceAdd] at o2
  have m3 : x3 * 2048 % 4294967296 = x3 * 2048 := by omega
  have o3 := or_field (x := x0 * 4096 + x1 * 32 + x2 * 2) (f := x3) 11 1 (by omega) (by omega) (by omega) (by simp; omega) (by simp; omega) (by omega)
  simp only [Int.reducePow, Nat.reducePow, Int.mul_one, Nat.reduceAdd] at o3
  have z := or_zero' (x := x0 * 4096 + x1 * 32 + x2 * 2 + x3 * 2048) (by omega) (by omega)
  (try simp only [m0, m1, m2, m3])
  rw [o0, o1, o2, o3]
theorem gath_82 (m : Int) (h0 : 0 ≤ m) (h1 : m < 4294967296) : gath 82 m 4 = 0 := by
  simp [gath, pF, pC, pA, pcs]
  have z := or_zero' (x := 0) (by omega) (by omega)
  simp only [z]
theorem gath_0 (m : Int) (h0 : 0 ≤ m) (h1 : m < 4294967296) : gath 0 m 4 = 0 := by
  simp [gath, pF, pC, pA, pcs]
  have z := or_zero' (x := 0) (by omega) (by omega)
  simp only [z]
end Go.Proofs.Ytnjlcimeaoedcaa
