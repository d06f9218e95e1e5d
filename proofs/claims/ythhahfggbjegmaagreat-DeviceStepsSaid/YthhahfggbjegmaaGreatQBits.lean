/-
  Plain facts on words of instructions: which number's codes stand in a word is settled by its fields; at most one number's do. Plain facts: what the pieces of each format make of a number and of a word, as sums of fields. Plain facts: the word of an instruction as a sum of its fields; each field is read back from it. Plain facts: the number that is gathered from a word is scattered as it stood; a word is known by its fields. Plain facts: what is decoded is an instruction, and its word is the word that was decoded.
-/
import Derived.Test.YthhahfggbjegmaaGreatQPiece
namespace Go.Proofs.YthhahfggbjegmaaGreat
open Go.RowKit
set_option linter.unusedVariables false
set_option linter.unusedSimpArgs false

def has3 (f : Int) : Bool := f == 82 || f == 72 || f == 73 || f == 83 || f == 66
def has7 (f : Int) : Bool := f == 82 || f == 72
theorem and_nat_7 (x : Nat) : x &&& 127 = x % 128 := Nat.and_two_pow_sub_one_eq_mod x 7
theorem and_nat_3 (x : Nat) : x &&& 28672 = x % 32768 / 4096 * 4096 := nat_midmask 15 12 x (by decide)
theorem and_nat_f (x : Nat) : x &&& 4261412864 = x % 4294967296 / 33554432 * 33554432 := nat_midmask 32 25 x (by decide)
theorem and_nat_10 (x : Nat) : x &&& 28799 = x % 128 + x / 4096 % 8 * 4096 := by
  have e : (28799 : Nat) = 28672 ||| 127 := by decide
  rw [e, Nat.and_or_distrib_left, and_nat_7, and_nat_3]
  have h := nat_or_field (x % 128) (x / 4096 % 8) 12 3 (by simp; omega) (by simp; omega)
  rw [Nat.or_comm] at h
  have g : x % 32768 / 4096 * 4096 = x / 4096 % 8 * 2 ^ 12 := by simp; omega
  rw [g, h]
theorem and_nat_17 (x : Nat) (hx : x < 4294967296) : x &&& 4261441663 = x % 128 + x / 4096 % 8 * 4096 + x / 33554432 * 33554432 := by
  have e : (4261441663 : Nat) = 4261412864 ||| 28799 := by decide
  rw [e, Nat.and_or_distrib_left, and_nat_10, and_nat_f]
  have h := nat_or_field (x % 128 + x / 4096 % 8 * 4096) (x / 33554432) 25 7 (by simp; omega) (by simp; omega)
  rw [Nat.or_comm] at h
  have g : x % 4294967296 / 33554432 * 33554432 = x / 33554432 * 2 ^ 25 := by simp; omega
  rw [g, h]
theorem and_mask_form (u : Int) (h0 : 0 ≤ u) (h1 : u ≤ 4294967295) (f : Int) (hf : isForm f) (hn : f ≠ 0) :
    bits .and .u32 u (maskF f) = u % 128 + (if has3 f then u / 4096 % 8 * 4096 else 0) + (if has7 f then u / 33554432 * 33554432 else 0) := by
  obtain ⟨x, rfl⟩ : ∃ n : Nat, u = n := ⟨u.toNat, by omega⟩
  have a1 := u32_and_nat x 127 (by omega) (by omega)
  have a2 := u32_and_nat x 28799 (by omega) (by omega)
  have a3 := u32_and_nat x 4261441663 (by omega) (by omega)
  rw [and_nat_7] at a1
  rw [and_nat_10] at a2
  rw [and_nat_17 x (by omega)] at a3
  simp at a1 a2 a3
  rcases hf with rfl | rfl | rfl | rfl | rfl | rfl | rfl | rfl
  · simpa [maskF, has3, has7] using a1
  · simpa [maskF, has3, has7] using a1
  · simpa [maskF, has3, has7] using a2
  · simpa [maskF, has3, has7] using a3
  · simpa [maskF, has3, has7] using a2
  · simpa [maskF, has3, has7] using a2
  · simpa [maskF, has3, has7] using a3
  · exact absurd rfl hn
theorem fm_pos : ∀ k : Nat, k < 46 → k ≠ 0 → fm k ≠ 0 := by decide
theorem no3 : ∀ k : Nat, k < 46 → has3 (fm k) = false → f3 k = 0 := by decide
theorem no7 : ∀ k : Nat, k < 46 → has7 (fm k) = false → f7 k = 0 := by decide
/-- The fields of a word are the codes of number k. -/
def Mt (u : Int) (k : Nat) : Prop := u % 128 = oc k ∧ (has3 (fm k) = true → u / 4096 % 8 = f3 k) ∧ (has7 (fm k) = true → u / 33554432 = f7 k)
theorem mB_iff (u : Int) (h0 : 0 ≤ u) (h1 : u ≤ 4294967295) (k : Nat) (hk : k < 46) : mB u k = true ↔ k ≠ 0 ∧ Mt u k := by
  unfold mB Mt
  by_cases h : k = 0
  · subst h; simp
  · rw [and_mask_form u h0 h1 (fm k) (fm_form' k hk) (fm_pos k hk h)]
    obtain ⟨o0, o1⟩ := oc_in k hk
    obtain ⟨t0, t1⟩ := f3_in k hk
    obtain ⟨s0, s1⟩ := f7_in k hk
    have n3 := no3 k hk
    have n7 := no7 k hk
    unfold fixK fixF
    cases c3 : has3 (fm k) <;> cases c7 : has7 (fm k) <;> simp [h, c3, c7] at n3 n7 ⊢ <;> omega
def apartB (j k : Nat) : Bool := j == 0 || k == 0 || oc j != oc k || (has3 (fm k) && f3 j != f3 k) || (has7 (fm j) && has7 (fm k) && f7 j != f7 k) || j == k
theorem apart_all : ((List.range 46).all fun j => (List.range 46).all fun k => apartB j k) = true := by decide +kernel
theorem codes_apart (j : Nat) (hj : j < 46) (k : Nat) (hk : k < 46) (j0 : j ≠ 0) (k0 : k ≠ 0) (e : oc j = oc k) (e3 : has3 (fm k) = true → f3 j = f3 k) (e7 : has7 (fm j) = true → has7 (fm k) = true → f7 j = f7 k) : j = k := by
  have h := apart_all
  rw [List.all_eq_true] at h
  have h1 := h j (by simpa using hj)
  rw [List.all_eq_true] at h1
  have h2 := h1 k (by simpa using hk)
  unfold apartB at h2
  simp only [Bool.or_eq_true, Bool.and_eq_true, bne_iff_ne, beq_iff_eq] at h2
  rcases h2 with ((((h | h) | h) | ⟨h, g⟩) | ⟨⟨h, g⟩, f⟩) | h
  · exact absurd h j0
  · exact absurd h k0
  · exact absurd e h
  · exact absurd (e3 h) g
  · exact absurd (e7 h g) f
  · exact h
theorem same3 : ∀ j : Nat, j < 46 → ∀ k : Nat, k < 46 → j ≠ 0 → k ≠ 0 → oc j = oc k → has3 (fm j) = has3 (fm k) := by decide +kernel
theorem Mt_one {u : Int} {j k : Nat} (hj : j < 46) (hk : k < 46) (j0 : j ≠ 0) (k0 : k ≠ 0) (a : Mt u j) (b : Mt u k) : j = k := by
  obtain ⟨a1, a2, a3⟩ := a
  obtain ⟨b1, b2, b3⟩ := b
  have e : oc j = oc k := by rw [← a1, b1]
  refine codes_apart j hj k hk j0 k0 e (fun h => ?_) (fun h h' => ?_)
  · rw [← a2 (by rw [same3 j hj k hk j0 k0 e]; exact h), b2 h]
  · rw [← a3 h, b3 h']
/-- The number whose codes stand in a word is found. -/
theorem find_is {u : Int} (h0 : 0 ≤ u) (h1 : u ≤ 4294967295) {k : Nat} (hk : k < 46) (k0 : k ≠ 0) (m : Mt u k) : findI u = k := by
  refine find_first hk (fun j hj => ?_) ((mB_iff u h0 h1 k hk).mpr ⟨k0, m⟩)
  cases hb : mB u j with
  | false => rfl
  | true =>
    obtain ⟨j0, mj⟩ := (mB_iff u h0 h1 j (by omega)).mp hb
    have := Mt_one (by omega) hk j0 k0 mj m
    omega
/-- What is found stands in the word. -/
theorem find_mt {u : Int} (h0 : 0 ≤ u) (h1 : u ≤ 4294967295) {k : Nat} (h : findI u = k) (k0 : k ≠ 0) : k < 46 ∧ Mt u k := by
  unfold findI at h
  cases e : (List.range 46).find? (mB u) with
  | none => rw [e] at h; simp at h; exact absurd h.symm k0
  | some x =>
    rw [e] at h
    simp at h
    subst h
    have hx : x < 46 := by simpa using List.mem_of_find?_eq_some e
    exact ⟨hx, ((mB_iff u h0 h1 x hx).mp (List.find?_some e)).2⟩

theorem or_zero' {x : Int} (h0 : 0 ≤ x) (h1 : x < 4294967296) : bits .or .u32 x 0 = x := by
  have := or_field (x := x) (f := 0) 0 0 h0 h1 (by omega) (by simp) (by simp) (by omega)
  simpa using this
theorem zero_or' {x : Int} (h0 : 0 ≤ x) (h1 : x < 4294967296) : bits .or .u32 0 x = x := by
  have := or_field (x := 0) (f := x) 0 32 (by omega) (by omega) h0 (by simp) (by simp; omega) (by omega)
  simpa using this
theorem scat_85 (m : Int) (h0 : 0 ≤ m) (h1 : m < 4294967296) : scat 85 m 4 = m / 4096 % 1048576 * 4096 := by
  simp [scat, pF, pC, pA, pcs]
  have b0 : 0 ≤ m / 4096 % 1048576 ∧ m / 4096 % 1048576 < 1048576 := by omega
  generalize m / 4096 % 1048576 = x0 at *
  have m0 : x0 * 4096 % 4294967296 = x0 * 4096 := by omega
  have o0 := zero_or' (x := x0 * 4096) (by omega) (by omega)
  have z := or_zero' (x := x0 * 4096) (by omega) (by omega)
  (try simp only [m0])
  rw [o0]
  rw [z, z, z]
theorem scat_74 (m : Int) (h0 : 0 ≤ m) (h1 : m < 4294967296) : scat 74 m 4 = m / 1048576 % 2 * 2147483648 + m / 2 % 1024 * 2097152 + m / 2048 % 2 * 1048576 + m / 4096 % 256 * 4096 := by
  simp [scat, pF, pC, pA, pcs]
  have b0 : 0 ≤ m / 1048576 % 2 ∧ m / 1048576 % 2 < 2 := by omega
  generalize m / 1048576 % 2 = x0 at *
  have b1 : 0 ≤ m / 2 % 1024 ∧ m / 2 % 1024 < 1024 := by omega
  generalize m / 2 % 1024 = x1 at *
  have b2 : 0 ≤ m / 2048 % 2 ∧ m / 2048 % 2 < 2 := by omega
  generalize m / 2048 % 2 = x2 at *
  have b3 : 0 ≤ m / 4096 % 256 ∧ m / 4096 % 256 < 256 := by omega
  generalize m / 4096 % 256 = x3 at *
  have m0 : x0 * 2147483648 % 4294967296 = x0 * 2147483648 := by omega
  have o0 := zero_or' (x := x0 * 2147483648) (by omega) (by omega)
  have m1 : x1 * 2097152 % 4294967296 = x1 * 2097152 := by omega
  have o1 := or_field (x := x0 * 2147483648) (f := x1) 21 10 (by omega) (by omega) (by omega) (by simp; omega) (by simp; omega) (by omega)
  simp only [Int.reducePow, Nat.reducePow, Int.mul_one, Nat.reduceAdd] at o1
  have m2 : x2 * 1048576 % 4294967296 = x2 * 1048576 := by omega
  have o2 := or_field (x := x0 * 2147483648 + x1 * 2097152) (f := x2) 20 1 (by omega) (by omega) (by omega) (by simp; omega) (by simp; omega) (by omega)
  simp only [Int.reducePow, Nat.reducePow, Int.mul_one, Nat.reduceAdd] at o2
  have m3 : x3 * 4096 % 4294967296 = x3 * 4096 := by omega
  have o3 := or_field (x := x0 * 2147483648 + x1 * 2097152 + x2 * 1048576) (f := x3) 12 8 (by omega) (by omega) (by omega) (by simp; omega) (by simp; omega) (by omega)
  simp only [Int.reducePow, Nat.reducePow, Int.mul_one, Nat.reduceAdd] at o3
  have z := or_zero' (x := x0 * 2147483648 + x1 * 2097152 + x2 * 1048576 + x3 * 4096) (by omega) (by omega)
  (try simp only [m0, m1, m2, m3])
  rw [o0, o1, o2, o3]
theorem scat_73 (m : Int) (h0 : 0 ≤ m) (h1 : m < 4294967296) : scat 73 m 4 = m % 4096 * 1048576 := by
  simp [scat, pF, pC, pA, pcs]
  have b0 : 0 ≤ m % 4096 ∧ m % 4096 < 4096 := by omega
  generalize m % 4096 = x0 at *
  have m0 : x0 * 1048576 % 4294967296 = x0 * 1048576 := by omega
  have o0 := zero_or' (x := x0 * 1048576) (by omega) (by omega)
  have z := or_zero' (x := x0 * 1048576) (by omega) (by omega)
  (try simp only [m0])
  rw [o0]
  rw [z, z, z]
theorem scat_72 (m : Int) (h0 : 0 ≤ m) (h1 : m < 4294967296) : scat 72 m 4 = m % 32 * 1048576 := by
  simp [scat, pF, pC, pA, pcs]
  have b0 : 0 ≤ m % 32 ∧ m % 32 < 32 := by omega
  generalize m % 32 = x0 at *
  have m0 : x0 * 1048576 % 4294967296 = x0 * 1048576 := by omega
  have o0 := zero_or' (x := x0 * 1048576) (by omega) (by omega)
  have z := or_zero' (x := x0 * 1048576) (by omega) (by omega)
  (try simp only [m0])
  rw [o0]
  rw [z, z, z]
theorem scat_83 (m : Int) (h0 : 0 ≤ m) (h1 : m < 4294967296) : scat 83 m 4 = m % 32 * 128 + m / 32 % 128 * 33554432 := by
  simp [scat, pF, pC, pA, pcs]
  have b0 : 0 ≤ m % 32 ∧ m % 32 < 32 := by omega
  generalize m % 32 = x0 at *
  have b1 : 0 ≤ m / 32 % 128 ∧ m / 32 % 128 < 128 := by omega
  generalize m / 32 % 128 = x1 at *
  have m0 : x0 * 128 % 4294967296 = x0 * 128 := by omega
  have o0 := zero_or' (x := x0 * 128) (by omega) (by omega)
  have m1 : x1 * 33554432 % 4294967296 = x1 * 33554432 := by omega
  have o1 := or_field (x := x0 * 128) (f := x1) 25 7 (by omega) (by omega) (by omega) (by simp; omega) (by simp; omega) (by omega)
  simp only [Int.reducePow, Nat.reducePow, Int.mul_one, Nat.reduceAdd] at o1
  have z := or_zero' (x := x0 * 128 + x1 * 33554432) (by omega) (by omega)
  (try simp only [m0, m1])
  rw [o0, o1]
  rw [z, z]
theorem scat_66 (m : Int) (h0 : 0 ≤ m) (h1 : m < 4294967296) : scat 66 m 4 = m / 4096 % 2 * 2147483648 + m / 32 % 64 * 33554432 + m / 2 % 16 * 256 + m / 2048 % 2 * 128 := by
  simp [scat, pF, pC, pA, pcs]
  have b0 : 0 ≤ m / 4096 % 2 ∧ m / 4096 % 2 < 2 := by omega
  generalize m / 4096 % 2 = x0 at *
  have b1 : 0 ≤ m / 32 % 64 ∧ m / 32 % 64 < 64 := by omega
  generalize m / 32 % 64 = x1 at *
  have b2 : 0 ≤ m / 2 % 16 ∧ m / 2 % 16 < 16 := by omega
  generalize m / 2 % 16 = x2 at *
  have b3 : 0 ≤ m / 2048 % 2 ∧ m / 2048 % 2 < 2 := by omega
  generalize m / 2048 % 2 = x3 at *
  have m0 : x0 * 2147483648 % 4294967296 = x0 * 2147483648 := by omega
  have o0 := zero_or' (x := x0 * 2147483648) (by omega) (by omega)
  have m1 : x1 * 33554432 % 4294967296 = x1 * 33554432 := by omega
  have o1 := or_field (x := x0 * 2147483648) (f := x1) 25 6 (by omega) (by omega) (by omega) (by simp; omega) (by simp; omega) (by omega)
  simp only [Int.reducePow, Nat.reducePow, Int.mul_one, Nat.reduceAdd] at o1
  have m2 : x2 * 256 % 4294967296 = x2 * 256 := by omega
  have o2 := or_field (x := x0 * 2147483648 + x1 * 33554432) (f := x2) 8 4 (by omega) (by omega) (by omega) (by simp; omega) (by simp; omega) (by omega)
  simp only [Int.reducePow, Nat.reducePow, Int.mul_one, Nat.reduceAdd] at o2
  have m3 : x3 * 128 % 4294967296 = x3 * 128 := by omega
  have o3 := or_field (x := x0 * 2147483648 + x1 * 33554432 + x2 * 256) (f := x3) 7 1 (by omega) (by omega) (by omega) (by simp; omega) (by simp; omega) (by omega)
  simp only [Int.reducePow, Nat.reducePow, Int.mul_one, Nat.reduceAdd] at o3
  have z := or_zero' (x := x0 * 2147483648 + x1 * 33554432 + x2 * 256 + x3 * 128) (by omega) (by omega)
  (try simp only [m0, m1, m2, m3])
  rw [o0, o1, o2, o3]
theorem scat_82 (m : Int) (h0 : 0 ≤ m) (h1 : m < 4294967296) : scat 82 m 4 = 0 := by
  simp [scat, pF, pC, pA, pcs]
  have z := or_zero' (x := 0) (by omega) (by omega)
  simp only [z]
theorem scat_0 (m : Int) (h0 : 0 ≤ m) (h1 : m < 4294967296) : scat 0 m 4 = 0 := by
  simp [scat, pF, pC, pA, pcs]
  have z := or_zero' (x := 0) (by omega) (by omega)
  simp only [z]
theorem gath_85 (m : Int) (h0 : 0 ≤ m) (h1 : m < 4294967296) : gath 85 m 4 = m / 4096 % 1048576 * 4096 := by
  simp [gath, pF, pC, pA, pcs]
  have b0 : 0 ≤ m / 4096 % 1048576 ∧ m / 4096 % 1048576 < 1048576 := by omega
  generalize m / 4096 % 1048576 = x0 at *
  have m0 : x0 * 4096 % 4294967296 = x0 * 4096 := by omega
  have o0 := zero_or' (x := x0 * 4096) (by omega) (by omega)
  have z := or_zero' (x := x0 * 4096) (by omega) (by omega)
  (try simp only [m0])
  rw [o0]
  rw [z, z, z]
theorem gath_74 (m : Int) (h0 : 0 ≤ m) (h1 : m < 4294967296) : gath 74 m 4 = m / 2147483648 % 2 * 1048576 + m / 2097152 % 1024 * 2 + m / 1048576 % 2 * 2048 + m / 4096 % 256 * 4096 := by
  simp [gath, pF, pC, pA, pcs]
  have b0 : 0 ≤ m / 2147483648 % 2 ∧ m / 2147483648 % 2 < 2 := by omega
  generalize m / 2147483648 % 2 = x0 at *
  have b1 : 0 ≤ m / 2097152 % 1024 ∧ m / 2097152 % 1024 < 1024 := by omega
  generalize m / 2097152 % 1024 = x1 at *
  have b2 : 0 ≤ m / 1048576 % 2 ∧ m / 1048576 % 2 < 2 := by omega
  generalize m / 1048576 % 2 = x2 at *
  have b3 : 0 ≤ m / 4096 % 256 ∧ m / 4096 % 256 < 256 := by omega
  generalize m / 4096 % 256 = x3 at *
  have m0 : x0 * 1048576 % 4294967296 = x0 * 1048576 := by omega
  have o0 := zero_or' (x := x0 * 1048576) (by omega) (by omega)
  have m1 : x1 * 2 % 4294967296 = x1 * 2 := by omega
  have o1 := or_field (x := x0 * 1048576) (f := x1) 1 10 (by omega) (by omega) (by omega) (by simp; omega) (by simp; omega) (by omega)
  simp only [Int.reducePow, Nat.reducePow, Int.mul_one, Nat.reduceAdd] at o1
  have m2 : x2 * 2048 % 4294967296 = x2 * 2048 := by omega
  have o2 := or_field (x := x0 * 1048576 + x1 * 2) (f := x2) 11 1 (by omega) (by omega) (by omega) (by simp; omega) (by simp; omega) (by omega)
  simp only [Int.reducePow, Nat.reducePow, Int.mul_one, Nat.reduceAdd] at o2
  have m3 : x3 * 4096 % 4294967296 = x3 * 4096 := by omega
  have o3 := or_field (x := x0 * 1048576 + x1 * 2 + x2 * 2048) (f := x3) 12 8 (by omega) (by omega) (by omega) (by simp; omega) (by simp; omega) (by omega)
  simp only [Int.reducePow, Nat.reducePow, Int.mul_one, Nat.reduceAdd] at o3
  have z := or_zero' (x := x0 * 1048576 + x1 * 2 + x2 * 2048 + x3 * 4096) (by omega) (by omega)
  (try simp only [m0, m1, m2, m3])
  rw [o0, o1, o2, o3]
theorem gath_73 (m : Int) (h0 : 0 ≤ m) (h1 : m < 4294967296) : gath 73 m 4 = m / 1048576 % 4096 := by
  simp [gath, pF, pC, pA, pcs]
  have b0 : 0 ≤ m / 1048576 % 4096 ∧ m / 1048576 % 4096 < 4096 := by omega
  generalize m / 1048576 % 4096 = x0 at *
  have m0 : x0 % 4294967296 = x0 := by omega
  have o0 := zero_or' (x := x0) (by omega) (by omega)
  have z := or_zero' (x := x0) (by omega) (by omega)
  (try simp only [m0])
  rw [o0]
  rw [z, z, z]
theorem gath_72 (m : Int) (h0 : 0 ≤ m) (h1 : m < 4294967296) : gath 72 m 4 = m / 1048576 % 32 := by
  simp [gath, pF, pC, pA, pcs]
  have b0 : 0 ≤ m / 1048576 % 32 ∧ m / 1048576 % 32 < 32 := by omega
  generalize m / 1048576 % 32 = x0 at *
  have m0 : x0 % 4294967296 = x0 := by omega
  have o0 := zero_or' (x := x0) (by omega) (by omega)
  have z := or_zero' (x := x0) (by omega) (by omega)
  (try simp only [m0])
  rw [o0]
  rw [z, z, z]
theorem gath_83 (m : Int) (h0 : 0 ≤ m) (h1 : m < 4294967296) : gath 83 m 4 = m / 128 % 32 + m / 33554432 % 128 * 32 := by
  simp [gath, pF, pC, pA, pcs]
  have b0 : 0 ≤ m / 128 % 32 ∧ m / 128 % 32 < 32 := by omega
  generalize m / 128 % 32 = x0 at *
  have b1 : 0 ≤ m / 33554432 % 128 ∧ m / 33554432 % 128 < 128 := by omega
  generalize m / 33554432 % 128 = x1 at *
  have m0 : x0 % 4294967296 = x0 := by omega
  have o0 := zero_or' (x := x0) (by omega) (by omega)
  have m1 : x1 * 32 % 4294967296 = x1 * 32 := by omega
  have o1 := or_field (x := x0) (f := x1) 5 7 (by omega) (by omega) (by omega) (by simp; omega) (by simp; omega) (by omega)
  simp only [Int.reducePow, Nat.reducePow, Int.mul_one, Nat.reduceAdd] at o1
  have z := or_zero' (x := x0 + x1 * 32) (by omega) (by omega)
  (try simp only [m0, m1])
  rw [o0, o1]
  rw [z, z]
theorem gath_66 (m : Int) (h0 : 0 ≤ m) (h1 : m < 4294967296) : gath 66 m 4 = m / 2147483648 % 2 * 4096 + m / 33554432 % 64 * 32 + m / 256 % 16 * 2 + m / 128 % 2 * 2048 := by
  simp [gath, pF, pC, pA, pcs]
  have b0 : 0 ≤ m / 2147483648 % 2 ∧ m / 2147483648 % 2 < 2 := by omega
  generalize m / 2147483648 % 2 = x0 at *
  have b1 : 0 ≤ m / 33554432 % 64 ∧ m / 33554432 % 64 < 64 := by omega
  generalize m / 33554432 % 64 = x1 at *
  have b2 : 0 ≤ m / 256 % 16 ∧ m / 256 % 16 < 16 := by omega
  generalize m / 256 % 16 = x2 at *
  have b3 : 0 ≤ m / 128 % 2 ∧ m / 128 % 2 < 2 := by omega
  generalize m / 128 % 2 = x3 at *
  have m0 : x0 * 4096 % 4294967296 = x0 * 4096 := by omega
  have o0 := zero_or' (x := x0 * 4096) (by omega) (by omega)
  have m1 : x1 * 32 % 4294967296 = x1 * 32 := by omega
  have o1 := or_field (x := x0 * 4096) (f := x1) 5 6 (by omega) (by omega) (by omega) (by simp; omega) (by simp; omega) (by omega)
  simp only [Int.reducePow, Nat.reducePow, Int.mul_one, Nat.reduceAdd] at o1
  have m2 : x2 * 2 % 4294967296 = x2 * 2 := by omega
  have o2 := or_field (x := x0 * 4096 + x1 * 32) (f := x2) 1 4 (by omega) (by omega) (by omega) (by simp; omega) (by simp; omega) (by omega)
  simp only [Int.reducePow, Nat.reducePow, Int.mul_one, Nat.reduceAdd] at o2
  have m3 : x3 * 2048 % 4294967296 = x3 * 2048 := by omega
  have o3 := or_field (x := x0 * 4096 + x1 * 32 + x2 * 2) (f := x3) 11 1 (by omega) (by omega) (by omega) (by simp; omega) (by simp; omega) (by omega)
  simp only [Int.reducePow, Nat.reducePow, Int.mul_one, Nat.reduceAdd] at o3
  have z := or_zero' (x := x0 * 4096 + x1 * 32 + x2 * 2 + x3 * 2048) (by omega) (by omega)
  (try simp only [m0, m1, m2, m3])
  rw [o0, o1, o2, o3]
theorem gath_82 (m : Int) (h0 : 0 ≤ m) (h1 : m < 4294967296) : gath 82 m 4 = 0 := by
  simp [gath, pF, pC, pA, pcs]
  have z := or_zero' (x := 0) (by omega) (by omega)
  simp only [z]
theorem gath_0 (m : Int) (h0 : 0 ≤ m) (h1 : m < 4294967296) : gath 0 m 4 = 0 := by
  simp [gath, pF, pC, pA, pcs]
  have z := or_zero' (x := 0) (by omega) (by omega)
  simp only [z]

theorem or_assoc' {x y z : Int} (x0 : 0 ≤ x) (x1 : x < 4294967296) (y0 : 0 ≤ y) (y1 : y < 4294967296) (z0 : 0 ≤ z) (z1 : z < 4294967296) :
    bits .or .u32 x (bits .or .u32 y z) = bits .or .u32 (bits .or .u32 x y) z := by
  obtain ⟨X, rfl⟩ : ∃ n : Nat, x = n := ⟨x.toNat, by omega⟩
  obtain ⟨Y, rfl⟩ : ∃ n : Nat, y = n := ⟨y.toNat, by omega⟩
  obtain ⟨Z, rfl⟩ : ∃ n : Nat, z = n := ⟨z.toNat, by omega⟩
  have a : X ||| Y < 2 ^ 32 := Nat.or_lt_two_pow (by omega) (by omega)
  have b : Y ||| Z < 2 ^ 32 := Nat.or_lt_two_pow (by omega) (by omega)
  rw [u32_or_nat Y Z (by omega) (by omega), u32_or_nat X Y (by omega) (by omega), u32_or_nat X (Y ||| Z) (by omega) b, u32_or_nat (X ||| Y) Z a (by omega), Nat.or_assoc]
/-- The codes and the registers as a sum. -/
theorem base_sum {o t s rd r1 r2 : Int} (ho : 0 ≤ o ∧ o < 128) (ht : 0 ≤ t ∧ t < 8) (hs : 0 ≤ s ∧ s < 128) (hd : 0 ≤ rd ∧ rd ≤ 31) (h1 : 0 ≤ r1 ∧ r1 ≤ 31) (h2 : 0 ≤ r2 ∧ r2 ≤ 31) :
    bits .or .u32 (fixF o t s) (bits .or .u32 (bits .or .u32 (rd * 128) (r1 * 32768)) (r2 * 1048576)) = o + t * 4096 + s * 33554432 + rd * 128 + r1 * 32768 + r2 * 1048576 := by
  have a1 := or_field (x := o + t * 4096 + s * 33554432) (f := rd) 7 5 (by omega) (by omega) (by omega) (by simp; omega) (by simp; omega) (by omega)
  have a2 := or_field (x := o + t * 4096 + s * 33554432 + rd * 128) (f := r1) 15 5 (by omega) (by omega) (by omega) (by simp; omega) (by simp; omega) (by omega)
  have a3 := or_field (x := o + t * 4096 + s * 33554432 + rd * 128 + r1 * 32768) (f := r2) 20 5 (by omega) (by omega) (by omega) (by simp; omega) (by simp; omega) (by omega)
  have a4 := or_field (x := rd * 128) (f := r1) 15 5 (by omega) (by omega) (by omega) (by simp; omega) (by simp; omega) (by omega)
  simp only [Int.reducePow, Nat.reducePow, Nat.reduceAdd] at a1 a2 a3 a4
  unfold fixF
  rw [or_assoc' (by omega) (by omega) (by rw [a4]; omega) (by rw [a4]; omega) (by omega) (by omega), or_assoc' (by omega) (by omega) (by omega) (by omega) (by omega) (by omega), a1, a2, a3]
/-- What a word U gives back of codes o, t, s, of registers and of what was scattered, S. -/
def Bk (f o t s rd r1 r2 S U : Int) : Prop :=
  0 ≤ U ∧ U ≤ 4294967295 ∧ U % 128 = o ∧ (has3 f = true → U / 4096 % 8 = t) ∧ (has7 f = true → U / 33554432 = s) ∧
  regV U 7 (uRd f) = rd ∧ regV U 15 (uRs1 f) = r1 ∧ regV U 20 (uRs2 f) = r2 ∧ gath f U 4 = gath f S 4
theorem back_85 {o t s rd r1 r2 m : Int} (ho : 0 ≤ o ∧ o < 128) (ht : 0 ≤ t ∧ t < 8) (hs : 0 ≤ s ∧ s < 128) (n3 : has3 85 = false → t = 0) (n7 : has7 85 = false → s = 0) (hd : regB rd (uRd 85) = true) (h1 : regB r1 (uRs1 85) = true) (h2 : regB r2 (uRs2 85) = true) (m0 : 0 ≤ m) (m1 : m < 4294967296) :
    Bk 85 o t s rd r1 r2 (scat 85 m 4) (bits .or .u32 (bits .or .u32 (fixF o t s) (bits .or .u32 (bits .or .u32 (rd * 128) (r1 * 32768)) (r2 * 1048576))) (scat 85 m 4)) := by
  have d0 := reg_in hd
  have d1 := reg_in h1
  have d2 := reg_in h2
  have e1 : r1 = 0 := by simpa [regB, uRd, uRs1, uRs2] using h1
  have e2 : r2 = 0 := by simpa [regB, uRd, uRs1, uRs2] using h2
  have e3 : t = 0 := n3 rfl
  have e7 : s = 0 := n7 rfl
  rw [base_sum ho ht hs d0 d1 d2, scat_85 m m0 m1]
  clear hd h1 h2 n3 n7
  have b0 : 0 ≤ m / 4096 % 1048576 ∧ m / 4096 % 1048576 < 1048576 := by omega
  generalize m / 4096 % 1048576 = x0 at *
  have q := or_field (x := o + t * 4096 + s * 33554432 + rd * 128 + r1 * 32768 + r2 * 1048576) (f := x0) 12 20 (by omega) (by omega) (by omega) (by simp; omega) (by simp; omega) (by omega)
  simp only [Int.reducePow, Nat.reducePow, Nat.reduceAdd] at q
  rw [q]
  refine ⟨by omega, by omega, by omega, fun h => ?_, fun h => ?_, ?_, ?_, ?_, ?_⟩
  · first | (exact absurd h (by decide)) | omega
  · first | (exact absurd h (by decide)) | omega
  · simp [regV, uRd]; omega
  · simp [regV, uRs1]; omega
  · simp [regV, uRs2]; omega
  · rw [gath_85 _ (by omega) (by omega), gath_85 _ (by omega) (by omega)]
    have g0 : (o + t * 4096 + s * 33554432 + rd * 128 + r1 * 32768 + r2 * 1048576 + x0 * 4096) / 4096 % 1048576 = (x0 * 4096) / 4096 % 1048576 := by omega
    rw [g0]
theorem back_74 {o t s rd r1 r2 m : Int} (ho : 0 ≤ o ∧ o < 128) (ht : 0 ≤ t ∧ t < 8) (hs : 0 ≤ s ∧ s < 128) (n3 : has3 74 = false → t = 0) (n7 : has7 74 = false → s = 0) (hd : regB rd (uRd 74) = true) (h1 : regB r1 (uRs1 74) = true) (h2 : regB r2 (uRs2 74) = true) (m0 : 0 ≤ m) (m1 : m < 4294967296) :
    Bk 74 o t s rd r1 r2 (scat 74 m 4) (bits .or .u32 (bits .or .u32 (fixF o t s) (bits .or .u32 (bits .or .u32 (rd * 128) (r1 * 32768)) (r2 * 1048576))) (scat 74 m 4)) := by
  have d0 := reg_in hd
  have d1 := reg_in h1
  have d2 := reg_in h2
  have e1 : r1 = 0 := by simpa [regB, uRd, uRs1, uRs2] using h1
  have e2 : r2 = 0 := by simpa [regB, uRd, uRs1, uRs2] using h2
  have e3 : t = 0 := n3 rfl
  have e7 : s = 0 := n7 rfl
  rw [base_sum ho ht hs d0 d1 d2, scat_74 m m0 m1]
  clear hd h1 h2 n3 n7
  have b0 : 0 ≤ m / 1048576 % 2 ∧ m / 1048576 % 2 < 2 := by omega
  generalize m / 1048576 % 2 = x0 at *
  have b1 : 0 ≤ m / 2 % 1024 ∧ m / 2 % 1024 < 1024 := by omega
  generalize m / 2 % 1024 = x1 at *
  have b2 : 0 ≤ m / 2048 % 2 ∧ m / 2048 % 2 < 2 := by omega
  generalize m / 2048 % 2 = x2 at *
  have b3 : 0 ≤ m / 4096 % 256 ∧ m / 4096 % 256 < 256 := by omega
  generalize m / 4096 % 256 = x3 at *
  have q := or_field (x := o + t * 4096 + s * 33554432 + rd * 128 + r1 * 32768 + r2 * 1048576) (f := x0 * 524288 + x1 * 512 + x2 * 256 + x3) 12 20 (by omega) (by omega) (by omega) (by simp; omega) (by simp; omega) (by omega)
  simp only [Int.reducePow, Nat.reducePow, Nat.reduceAdd] at q
  rw [show x0 * 2147483648 + x1 * 2097152 + x2 * 1048576 + x3 * 4096 = (x0 * 524288 + x1 * 512 + x2 * 256 + x3) * 4096 by omega, q]
  refine ⟨by omega, by omega, by omega, fun h => ?_, fun h => ?_, ?_, ?_, ?_, ?_⟩
  · first | (exact absurd h (by decide)) | omega
  · first | (exact absurd h (by decide)) | omega
  · simp [regV, uRd]; omega
  · simp [regV, uRs1]; omega
  · simp [regV, uRs2]; omega
  · rw [gath_74 _ (by omega) (by omega), gath_74 _ (by omega) (by omega)]
    have g0 : (o + t * 4096 + s * 33554432 + rd * 128 + r1 * 32768 + r2 * 1048576 + (x0 * 524288 + x1 * 512 + x2 * 256 + x3) * 4096) / 2147483648 % 2 = ((x0 * 524288 + x1 * 512 + x2 * 256 + x3) * 4096) / 2147483648 % 2 := by omega
    have g1 : (o + t * 4096 + s * 33554432 + rd * 128 + r1 * 32768 + r2 * 1048576 + (x0 * 524288 + x1 * 512 + x2 * 256 + x3) * 4096) / 2097152 % 1024 = ((x0 * 524288 + x1 * 512 + x2 * 256 + x3) * 4096) / 2097152 % 1024 := by omega
    have g2 : (o + t * 4096 + s * 33554432 + rd * 128 + r1 * 32768 + r2 * 1048576 + (x0 * 524288 + x1 * 512 + x2 * 256 + x3) * 4096) / 1048576 % 2 = ((x0 * 524288 + x1 * 512 + x2 * 256 + x3) * 4096) / 1048576 % 2 := by omega
    have g3 : (o + t * 4096 + s * 33554432 + rd * 128 + r1 * 32768 + r2 * 1048576 + (x0 * 524288 + x1 * 512 + x2 * 256 + x3) * 4096) / 4096 % 256 = ((x0 * 524288 + x1 * 512 + x2 * 256 + x3) * 4096) / 4096 % 256 := by omega
    rw [g0, g1, g2, g3]
theorem back_73 {o t s rd r1 r2 m : Int} (ho : 0 ≤ o ∧ o < 128) (ht : 0 ≤ t ∧ t < 8) (hs : 0 ≤ s ∧ s < 128) (n3 : has3 73 = false → t = 0) (n7 : has7 73 = false → s = 0) (hd : regB rd (uRd 73) = true) (h1 : regB r1 (uRs1 73) = true) (h2 : regB r2 (uRs2 73) = true) (m0 : 0 ≤ m) (m1 : m < 4294967296) :
    Bk 73 o t s rd r1 r2 (scat 73 m 4) (bits .or .u32 (bits .or .u32 (fixF o t s) (bits .or .u32 (bits .or .u32 (rd * 128) (r1 * 32768)) (r2 * 1048576))) (scat 73 m 4)) := by
  have d0 := reg_in hd
  have d1 := reg_in h1
  have d2 := reg_in h2
  have e2 : r2 = 0 := by simpa [regB, uRd, uRs1, uRs2] using h2
  have e7 : s = 0 := n7 rfl
  rw [base_sum ho ht hs d0 d1 d2, scat_73 m m0 m1]
  clear hd h1 h2 n3 n7
  have b0 : 0 ≤ m % 4096 ∧ m % 4096 < 4096 := by omega
  generalize m % 4096 = x0 at *
  have q := or_field (x := o + t * 4096 + s * 33554432 + rd * 128 + r1 * 32768 + r2 * 1048576) (f := x0) 20 12 (by omega) (by omega) (by omega) (by simp; omega) (by simp; omega) (by omega)
  simp only [Int.reducePow, Nat.reducePow, Nat.reduceAdd] at q
  rw [q]
  refine ⟨by omega, by omega, by omega, fun h => ?_, fun h => ?_, ?_, ?_, ?_, ?_⟩
  · first | (exact absurd h (by decide)) | omega
  · first | (exact absurd h (by decide)) | omega
  · simp [regV, uRd]; omega
  · simp [regV, uRs1]; omega
  · simp [regV, uRs2]; omega
  · rw [gath_73 _ (by omega) (by omega), gath_73 _ (by omega) (by omega)]
    have g0 : (o + t * 4096 + s * 33554432 + rd * 128 + r1 * 32768 + r2 * 1048576 + x0 * 1048576) / 1048576 % 4096 = (x0 * 1048576) / 1048576 % 4096 := by omega
    rw [g0]
theorem back_72 {o t s rd r1 r2 m : Int} (ho : 0 ≤ o ∧ o < 128) (ht : 0 ≤ t ∧ t < 8) (hs : 0 ≤ s ∧ s < 128) (n3 : has3 72 = false → t = 0) (n7 : has7 72 = false → s = 0) (hd : regB rd (uRd 72) = true) (h1 : regB r1 (uRs1 72) = true) (h2 : regB r2 (uRs2 72) = true) (m0 : 0 ≤ m) (m1 : m < 4294967296) :
    Bk 72 o t s rd r1 r2 (scat 72 m 4) (bits .or .u32 (bits .or .u32 (fixF o t s) (bits .or .u32 (bits .or .u32 (rd * 128) (r1 * 32768)) (r2 * 1048576))) (scat 72 m 4)) := by
  have d0 := reg_in hd
  have d1 := reg_in h1
  have d2 := reg_in h2
  have e2 : r2 = 0 := by simpa [regB, uRd, uRs1, uRs2] using h2
  rw [base_sum ho ht hs d0 d1 d2, scat_72 m m0 m1]
  clear hd h1 h2 n3 n7
  have b0 : 0 ≤ m % 32 ∧ m % 32 < 32 := by omega
  generalize m % 32 = x0 at *
  have q := or_field (x := o + t * 4096 + s * 33554432 + rd * 128 + r1 * 32768 + r2 * 1048576) (f := x0) 20 5 (by omega) (by omega) (by omega) (by simp; omega) (by simp; omega) (by omega)
  simp only [Int.reducePow, Nat.reducePow, Nat.reduceAdd] at q
  rw [q]
  refine ⟨by omega, by omega, by omega, fun h => ?_, fun h => ?_, ?_, ?_, ?_, ?_⟩
  · first | (exact absurd h (by decide)) | omega
  · first | (exact absurd h (by decide)) | omega
  · simp [regV, uRd]; omega
  · simp [regV, uRs1]; omega
  · simp [regV, uRs2]; omega
  · rw [gath_72 _ (by omega) (by omega), gath_72 _ (by omega) (by omega)]
    have g0 : (o + t * 4096 + s * 33554432 + rd * 128 + r1 * 32768 + r2 * 1048576 + x0 * 1048576) / 1048576 % 32 = (x0 * 1048576) / 1048576 % 32 := by omega
    rw [g0]
theorem back_83 {o t s rd r1 r2 m : Int} (ho : 0 ≤ o ∧ o < 128) (ht : 0 ≤ t ∧ t < 8) (hs : 0 ≤ s ∧ s < 128) (n3 : has3 83 = false → t = 0) (n7 : has7 83 = false → s = 0) (hd : regB rd (uRd 83) = true) (h1 : regB r1 (uRs1 83) = true) (h2 : regB r2 (uRs2 83) = true) (m0 : 0 ≤ m) (m1 : m < 4294967296) :
    Bk 83 o t s rd r1 r2 (scat 83 m 4) (bits .or .u32 (bits .or .u32 (fixF o t s) (bits .or .u32 (bits .or .u32 (rd * 128) (r1 * 32768)) (r2 * 1048576))) (scat 83 m 4)) := by
  have d0 := reg_in hd
  have d1 := reg_in h1
  have d2 := reg_in h2
  have e0 : rd = 0 := by simpa [regB, uRd, uRs1, uRs2] using hd
  have e7 : s = 0 := n7 rfl
  rw [base_sum ho ht hs d0 d1 d2, scat_83 m m0 m1]
  clear hd h1 h2 n3 n7
  have b0 : 0 ≤ m % 32 ∧ m % 32 < 32 := by omega
  generalize m % 32 = x0 at *
  have b1 : 0 ≤ m / 32 % 128 ∧ m / 32 % 128 < 128 := by omega
  generalize m / 32 % 128 = x1 at *
  have q0 := or_field (x := x0 * 128) (f := x1) 25 7 (by omega) (by omega) (by omega) (by simp; omega) (by simp; omega) (by omega)
  have q1 := or_field (x := o + t * 4096 + s * 33554432 + rd * 128 + r1 * 32768 + r2 * 1048576) (f := x0) 7 5 (by omega) (by omega) (by omega) (by simp; omega) (by simp; omega) (by omega)
  have q2 := or_field (x := o + t * 4096 + s * 33554432 + rd * 128 + r1 * 32768 + r2 * 1048576 + x0 * 128) (f := x1) 25 7 (by omega) (by omega) (by omega) (by simp; omega) (by simp; omega) (by omega)
  simp only [Int.reducePow, Nat.reducePow, Nat.reduceAdd] at q0 q1 q2
  rw [show x0 * 128 + x1 * 33554432 = x0 * 128 + x1 * 33554432 by omega]
  rw [← q0, or_assoc' (by omega) (by omega) (by omega) (by omega) (by omega) (by omega), q1, q2, q0]
  refine ⟨by omega, by omega, by omega, fun h => ?_, fun h => ?_, ?_, ?_, ?_, ?_⟩
  · first | (exact absurd h (by decide)) | omega
  · first | (exact absurd h (by decide)) | omega
  · simp [regV, uRd]; omega
  · simp [regV, uRs1]; omega
  · simp [regV, uRs2]; omega
  · rw [gath_83 _ (by omega) (by omega), gath_83 _ (by omega) (by omega)]
    have g0 : (o + t * 4096 + s * 33554432 + rd * 128 + r1 * 32768 + r2 * 1048576 + x0 * 128 + x1 * 33554432) / 128 % 32 = (x0 * 128 + x1 * 33554432) / 128 % 32 := by omega
    have g1 : (o + t * 4096 + s * 33554432 + rd * 128 + r1 * 32768 + r2 * 1048576 + x0 * 128 + x1 * 33554432) / 33554432 % 128 = (x0 * 128 + x1 * 33554432) / 33554432 % 128 := by omega
    rw [g0, g1]
theorem back_66 {o t s rd r1 r2 m : Int} (ho : 0 ≤ o ∧ o < 128) (ht : 0 ≤ t ∧ t < 8) (hs : 0 ≤ s ∧ s < 128) (n3 : has3 66 = false → t = 0) (n7 : has7 66 = false → s = 0) (hd : regB rd (uRd 66) = true) (h1 : regB r1 (uRs1 66) = true) (h2 : regB r2 (uRs2 66) = true) (m0 : 0 ≤ m) (m1 : m < 4294967296) :
    Bk 66 o t s rd r1 r2 (scat 66 m 4) (bits .or .u32 (bits .or .u32 (fixF o t s) (bits .or .u32 (bits .or .u32 (rd * 128) (r1 * 32768)) (r2 * 1048576))) (scat 66 m 4)) := by
  have d0 := reg_in hd
  have d1 := reg_in h1
  have d2 := reg_in h2
  have e0 : rd = 0 := by simpa [regB, uRd, uRs1, uRs2] using hd
  have e7 : s = 0 := n7 rfl
  rw [base_sum ho ht hs d0 d1 d2, scat_66 m m0 m1]
  clear hd h1 h2 n3 n7
  have b0 : 0 ≤ m / 4096 % 2 ∧ m / 4096 % 2 < 2 := by omega
  generalize m / 4096 % 2 = x0 at *
  have b1 : 0 ≤ m / 32 % 64 ∧ m / 32 % 64 < 64 := by omega
  generalize m / 32 % 64 = x1 at *
  have b2 : 0 ≤ m / 2 % 16 ∧ m / 2 % 16 < 16 := by omega
  generalize m / 2 % 16 = x2 at *
  have b3 : 0 ≤ m / 2048 % 2 ∧ m / 2048 % 2 < 2 := by omega
  generalize m / 2048 % 2 = x3 at *
  have q0 := or_field (x := (x2 * 2 + x3) * 128) (f := (x0 * 64 + x1)) 25 7 (by omega) (by omega) (by omega) (by simp; omega) (by simp; omega) (by omega)
  have q1 := or_field (x := o + t * 4096 + s * 33554432 + rd * 128 + r1 * 32768 + r2 * 1048576) (f := (x2 * 2 + x3)) 7 5 (by omega) (by omega) (by omega) (by simp; omega) (by simp; omega) (by omega)
  have q2 := or_field (x := o + t * 4096 + s * 33554432 + rd * 128 + r1 * 32768 + r2 * 1048576 + (x2 * 2 + x3) * 128) (f := (x0 * 64 + x1)) 25 7 (by omega) (by omega) (by omega) (by simp; omega) (by simp; omega) (by omega)
  simp only [Int.reducePow, Nat.reducePow, Nat.reduceAdd] at q0 q1 q2
  rw [show x0 * 2147483648 + x1 * 33554432 + x2 * 256 + x3 * 128 = (x2 * 2 + x3) * 128 + (x0 * 64 + x1) * 33554432 by omega]
  rw [← q0, or_assoc' (by omega) (by omega) (by omega) (by omega) (by omega) (by omega), q1, q2, q0]
  refine ⟨by omega, by omega, by omega, fun h => ?_, fun h => ?_, ?_, ?_, ?_, ?_⟩
  · first | (exact absurd h (by decide)) | omega
  · first | (exact absurd h (by decide)) | omega
  · simp [regV, uRd]; omega
  · simp [regV, uRs1]; omega
  · simp [regV, uRs2]; omega
  · rw [gath_66 _ (by omega) (by omega), gath_66 _ (by omega) (by omega)]
    have g0 : (o + t * 4096 + s * 33554432 + rd * 128 + r1 * 32768 + r2 * 1048576 + (x2 * 2 + x3) * 128 + (x0 * 64 + x1) * 33554432) / 2147483648 % 2 = ((x2 * 2 + x3) * 128 + (x0 * 64 + x1) * 33554432) / 2147483648 % 2 := by omega
    have g1 : (o + t * 4096 + s * 33554432 + rd * 128 + r1 * 32768 + r2 * 1048576 + (x2 * 2 + x3) * 128 + (x0 * 64 + x1) * 33554432) / 33554432 % 64 = ((x2 * 2 + x3) * 128 + (x0 * 64 + x1) * 33554432) / 33554432 % 64 := by omega
    have g2 : (o + t * 4096 + s * 33554432 + rd * 128 + r1 * 32768 + r2 * 1048576 + (x2 * 2 + x3) * 128 + (x0 * 64 + x1) * 33554432) / 256 % 16 = ((x2 * 2 + x3) * 128 + (x0 * 64 + x1) * 33554432) / 256 % 16 := by omega
    have g3 : (o + t * 4096 + s * 33554432 + rd * 128 + r1 * 32768 + r2 * 1048576 + (x2 * 2 + x3) * 128 + (x0 * 64 + x1) * 33554432) / 128 % 2 = ((x2 * 2 + x3) * 128 + (x0 * 64 + x1) * 33554432) / 128 % 2 := by omega
    rw [g0, g1, g2, g3]
theorem back_82 {o t s rd r1 r2 m : Int} (ho : 0 ≤ o ∧ o < 128) (ht : 0 ≤ t ∧ t < 8) (hs : 0 ≤ s ∧ s < 128) (n3 : has3 82 = false → t = 0) (n7 : has7 82 = false → s = 0) (hd : regB rd (uRd 82) = true) (h1 : regB r1 (uRs1 82) = true) (h2 : regB r2 (uRs2 82) = true) (m0 : 0 ≤ m) (m1 : m < 4294967296) :
    Bk 82 o t s rd r1 r2 (scat 82 m 4) (bits .or .u32 (bits .or .u32 (fixF o t s) (bits .or .u32 (bits .or .u32 (rd * 128) (r1 * 32768)) (r2 * 1048576))) (scat 82 m 4)) := by
  have d0 := reg_in hd
  have d1 := reg_in h1
  have d2 := reg_in h2
  rw [base_sum ho ht hs d0 d1 d2, scat_82 m m0 m1]
  clear hd h1 h2 n3 n7
  rw [or_zero' (by omega) (by omega)]
  refine ⟨by omega, by omega, by omega, fun h => ?_, fun h => ?_, ?_, ?_, ?_, ?_⟩
  · first | (exact absurd h (by decide)) | omega
  · first | (exact absurd h (by decide)) | omega
  · simp [regV, uRd]; omega
  · simp [regV, uRs1]; omega
  · simp [regV, uRs2]; omega
  · rw [gath_82 _ (by omega) (by omega), gath_82 _ (by omega) (by omega)]
theorem back_all {f o t s rd r1 r2 m : Int} (hf : isForm f) (hn : f ≠ 0) (ho : 0 ≤ o ∧ o < 128) (ht : 0 ≤ t ∧ t < 8) (hs : 0 ≤ s ∧ s < 128) (n3 : has3 f = false → t = 0) (n7 : has7 f = false → s = 0) (hd : regB rd (uRd f) = true) (h1 : regB r1 (uRs1 f) = true) (h2 : regB r2 (uRs2 f) = true) (m0 : 0 ≤ m) (m1 : m < 4294967296) :
    Bk f o t s rd r1 r2 (scat f m 4) (bits .or .u32 (bits .or .u32 (fixF o t s) (bits .or .u32 (bits .or .u32 (rd * 128) (r1 * 32768)) (r2 * 1048576))) (scat f m 4)) := by
  rcases hf with rfl | rfl | rfl | rfl | rfl | rfl | rfl | rfl
  · exact back_85 ho ht hs n3 n7 hd h1 h2 m0 m1
  · exact back_74 ho ht hs n3 n7 hd h1 h2 m0 m1
  · exact back_73 ho ht hs n3 n7 hd h1 h2 m0 m1
  · exact back_72 ho ht hs n3 n7 hd h1 h2 m0 m1
  · exact back_83 ho ht hs n3 n7 hd h1 h2 m0 m1
  · exact back_66 ho ht hs n3 n7 hd h1 h2 m0 m1
  · exact back_82 ho ht hs n3 n7 hd h1 h2 m0 m1
  · exact absurd rfl hn
/-- What is encoded is decoded as it was. -/
theorem enc_back {op rd r1 r2 imm : Int} (h : fitsB rd r1 r2 imm (fm (ix op)) = true) :
    ix op ≠ 0 ∧ (ix op : Int) = op ∧ (0 ≤ encW op rd r1 r2 imm ∧ encW op rd r1 r2 imm ≤ 4294967295) ∧ findI (encW op rd r1 r2 imm) = ix op ∧
    regV (encW op rd r1 r2 imm) 7 (uRd (fm (ix op))) = rd ∧ regV (encW op rd r1 r2 imm) 15 (uRs1 (fm (ix op))) = r1 ∧ regV (encW op rd r1 r2 imm) 20 (uRs2 (fm (ix op))) = r2 ∧ gathS (fm (ix op)) (encW op rd r1 r2 imm) = imm := by
  have hk := ix_lt op
  unfold fitsB at h
  simp only [Bool.and_eq_true, bne_iff_ne, beq_iff_eq] at h
  obtain ⟨⟨⟨⟨hn, hd⟩, h1⟩, h2⟩, hi⟩ := h
  have k0 : ix op ≠ 0 := fun e => hn (by rw [e]; rfl)
  have ho : (ix op : Int) = op := by
    by_cases c : 0 ≤ op ∧ op < 46
    · exact ix_in c
    · exact absurd (ix_out c) k0
  have B := back_all (m := imm % 4294967296) (fm_form op) hn (oc_in _ hk) (f3_in _ hk) (f7_in _ hk) (no3 _ hk) (no7 _ hk) hd h1 h2 (by omega) (by omega)
  have e : bits .or .u32 (bits .or .u32 (fixF (oc (ix op)) (f3 (ix op)) (f7 (ix op))) (bits .or .u32 (bits .or .u32 (rd * 128) (r1 * 32768)) (r2 * 1048576))) (scat (fm (ix op)) (imm % 4294967296) 4) = encW op rd r1 r2 imm := by
    unfold encW fixK; rfl
  rw [e] at B
  clear e
  generalize encW op rd r1 r2 imm = U at *
  obtain ⟨b0, b1, b2, b3, b4, b5, b6, b7, b8⟩ := B
  refine ⟨k0, ho, ⟨b0, b1⟩, find_is b0 b1 hk k0 ⟨b2, b3, b4⟩, b5, b6, b7, ?_⟩
  unfold gathS at *
  rw [b8]; exact hi

/-- The number of a word, as a word again. -/
theorem gathS_mod (f U : Int) : gathS f U % 4294967296 = signF (gath f U 4) (immB f) := by
  have h := signF_in (immB f) (or_in (gath f U 3) (U / 2 ^ (pA f 3).toNat % 2 ^ (pC f 3).toNat * 2 ^ (pF f 3).toNat % 4294967296))
  exact sg_mod h.1 h.2
theorem gs_85 {U : Int} (u0 : 0 ≤ U) (u1 : U ≤ 4294967295) : gath 85 (scat 85 (gathS 85 U % 4294967296) 4) 4 = gath 85 U 4 := by
  rw [gathS_mod, gath_85 U u0 (by omega)]
  have b0 : 0 ≤ U / 4096 % 1048576 ∧ U / 4096 % 1048576 < 1048576 := by omega
  generalize U / 4096 % 1048576 = x0 at *
  have hm : signF (x0 * 4096) (immB 85) = x0 * 4096 := by
    have e : immB 85 = 32 := rfl
    rw [e]; unfold signF; rw [if_pos (by omega)]
  rw [hm]
  generalize hmm : x0 * 4096 = m at *
  have mr : 0 ≤ m ∧ m < 4294967296 := by omega
  rw [scat_85 m mr.1 mr.2]
  have f0 : m / 4096 % 1048576 = x0 := by omega
  rw [f0]
  rw [gath_85 _ (by omega) (by omega)]
  have g0 : (x0 * 4096) / 4096 % 1048576 = x0 := by omega
  rw [g0]
  first | exact hmm | (simp; done) | omega
theorem gs_73 {U : Int} (u0 : 0 ≤ U) (u1 : U ≤ 4294967295) : gath 73 (scat 73 (gathS 73 U % 4294967296) 4) 4 = gath 73 U 4 := by
  rw [gathS_mod, gath_73 U u0 (by omega)]
  have b0 : 0 ≤ U / 1048576 % 4096 ∧ U / 1048576 % 4096 < 4096 := by omega
  generalize U / 1048576 % 4096 = x0 at *
  have hm : signF (x0) (immB 73) = x0 ∨ signF (x0) (immB 73) = x0 - 4096 + 4294967296 := by
    have e : immB 73 = 12 := rfl
    have e2 : (12 : Int).toNat = 12 := rfl
    rw [e]; unfold signF; rw [if_neg (by omega), e2]; unfold signN; simp only [Int.reducePow]; split <;> omega
  have mr : 0 ≤ signF (x0) (immB 73) ∧ signF (x0) (immB 73) < 4294967296 := by
    rcases hm with h | h <;> omega
  generalize signF (x0) (immB 73) = m at *
  rw [scat_73 m mr.1 mr.2]
  have f0 : m % 4096 = x0 := by omega
  rw [f0]
  rw [gath_73 _ (by omega) (by omega)]
  have g0 : (x0 * 1048576) / 1048576 % 4096 = x0 := by omega
  rw [g0]
theorem gs_72 {U : Int} (u0 : 0 ≤ U) (u1 : U ≤ 4294967295) : gath 72 (scat 72 (gathS 72 U % 4294967296) 4) 4 = gath 72 U 4 := by
  rw [gathS_mod, gath_72 U u0 (by omega)]
  have b0 : 0 ≤ U / 1048576 % 32 ∧ U / 1048576 % 32 < 32 := by omega
  generalize U / 1048576 % 32 = x0 at *
  have hm : signF (x0) (immB 72) = x0 := by
    have e : immB 72 = 32 := rfl
    rw [e]; unfold signF; rw [if_pos (by omega)]
  rw [hm]
  generalize hmm : x0 = m at *
  have mr : 0 ≤ m ∧ m < 4294967296 := by omega
  rw [scat_72 m mr.1 mr.2]
  have f0 : m % 32 = x0 := by omega
  rw [f0]
  rw [gath_72 _ (by omega) (by omega)]
  have g0 : (x0 * 1048576) / 1048576 % 32 = x0 := by omega
  rw [g0]
  first | exact hmm | (simp; done) | omega
theorem gs_83 {U : Int} (u0 : 0 ≤ U) (u1 : U ≤ 4294967295) : gath 83 (scat 83 (gathS 83 U % 4294967296) 4) 4 = gath 83 U 4 := by
  rw [gathS_mod, gath_83 U u0 (by omega)]
  have b0 : 0 ≤ U / 128 % 32 ∧ U / 128 % 32 < 32 := by omega
  generalize U / 128 % 32 = x0 at *
  have b1 : 0 ≤ U / 33554432 % 128 ∧ U / 33554432 % 128 < 128 := by omega
  generalize U / 33554432 % 128 = x1 at *
  have hm : signF (x0 + x1 * 32) (immB 83) = x0 + x1 * 32 ∨ signF (x0 + x1 * 32) (immB 83) = x0 + x1 * 32 - 4096 + 4294967296 := by
    have e : immB 83 = 12 := rfl
    have e2 : (12 : Int).toNat = 12 := rfl
    rw [e]; unfold signF; rw [if_neg (by omega), e2]; unfold signN; simp only [Int.reducePow]; split <;> omega
  have mr : 0 ≤ signF (x0 + x1 * 32) (immB 83) ∧ signF (x0 + x1 * 32) (immB 83) < 4294967296 := by
    rcases hm with h | h <;> omega
  generalize signF (x0 + x1 * 32) (immB 83) = m at *
  rw [scat_83 m mr.1 mr.2]
  have f0 : m % 32 = x0 := by omega
  have f1 : m / 32 % 128 = x1 := by omega
  rw [f0, f1]
  rw [gath_83 _ (by omega) (by omega)]
  have g0 : (x0 * 128 + x1 * 33554432) / 128 % 32 = x0 := by omega
  have g1 : (x0 * 128 + x1 * 33554432) / 33554432 % 128 = x1 := by omega
  rw [g0, g1]
theorem gs_82 {U : Int} (u0 : 0 ≤ U) (u1 : U ≤ 4294967295) : gath 82 (scat 82 (gathS 82 U % 4294967296) 4) 4 = gath 82 U 4 := by
  rw [gathS_mod, gath_82 U u0 (by omega), scat_82 _ (by decide) (by decide)]
  rfl
theorem inj_85 {U V : Int} (u0 : 0 ≤ U) (u1 : U ≤ 4294967295) (v0 : 0 ≤ V) (v1 : V ≤ 4294967295) (h1 : U % 128 = V % 128) (h2 : has3 85 = true → U / 4096 % 8 = V / 4096 % 8) (h3 : has7 85 = true → U / 33554432 = V / 33554432) (h4 : regV U 7 (uRd 85) = regV V 7 (uRd 85)) (h5 : regV U 15 (uRs1 85) = regV V 15 (uRs1 85)) (h6 : regV U 20 (uRs2 85) = regV V 20 (uRs2 85)) (h7 : gath 85 U 4 = gath 85 V 4) : U = V := by
  rw [gath_85 U u0 (by omega), gath_85 V v0 (by omega)] at h7
  clear h2
  clear h3
  simp [regV, uRd, uRs1, uRs2] at h4 h5 h6
  omega
theorem inj_73 {U V : Int} (u0 : 0 ≤ U) (u1 : U ≤ 4294967295) (v0 : 0 ≤ V) (v1 : V ≤ 4294967295) (h1 : U % 128 = V % 128) (h2 : has3 73 = true → U / 4096 % 8 = V / 4096 % 8) (h3 : has7 73 = true → U / 33554432 = V / 33554432) (h4 : regV U 7 (uRd 73) = regV V 7 (uRd 73)) (h5 : regV U 15 (uRs1 73) = regV V 15 (uRs1 73)) (h6 : regV U 20 (uRs2 73) = regV V 20 (uRs2 73)) (h7 : gath 73 U 4 = gath 73 V 4) : U = V := by
  rw [gath_73 U u0 (by omega), gath_73 V v0 (by omega)] at h7
  have h2 := h2 rfl
  clear h3
  simp [regV, uRd, uRs1, uRs2] at h4 h5 h6
  omega
theorem inj_72 {U V : Int} (u0 : 0 ≤ U) (u1 : U ≤ 4294967295) (v0 : 0 ≤ V) (v1 : V ≤ 4294967295) (h1 : U % 128 = V % 128) (h2 : has3 72 = true → U / 4096 % 8 = V / 4096 % 8) (h3 : has7 72 = true → U / 33554432 = V / 33554432) (h4 : regV U 7 (uRd 72) = regV V 7 (uRd 72)) (h5 : regV U 15 (uRs1 72) = regV V 15 (uRs1 72)) (h6 : regV U 20 (uRs2 72) = regV V 20 (uRs2 72)) (h7 : gath 72 U 4 = gath 72 V 4) : U = V := by
  rw [gath_72 U u0 (by omega), gath_72 V v0 (by omega)] at h7
  have h2 := h2 rfl
  have h3 := h3 rfl
  simp [regV, uRd, uRs1, uRs2] at h4 h5 h6
  omega
theorem inj_83 {U V : Int} (u0 : 0 ≤ U) (u1 : U ≤ 4294967295) (v0 : 0 ≤ V) (v1 : V ≤ 4294967295) (h1 : U % 128 = V % 128) (h2 : has3 83 = true → U / 4096 % 8 = V / 4096 % 8) (h3 : has7 83 = true → U / 33554432 = V / 33554432) (h4 : regV U 7 (uRd 83) = regV V 7 (uRd 83)) (h5 : regV U 15 (uRs1 83) = regV V 15 (uRs1 83)) (h6 : regV U 20 (uRs2 83) = regV V 20 (uRs2 83)) (h7 : gath 83 U 4 = gath 83 V 4) : U = V := by
  rw [gath_83 U u0 (by omega), gath_83 V v0 (by omega)] at h7
  have h2 := h2 rfl
  clear h3
  simp [regV, uRd, uRs1, uRs2] at h4 h5 h6
  omega
theorem inj_82 {U V : Int} (u0 : 0 ≤ U) (u1 : U ≤ 4294967295) (v0 : 0 ≤ V) (v1 : V ≤ 4294967295) (h1 : U % 128 = V % 128) (h2 : has3 82 = true → U / 4096 % 8 = V / 4096 % 8) (h3 : has7 82 = true → U / 33554432 = V / 33554432) (h4 : regV U 7 (uRd 82) = regV V 7 (uRd 82)) (h5 : regV U 15 (uRs1 82) = regV V 15 (uRs1 82)) (h6 : regV U 20 (uRs2 82) = regV V 20 (uRs2 82)) (h7 : gath 82 U 4 = gath 82 V 4) : U = V := by
  rw [gath_82 U u0 (by omega), gath_82 V v0 (by omega)] at h7
  have h2 := h2 rfl
  have h3 := h3 rfl
  simp [regV, uRd, uRs1, uRs2] at h4 h5 h6
  omega
set_option maxHeartbeats 100000 in
theorem gs_74 {U : Int} (u0 : 0 ≤ U) (u1 : U ≤ 4294967295) : gath 74 (scat 74 (gathS 74 U % 4294967296) 4) 4 = gath 74 U 4 := by
  rw [gathS_mod, gath_74 U u0 (by omega)]
  have b0 : 0 ≤ U / 2147483648 % 2 ∧ U / 2147483648 % 2 < 2 := by omega
  generalize U / 2147483648 % 2 = x0 at *
  have b1 : 0 ≤ U / 2097152 % 1024 ∧ U / 2097152 % 1024 < 1024 := by omega
  generalize U / 2097152 % 1024 = x1 at *
  have b2 : 0 ≤ U / 1048576 % 2 ∧ U / 1048576 % 2 < 2 := by omega
  generalize U / 1048576 % 2 = x2 at *
  have b3 : 0 ≤ U / 4096 % 256 ∧ U / 4096 % 256 < 256 := by omega
  generalize U / 4096 % 256 = x3 at *
  clear u0 u1
  have hm : signF (x0 * 1048576 + x1 * 2 + x2 * 2048 + x3 * 4096) (immB 74) = x0 * 1048576 + x1 * 2 + x2 * 2048 + x3 * 4096 ∨ signF (x0 * 1048576 + x1 * 2 + x2 * 2048 + x3 * 4096) (immB 74) = x0 * 1048576 + x1 * 2 + x2 * 2048 + x3 * 4096 + 4292870144 := by
    have e : immB 74 = 21 := rfl
    have e2 : (21 : Int).toNat = 21 := rfl
    rw [e]; unfold signF; rw [if_neg (by omega), e2]; unfold signN; simp only [Int.reducePow]; split <;> omega
  generalize signF (x0 * 1048576 + x1 * 2 + x2 * 2048 + x3 * 4096) (immB 74) = m at *
  have mr : 0 ≤ m ∧ m < 4294967296 := by rcases hm with h | h <;> omega
  have f0 : m / 1048576 % 2 = x0 := by
    rcases hm with h | h
    · have q : m / 1048576 = x0 := by omega
      rw [q]; clear h q mr; omega
    · have q : m / 1048576 = x0 + 4094 := by omega
      rw [q]; clear h q mr; omega
  have f1 : m / 2 % 1024 = x1 := by
    rcases hm with h | h
    · have q : m / 2 = x0 * 524288 + x1 + x2 * 1024 + x3 * 2048 := by omega
      rw [q]; clear h q mr; omega
    · have q : m / 2 = x0 * 524288 + x1 + x2 * 1024 + x3 * 2048 + 2146435072 := by omega
      rw [q]; clear h q mr; omega
  have f2 : m / 2048 % 2 = x2 := by
    rcases hm with h | h
    · have q : m / 2048 = x0 * 512 + x2 + x3 * 2 := by omega
      rw [q]; clear h q mr; omega
    · have q : m / 2048 = x0 * 512 + x2 + x3 * 2 + 2096128 := by omega
      rw [q]; clear h q mr; omega
  have f3 : m / 4096 % 256 = x3 := by
    rcases hm with h | h
    · have q : m / 4096 = x0 * 256 + x3 := by omega
      rw [q]; clear h q mr; omega
    · have q : m / 4096 = x0 * 256 + x3 + 1048064 := by omega
      rw [q]; clear h q mr; omega
  rw [scat_74 m mr.1 mr.2]
  rw [f0, f1, f2, f3]
  clear hm mr f0 f1 f2 f3
  rw [gath_74 _ (by omega) (by omega)]
  have g0 : (x0 * 2147483648 + x1 * 2097152 + x2 * 1048576 + x3 * 4096) / 2147483648 % 2 = x0 := by
    have q : (x0 * 2147483648 + x1 * 2097152 + x2 * 1048576 + x3 * 4096) / 2147483648 = x0 := by omega
    rw [q]; clear q; omega
  have g1 : (x0 * 2147483648 + x1 * 2097152 + x2 * 1048576 + x3 * 4096) / 2097152 % 1024 = x1 := by
    have q : (x0 * 2147483648 + x1 * 2097152 + x2 * 1048576 + x3 * 4096) / 2097152 = x0 * 1024 + x1 := by omega
    rw [q]; clear q; omega
  have g2 : (x0 * 2147483648 + x1 * 2097152 + x2 * 1048576 + x3 * 4096) / 1048576 % 2 = x2 := by
    have q : (x0 * 2147483648 + x1 * 2097152 + x2 * 1048576 + x3 * 4096) / 1048576 = x0 * 2048 + x1 * 2 + x2 := by omega
    rw [q]; clear q; omega
  have g3 : (x0 * 2147483648 + x1 * 2097152 + x2 * 1048576 + x3 * 4096) / 4096 % 256 = x3 := by
    have q : (x0 * 2147483648 + x1 * 2097152 + x2 * 1048576 + x3 * 4096) / 4096 = x0 * 524288 + x1 * 512 + x2 * 256 + x3 := by omega
    rw [q]; clear q; omega
  rw [g0, g1, g2, g3]
set_option maxHeartbeats 100000 in
theorem gs_66 {U : Int} (u0 : 0 ≤ U) (u1 : U ≤ 4294967295) : gath 66 (scat 66 (gathS 66 U % 4294967296) 4) 4 = gath 66 U 4 := by
  rw [gathS_mod, gath_66 U u0 (by omega)]
  have b0 : 0 ≤ U / 2147483648 % 2 ∧ U / 2147483648 % 2 < 2 := by omega
  generalize U / 2147483648 % 2 = x0 at *
  have b1 : 0 ≤ U / 33554432 % 64 ∧ U / 33554432 % 64 < 64 := by omega
  generalize U / 33554432 % 64 = x1 at *
  have b2 : 0 ≤ U / 256 % 16 ∧ U / 256 % 16 < 16 := by omega
  generalize U / 256 % 16 = x2 at *
  have b3 : 0 ≤ U / 128 % 2 ∧ U / 128 % 2 < 2 := by omega
  generalize U / 128 % 2 = x3 at *
  clear u0 u1
  have hm : signF (x0 * 4096 + x1 * 32 + x2 * 2 + x3 * 2048) (immB 66) = x0 * 4096 + x1 * 32 + x2 * 2 + x3 * 2048 ∨ signF (x0 * 4096 + x1 * 32 + x2 * 2 + x3 * 2048) (immB 66) = x0 * 4096 + x1 * 32 + x2 * 2 + x3 * 2048 + 4294959104 := by
    have e : immB 66 = 13 := rfl
    have e2 : (13 : Int).toNat = 13 := rfl
    rw [e]; unfold signF; rw [if_neg (by omega), e2]; unfold signN; simp only [Int.reducePow]; split <;> omega
  generalize signF (x0 * 4096 + x1 * 32 + x2 * 2 + x3 * 2048) (immB 66) = m at *
  have mr : 0 ≤ m ∧ m < 4294967296 := by rcases hm with h | h <;> omega
  have f0 : m / 4096 % 2 = x0 := by
    rcases hm with h | h
    · have q : m / 4096 = x0 := by omega
      rw [q]; clear h q mr; omega
    · have q : m / 4096 = x0 + 1048574 := by omega
      rw [q]; clear h q mr; omega
  have f1 : m / 32 % 64 = x1 := by
    rcases hm with h | h
    · have q : m / 32 = x0 * 128 + x1 + x3 * 64 := by omega
      rw [q]; clear h q mr; omega
    · have q : m / 32 = x0 * 128 + x1 + x3 * 64 + 134217472 := by omega
      rw [q]; clear h q mr; omega
  have f2 : m / 2 % 16 = x2 := by
    rcases hm with h | h
    · have q : m / 2 = x0 * 2048 + x1 * 16 + x2 + x3 * 1024 := by omega
      rw [q]; clear h q mr; omega
    · have q : m / 2 = x0 * 2048 + x1 * 16 + x2 + x3 * 1024 + 2147479552 := by omega
      rw [q]; clear h q mr; omega
  have f3 : m / 2048 % 2 = x3 := by
    rcases hm with h | h
    · have q : m / 2048 = x0 * 2 + x3 := by omega
      rw [q]; clear h q mr; omega
    · have q : m / 2048 = x0 * 2 + x3 + 2097148 := by omega
      rw [q]; clear h q mr; omega
  rw [scat_66 m mr.1 mr.2]
  rw [f0, f1, f2, f3]
  clear hm mr f0 f1 f2 f3
  rw [gath_66 _ (by omega) (by omega)]
  have g0 : (x0 * 2147483648 + x1 * 33554432 + x2 * 256 + x3 * 128) / 2147483648 % 2 = x0 := by
    have q : (x0 * 2147483648 + x1 * 33554432 + x2 * 256 + x3 * 128) / 2147483648 = x0 := by omega
    rw [q]; clear q; omega
  have g1 : (x0 * 2147483648 + x1 * 33554432 + x2 * 256 + x3 * 128) / 33554432 % 64 = x1 := by
    have q : (x0 * 2147483648 + x1 * 33554432 + x2 * 256 + x3 * 128) / 33554432 = x0 * 64 + x1 := by omega
    rw [q]; clear q; omega
  have g2 : (x0 * 2147483648 + x1 * 33554432 + x2 * 256 + x3 * 128) / 256 % 16 = x2 := by
    have q : (x0 * 2147483648 + x1 * 33554432 + x2 * 256 + x3 * 128) / 256 = x0 * 8388608 + x1 * 131072 + x2 := by omega
    rw [q]; clear q; omega
  have g3 : (x0 * 2147483648 + x1 * 33554432 + x2 * 256 + x3 * 128) / 128 % 2 = x3 := by
    have q : (x0 * 2147483648 + x1 * 33554432 + x2 * 256 + x3 * 128) / 128 = x0 * 16777216 + x1 * 262144 + x2 * 2 + x3 := by omega
    rw [q]; clear q; omega
  rw [g0, g1, g2, g3]
theorem cut_top {W : Int} (h0 : 0 ≤ W) (h1 : W ≤ 4294967295) : W / 2147483648 = W / 2147483648 % 2 := by omega
theorem cut_0 (W : Int) : W / 2097152 = W / 2147483648 * 1024 + W / 2097152 % 1024 := by omega
theorem cut_1 (W : Int) : W / 1048576 = W / 2097152 * 2 + W / 1048576 % 2 := by omega
theorem cut_2 (W : Int) : W / 4096 = W / 1048576 * 256 + W / 4096 % 256 := by omega
theorem cut_3 (W : Int) : W / 128 = W / 4096 * 32 + W / 128 % 32 := by omega
theorem cut_4 (W : Int) : W = W / 128 * 128 + W % 128 := by omega
theorem cut_5 (W : Int) : W / 33554432 = W / 2147483648 * 64 + W / 33554432 % 64 := by omega
theorem cut_6 (W : Int) : W / 1048576 = W / 33554432 * 32 + W / 1048576 % 32 := by omega
theorem cut_7 (W : Int) : W / 32768 = W / 1048576 * 32 + W / 32768 % 32 := by omega
theorem cut_8 (W : Int) : W / 4096 = W / 32768 * 8 + W / 4096 % 8 := by omega
theorem cut_9 (W : Int) : W / 256 = W / 4096 * 16 + W / 256 % 16 := by omega
theorem cut_10 (W : Int) : W / 128 = W / 256 * 2 + W / 128 % 2 := by omega
theorem cut_step {a b q r q' r' d : Int} (h : a = q * d + r) (h' : b = q' * d + r') (e : q = q') (f : r = r') : a = b := by rw [h, h', e, f]
theorem parts_74 {x0 x1 x2 x3 y0 y1 y2 y3 : Int} (bx0 : 0 ≤ x0 ∧ x0 < 2) (bx1 : 0 ≤ x1 ∧ x1 < 1024) (bx2 : 0 ≤ x2 ∧ x2 < 2) (bx3 : 0 ≤ x3 ∧ x3 < 256) (by0 : 0 ≤ y0 ∧ y0 < 2) (by1 : 0 ≤ y1 ∧ y1 < 1024) (by2 : 0 ≤ y2 ∧ y2 < 2) (by3 : 0 ≤ y3 ∧ y3 < 256) (h : x0 * 1048576 + x1 * 2 + x2 * 2048 + x3 * 4096 = y0 * 1048576 + y1 * 2 + y2 * 2048 + y3 * 4096) : x0 = y0 ∧ x1 = y1 ∧ x2 = y2 ∧ x3 = y3 := by
  have e0 : x0 = y0 := by
    obtain ⟨r, hr⟩ : ∃ r, r = x3 * 4096 + x2 * 2048 + x1 * 2 := ⟨_, rfl⟩
    obtain ⟨r', hr'⟩ : ∃ r', r' = y3 * 4096 + y2 * 2048 + y1 * 2 := ⟨_, rfl⟩
    have c1 : 0 ≤ r ∧ r < 1048576 := by clear h; omega
    have c2 : 0 ≤ r' ∧ r' < 1048576 := by clear h; omega
    have h' : x0 * 1048576 + r = y0 * 1048576 + r' := by rw [hr, hr']; omega
    clear hr hr' h
    omega
  subst e0
  have e3 : x3 = y3 := by
    obtain ⟨r, hr⟩ : ∃ r, r = x2 * 2048 + x1 * 2 := ⟨_, rfl⟩
    obtain ⟨r', hr'⟩ : ∃ r', r' = y2 * 2048 + y1 * 2 := ⟨_, rfl⟩
    have c1 : 0 ≤ r ∧ r < 4096 := by clear h; omega
    have c2 : 0 ≤ r' ∧ r' < 4096 := by clear h; omega
    have h' : x3 * 4096 + r = y3 * 4096 + r' := by rw [hr, hr']; omega
    clear hr hr' h
    omega
  subst e3
  have e2 : x2 = y2 := by
    obtain ⟨r, hr⟩ : ∃ r, r = x1 * 2 := ⟨_, rfl⟩
    obtain ⟨r', hr'⟩ : ∃ r', r' = y1 * 2 := ⟨_, rfl⟩
    have c1 : 0 ≤ r ∧ r < 2048 := by clear h; omega
    have c2 : 0 ≤ r' ∧ r' < 2048 := by clear h; omega
    have h' : x2 * 2048 + r = y2 * 2048 + r' := by rw [hr, hr']; omega
    clear hr hr' h
    omega
  subst e2
  have e1 : x1 = y1 := by omega
  exact ⟨rfl, e1, rfl, rfl⟩
theorem parts_66 {x0 x1 x2 x3 y0 y1 y2 y3 : Int} (bx0 : 0 ≤ x0 ∧ x0 < 2) (bx1 : 0 ≤ x1 ∧ x1 < 64) (bx2 : 0 ≤ x2 ∧ x2 < 16) (bx3 : 0 ≤ x3 ∧ x3 < 2) (by0 : 0 ≤ y0 ∧ y0 < 2) (by1 : 0 ≤ y1 ∧ y1 < 64) (by2 : 0 ≤ y2 ∧ y2 < 16) (by3 : 0 ≤ y3 ∧ y3 < 2) (h : x0 * 4096 + x1 * 32 + x2 * 2 + x3 * 2048 = y0 * 4096 + y1 * 32 + y2 * 2 + y3 * 2048) : x0 = y0 ∧ x1 = y1 ∧ x2 = y2 ∧ x3 = y3 := by
  have e0 : x0 = y0 := by
    obtain ⟨r, hr⟩ : ∃ r, r = x3 * 2048 + x1 * 32 + x2 * 2 := ⟨_, rfl⟩
    obtain ⟨r', hr'⟩ : ∃ r', r' = y3 * 2048 + y1 * 32 + y2 * 2 := ⟨_, rfl⟩
    have c1 : 0 ≤ r ∧ r < 4096 := by clear h; omega
    have c2 : 0 ≤ r' ∧ r' < 4096 := by clear h; omega
    have h' : x0 * 4096 + r = y0 * 4096 + r' := by rw [hr, hr']; omega
    clear hr hr' h
    omega
  subst e0
  have e3 : x3 = y3 := by
    obtain ⟨r, hr⟩ : ∃ r, r = x1 * 32 + x2 * 2 := ⟨_, rfl⟩
    obtain ⟨r', hr'⟩ : ∃ r', r' = y1 * 32 + y2 * 2 := ⟨_, rfl⟩
    have c1 : 0 ≤ r ∧ r < 2048 := by clear h; omega
    have c2 : 0 ≤ r' ∧ r' < 2048 := by clear h; omega
    have h' : x3 * 2048 + r = y3 * 2048 + r' := by rw [hr, hr']; omega
    clear hr hr' h
    omega
  subst e3
  have e1 : x1 = y1 := by
    obtain ⟨r, hr⟩ : ∃ r, r = x2 * 2 := ⟨_, rfl⟩
    obtain ⟨r', hr'⟩ : ∃ r', r' = y2 * 2 := ⟨_, rfl⟩
    have c1 : 0 ≤ r ∧ r < 32 := by clear h; omega
    have c2 : 0 ≤ r' ∧ r' < 32 := by clear h; omega
    have h' : x1 * 32 + r = y1 * 32 + r' := by rw [hr, hr']; omega
    clear hr hr' h
    omega
  subst e1
  have e2 : x2 = y2 := by omega
  exact ⟨rfl, rfl, e2, rfl⟩
theorem inj_74 {U V : Int} (u0 : 0 ≤ U) (u1 : U ≤ 4294967295) (v0 : 0 ≤ V) (v1 : V ≤ 4294967295) (h1 : U % 128 = V % 128) (h2 : has3 74 = true → U / 4096 % 8 = V / 4096 % 8) (h3 : has7 74 = true → U / 33554432 = V / 33554432) (h4 : regV U 7 (uRd 74) = regV V 7 (uRd 74)) (h5 : regV U 15 (uRs1 74) = regV V 15 (uRs1 74)) (h6 : regV U 20 (uRs2 74) = regV V 20 (uRs2 74)) (h7 : gath 74 U 4 = gath 74 V 4) : U = V := by
  rw [gath_74 U u0 (Int.lt_of_le_of_lt u1 (by decide)), gath_74 V v0 (Int.lt_of_le_of_lt v1 (by decide))] at h7
  clear h2
  clear h3
  simp [regV, uRd, uRs1, uRs2] at h4 h5 h6
  obtain ⟨e0, e1, e2, e3⟩ := parts_74 ⟨Int.emod_nonneg _ (by decide), Int.emod_lt_of_pos _ (by decide)⟩ ⟨Int.emod_nonneg _ (by decide), Int.emod_lt_of_pos _ (by decide)⟩ ⟨Int.emod_nonneg _ (by decide), Int.emod_lt_of_pos _ (by decide)⟩ ⟨Int.emod_nonneg _ (by decide), Int.emod_lt_of_pos _ (by decide)⟩ ⟨Int.emod_nonneg _ (by decide), Int.emod_lt_of_pos _ (by decide)⟩ ⟨Int.emod_nonneg _ (by decide), Int.emod_lt_of_pos _ (by decide)⟩ ⟨Int.emod_nonneg _ (by decide), Int.emod_lt_of_pos _ (by decide)⟩ ⟨Int.emod_nonneg _ (by decide), Int.emod_lt_of_pos _ (by decide)⟩ h7
  clear h7
  have s5 : U / 2147483648 = V / 2147483648 := by
    have a := cut_top u0 u1
    have b := cut_top v0 v1
    rw [a, b]; exact e0
  have s4 : U / 2097152 = V / 2097152 := cut_step (cut_0 U) (cut_0 V) s5 e1
  have s3 : U / 1048576 = V / 1048576 := cut_step (cut_1 U) (cut_1 V) s4 e2
  have s2 : U / 4096 = V / 4096 := cut_step (cut_2 U) (cut_2 V) s3 e3
  have s1 : U / 128 = V / 128 := cut_step (cut_3 U) (cut_3 V) s2 h4
  have s0 : U = V := cut_step (cut_4 U) (cut_4 V) s1 h1
  exact s0
theorem inj_66 {U V : Int} (u0 : 0 ≤ U) (u1 : U ≤ 4294967295) (v0 : 0 ≤ V) (v1 : V ≤ 4294967295) (h1 : U % 128 = V % 128) (h2 : has3 66 = true → U / 4096 % 8 = V / 4096 % 8) (h3 : has7 66 = true → U / 33554432 = V / 33554432) (h4 : regV U 7 (uRd 66) = regV V 7 (uRd 66)) (h5 : regV U 15 (uRs1 66) = regV V 15 (uRs1 66)) (h6 : regV U 20 (uRs2 66) = regV V 20 (uRs2 66)) (h7 : gath 66 U 4 = gath 66 V 4) : U = V := by
  rw [gath_66 U u0 (Int.lt_of_le_of_lt u1 (by decide)), gath_66 V v0 (Int.lt_of_le_of_lt v1 (by decide))] at h7
  have h2 := h2 rfl
  clear h3
  simp [regV, uRd, uRs1, uRs2] at h4 h5 h6
  obtain ⟨e0, e1, e2, e3⟩ := parts_66 ⟨Int.emod_nonneg _ (by decide), Int.emod_lt_of_pos _ (by decide)⟩ ⟨Int.emod_nonneg _ (by decide), Int.emod_lt_of_pos _ (by decide)⟩ ⟨Int.emod_nonneg _ (by decide), Int.emod_lt_of_pos _ (by decide)⟩ ⟨Int.emod_nonneg _ (by decide), Int.emod_lt_of_pos _ (by decide)⟩ ⟨Int.emod_nonneg _ (by decide), Int.emod_lt_of_pos _ (by decide)⟩ ⟨Int.emod_nonneg _ (by decide), Int.emod_lt_of_pos _ (by decide)⟩ ⟨Int.emod_nonneg _ (by decide), Int.emod_lt_of_pos _ (by decide)⟩ ⟨Int.emod_nonneg _ (by decide), Int.emod_lt_of_pos _ (by decide)⟩ h7
  clear h7
  have s7 : U / 2147483648 = V / 2147483648 := by
    have a := cut_top u0 u1
    have b := cut_top v0 v1
    rw [a, b]; exact e0
  have s6 : U / 33554432 = V / 33554432 := cut_step (cut_5 U) (cut_5 V) s7 e1
  have s5 : U / 1048576 = V / 1048576 := cut_step (cut_6 U) (cut_6 V) s6 h6
  have s4 : U / 32768 = V / 32768 := cut_step (cut_7 U) (cut_7 V) s5 h5
  have s3 : U / 4096 = V / 4096 := cut_step (cut_8 U) (cut_8 V) s4 h2
  have s2 : U / 256 = V / 256 := cut_step (cut_9 U) (cut_9 V) s3 e2
  have s1 : U / 128 = V / 128 := cut_step (cut_10 U) (cut_10 V) s2 e3
  have s0 : U = V := cut_step (cut_4 U) (cut_4 V) s1 h1
  exact s0

theorem gs_all {f U : Int} (hf : isForm f) (u0 : 0 ≤ U) (u1 : U ≤ 4294967295) : gath f (scat f (gathS f U % 4294967296) 4) 4 = gath f U 4 := by
  rcases hf with rfl | rfl | rfl | rfl | rfl | rfl | rfl | rfl
  · exact gs_85 u0 u1
  · exact gs_74 u0 u1
  · exact gs_73 u0 u1
  · exact gs_72 u0 u1
  · exact gs_83 u0 u1
  · exact gs_66 u0 u1
  · exact gs_82 u0 u1
  · have h : 0 ≤ scat 0 (gathS 0 U % 4294967296) 4 ∧ scat 0 (gathS 0 U % 4294967296) 4 ≤ 4294967295 := or_in _ _
    rw [gath_0 U u0 (by omega), gath_0 _ h.1 (by omega)]
theorem inj_all {f U V : Int} (hf : isForm f) (hn : f ≠ 0) (u0 : 0 ≤ U) (u1 : U ≤ 4294967295) (v0 : 0 ≤ V) (v1 : V ≤ 4294967295) (h1 : U % 128 = V % 128) (h2 : has3 f = true → U / 4096 % 8 = V / 4096 % 8) (h3 : has7 f = true → U / 33554432 = V / 33554432) (h4 : regV U 7 (uRd f) = regV V 7 (uRd f)) (h5 : regV U 15 (uRs1 f) = regV V 15 (uRs1 f)) (h6 : regV U 20 (uRs2 f) = regV V 20 (uRs2 f)) (h7 : gath f U 4 = gath f V 4) : U = V := by
  rcases hf with rfl | rfl | rfl | rfl | rfl | rfl | rfl | rfl
  · exact inj_85 u0 u1 v0 v1 h1 h2 h3 h4 h5 h6 h7
  · exact inj_74 u0 u1 v0 v1 h1 h2 h3 h4 h5 h6 h7
  · exact inj_73 u0 u1 v0 v1 h1 h2 h3 h4 h5 h6 h7
  · exact inj_72 u0 u1 v0 v1 h1 h2 h3 h4 h5 h6 h7
  · exact inj_83 u0 u1 v0 v1 h1 h2 h3 h4 h5 h6 h7
  · exact inj_66 u0 u1 v0 v1 h1 h2 h3 h4 h5 h6 h7
  · exact inj_82 u0 u1 v0 v1 h1 h2 h3 h4 h5 h6 h7
  · exact absurd rfl hn
theorem regB_V (U : Int) (n : Int) (u : Bool) : regB (regV U n u) u = true := by
  cases u
  · simp [regB, regV]
  · simp only [regB, regV, if_true, decide_eq_true_eq]; omega
/-- The fields that a word gives to a number's format are those of an instruction, and its word is that word. -/
theorem dec_once {U : Int} (u0 : 0 ≤ U) (u1 : U ≤ 4294967295) {k : Nat} (hk : k < 46) (k0 : k ≠ 0) (m : Mt U k) :
    fitsB (regV U 7 (uRd (fm k))) (regV U 15 (uRs1 (fm k))) (regV U 20 (uRs2 (fm k))) (gathS (fm k) U) (fm k) = true ∧
    encW k (regV U 7 (uRd (fm k))) (regV U 15 (uRs1 (fm k))) (regV U 20 (uRs2 (fm k))) (gathS (fm k) U) = U := by
  have hf := fm_form' k hk
  have hn := fm_pos k hk k0
  have g := gs_all hf u0 u1
  have B := back_all (m := gathS (fm k) U % 4294967296) hf hn (oc_in _ hk) (f3_in _ hk) (f7_in _ hk) (no3 _ hk) (no7 _ hk) (regB_V U 7 _) (regB_V U 15 _) (regB_V U 20 _) (by omega) (by omega)
  refine ⟨?_, ?_⟩
  · unfold fitsB
    simp only [Bool.and_eq_true, bne_iff_ne, beq_iff_eq]
    refine ⟨⟨⟨⟨hn, regB_V U 7 _⟩, regB_V U 15 _⟩, regB_V U 20 _⟩, ?_⟩
    show sg (signF (gath (fm k) (scat (fm k) (gathS (fm k) U % 4294967296) 4) 4) (immB (fm k))) = gathS (fm k) U
    rw [g]; rfl
  · have e : bits .or .u32 (bits .or .u32 (fixF (oc k) (f3 k) (f7 k)) (bits .or .u32 (bits .or .u32 (regV U 7 (uRd (fm k)) * 128) (regV U 15 (uRs1 (fm k)) * 32768)) (regV U 20 (uRs2 (fm k)) * 1048576))) (scat (fm k) (gathS (fm k) U % 4294967296) 4) = encW k (regV U 7 (uRd (fm k))) (regV U 15 (uRs1 (fm k))) (regV U 20 (uRs2 (fm k))) (gathS (fm k) U) := by
      unfold encW fixK; rw [ix_nat hk]
    rw [e] at B
    clear e
    generalize encW k (regV U 7 (uRd (fm k))) (regV U 15 (uRs1 (fm k))) (regV U 20 (uRs2 (fm k))) (gathS (fm k) U) = V at *
    obtain ⟨b0, b1, b2, b3, b4, b5, b6, b7, b8⟩ := B
    obtain ⟨m1, m2, m3⟩ := m
    exact inj_all hf hn b0 b1 u0 u1 (by rw [b2, m1]) (fun h => by rw [b3 h, m2 h]) (fun h => by rw [b4 h, m3 h]) b5 b6 b7 (by rw [b8, g])
end Go.Proofs.YthhahfggbjegmaaGreat
