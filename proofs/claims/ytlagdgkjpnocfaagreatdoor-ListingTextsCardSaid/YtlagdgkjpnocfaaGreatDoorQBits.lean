/-
  Plain facts on words of instructions: which number's codes stand in a word is settled by its fields; at most one number's do. Plain facts: what the pieces of each format make of a number and of a word, as sums of fields. Plain facts: the word of an instruction as a sum of its fields; each field is read back from it.
-/
import Derived.Test.YtlagdgkjpnocfaaGreatDoorQFits
namespace Go.Proofs.YtlagdgkjpnocfaaGreatDoor
open Go.RowKit
set_option linter.unusedVariables false
set_option linter.unusedSimpArgs false

def has3 (f : Int) : Bool := f == 82 || f == 72 || f == 73 || f == 83 || f == 66
def has7 (f : Int) : Bool := f == 82 || f == 72
theorem and_nat_7 (x : Nat) : x &&& 127 = x % 128 := Nat.and_two_pow_sub_one_eq_mod x 7
theorem and_nat_3 (x : Nat) : x &&& 28672 = x % 32768 / 4096 * 4096 := nat_midmask 15 12 x (by decide)
theorem and_nat_f (x : Nat) : x &&& 4261412864 = x % 4294967296 / 33554432 * 33554432 := nat_midmask 32 25 x (by decide)
theorem and_nat_10 (x : Nat) : x &&& 28799 = x % 128 + x / 4096 % 8 * 4096 := by
  have e : (28799 : Nat) = 28672 ||| 127 := by decide
  rw [e, Nat.and_or_distrib_left, and_nat_7, and_nat_3]
  have h := nat_or_field (x % 128) (x / 4096 % 8) 12 3 (by simp; omega) (by simp; omega)
  rw [Nat.or_comm] at h
  have g : x % 32768 / 4096 * 4096 = x / 4096 % 8 * 2 ^ 12 := by simp; omega
  rw [g, h]
theorem and_nat_17 (x : Nat) (hx : x < 4294967296) : x &&& 4261441663 = x % 128 + x / 4096 % 8 * 4096 + x / 33554432 * 33554432 := by
  have e : (4261441663 : Nat) = 4261412864 ||| 28799 := by decide
  rw [e, Nat.and_or_distrib_left, and_nat_10, and_nat_f]
  have h := nat_or_field (x % 128 + x / 4096 % 8 * 4096) (x / 33554432) 25 7 (by simp; omega) (by simp; omega)
  rw [Nat.or_comm] at h
  have g : x % 4294967296 / 33554432 * 33554432 = x / 33554432 * 2 ^ 25 := by simp; omega
  rw [g, h]
theorem and_mask_form (u : Int) (h0 : 0 ≤ u) (h1 : u ≤ 4294967295) (f : Int) (hf : isForm f) (hn : f ≠ 0) :
    bits .and .u32 u (maskF f) = u % 128 + (if has3 f then u / 4096 % 8 * 4096 else 0) + (if has7 f then u / 33554432 * 33554432 else 0) := by
  obtain ⟨x, rfl⟩ : ∃ n : Nat, u = n := ⟨u.toNat, by omega⟩
  have a1 := u32_and_nat x 127 (by omega) (by omega)
  have a2 := u32_and_nat x 28799 (by omega) (by omega)
  have a3 := u32_and_nat x 4261441663 (by omega) (by omega)
  rw [and_nat_7] at a1
  rw [and_nat_10] at a2
  rw [and_nat_17 x (by omega)] at a3
  simp at a1 a2 a3
  rcases hf with rfl | rfl | rfl | rfl | rfl | rfl | rfl | rfl
  · simpa [maskF, has3, has7] using a1
  · simpa [maskF, has3, has7] using a1
  · simpa [maskF, has3, has7] using a2
  · simpa [maskF, has3, has7] using a3
  · simpa [maskF, has3, has7] using a2
  · simpa [maskF, has3, has7] using a2
  · simpa [maskF, has3, has7] using a3
  · exact absurd rfl hn
theorem fm_pos : ∀ k : Nat, k < 46 → k ≠ 0 → fm k ≠ 0 := by decide
theorem no3 : ∀ k : Nat, k < 46 → has3 (fm k) = false → f3 k = 0 := by decide
theorem no7 : ∀ k : Nat, k < 46 → has7 (fm k) = false → f7 k = 0 := by decide
/-- The fields of a word are the codes of number k. -/
def Mt (u : Int) (k : Nat) : Prop := u % 128 = oc k ∧ (has3 (fm k) = true → u / 4096 % 8 = f3 k) ∧ (has7 (fm k) = true → u / 33554432 = f7 k)
theorem mB_iff (u : Int) (h0 : 0 ≤ u) (h1 : u ≤ 4294967295) (k : Nat) (hk : k < 46) : mB u k = true ↔ k ≠ 0 ∧ Mt u k := by
  unfold mB Mt
  by_cases h : k = 0
  · subst h; simp
  · rw [and_mask_form u h0 h1 (fm k) (fm_form' k hk) (fm_pos k hk h)]
    obtain ⟨o0, o1⟩ := oc_in k hk
    obtain ⟨t0, t1⟩ := f3_in k hk
    obtain ⟨s0, s1⟩ := f7_in k hk
    have n3 := no3 k hk
    have n7 := no7 k hk
    unfold fixK fixF
    cases c3 : has3 (fm k) <;> cases c7 : has7 (fm k) <;> simp [h, c3, c7] at n3 n7 ⊢ <;> omega
def apartB (j k : Nat) : Bool := j == 0 || k == 0 || oc j != oc k || (has3 (fm k) && f3 j != f3 k) || (has7 (fm j) && has7 (fm k) && f7 j != f7 k) || j == k
theorem apart_all : ((List.range 46).all fun j => (List.range 46).all fun k => apartB j k) = true := by decide +kernel
theorem codes_apart (j : Nat) (hj : j < 46) (k : Nat) (hk : k < 46) (j0 : j ≠ 0) (k0 : k ≠ 0) (e : oc j = oc k) (e3 : has3 (fm k) = true → f3 j = f3 k) (e7 : has7 (fm j) = true → has7 (fm k) = true → f7 j = f7 k) : j = k := by
  have h := apart_all
  rw [List.all_eq_true] at h
  have h1 := h j (by simpa using hj)
  rw [List.all_eq_true] at h1
  have h2 := h1 k (by simpa using hk)
  unfold apartB at h2
  simp only [Bool.or_eq_true, Bool.and_eq_true, bne_iff_ne, beq_iff_eq] at h2
  rcases h2 with ((((h | h) | h) | ⟨h, g⟩) | ⟨⟨h, g⟩, f⟩) | h
  · exact absurd h j0
  · exact absurd h k0
  · exact absurd e h
  · exact absurd (e3 h) g
  · exact absurd (e7 h g) f
  · exact h
theorem same3 : ∀ j : Nat, j < 46 → ∀ k : Nat, k < 46 → j ≠ 0 → k ≠ 0 → oc j = oc k → has3 (fm j) = has3 (fm k) := by decide +kernel
theorem Mt_one {u : Int} {j k : Nat} (hj : j < 46) (hk : k < 46) (j0 : j ≠ 0) (k0 : k ≠ 0) (a : Mt u j) (b : Mt u k) : j = k := by
  obtain ⟨a1, a2, a3⟩ := a
  obtain ⟨b1, b2, b3⟩ := b
  have e : oc j = oc k := by rw [← a1, b1]
  refine codes_apart j hj k hk j0 k0 e (fun h => ?_) (fun h h' => ?_)
  · rw [← a2 (by rw [same3 j hj k hk j0 k0 e]; exact h), b2 h]
  · rw [← a3 h, b3 h']
/-- The number whose codes stand in a word is found. -/
theorem find_is {u : Int} (h0 : 0 ≤ u) (h1 : u ≤ 4294967295) {k : Nat} (hk : k < 46) (k0 : k ≠ 0) (m : Mt u k) : findI u = k := by
  refine find_first hk (fun j hj => ?_) ((mB_iff u h0 h1 k hk).mpr ⟨k0, m⟩)
  cases hb : mB u j with
  | false => rfl
  | true =>
    obtain ⟨j0, mj⟩ := (mB_iff u h0 h1 j (by omega)).mp hb
    have := Mt_one (by omega) hk j0 k0 mj m
    omega
/-- What is found stands in the word. -/
theorem find_mt {u : Int} (h0 : 0 ≤ u) (h1 : u ≤ 4294967295) {k : Nat} (h : findI u = k) (k0 : k ≠ 0) : k < 46 ∧ Mt u k := by
  unfold findI at h
  cases e : (List.range 46).find? (mB u) with
  | none => rw [e] at h; simp at h; exact absurd h.symm k0
  | some x =>
    rw [e] at h
    simp at h
    subst h
    have hx : x < 46 := by simpa using List.mem_of_find?_eq_some e
    exact ⟨hx, ((mB_iff u h0 h1 x hx).mp (List.find?_some e)).2⟩

theorem or_zero' {x : Int} (h0 : 0 ≤ x) (h1 : x < 4294967296) : bits .or .u32 x 0 = x := by
  have := or_field (x := x) (f := 0) 0 0 h0 h1 (by omega) (by simp) (by simp) (by omega)
  simpa using this
theorem zero_or' {x : Int} (h0 : 0 ≤ x) (h1 : x < 4294967296) : bits .or .u32 0 x = x := by
  have := or_field (x := 0) (f := x) 0 32 (by omega) (by omega) h0 (by simp) (by simp; omega) (by omega)
  simpa using this
theorem scat_85 (m : Int) (h0 : 0 ≤ m) (h1 : m < 4294967296) : scat 85 m 4 = m / 4096 % 1048576 * 4096 := by
  simp [scat, pF, pC, pA, pcs]
  have b0 : 0 ≤ m / 4096 % 1048576 ∧ m / 4096 % 1048576 < 1048576 := by omega
  generalize m / 4096 % 1048576 = x0 at *
  have m0 : x0 * 4096 % 4294967296 = x0 * 4096 := by omega
  have o0 := zero_or' (x := x0 * 4096) (by omega) (by omega)
  have z := or_zero' (x := x0 * 4096) (by omega) (by omega)
  (try simp only [m0])
  rw [o0]
  rw [z, z, z]
theorem scat_74 (m : Int) (h0 : 0 ≤ m) (h1 : m < 4294967296) : scat 74 m 4 = m / 1048576 % 2 * 2147483648 + m / 2 % 1024 * 2097152 + m / 2048 % 2 * 1048576 + m / 4096 % 256 * 4096 := by
  simp [scat, pF, pC, pA, pcs]
  have b0 : 0 ≤ m / 1048576 % 2 ∧ m / 1048576 % 2 < 2 := by omega
  generalize m / 1048576 % 2 = x0 at *
  have b1 : 0 ≤ m / 2 % 1024 ∧ m / 2 % 1024 < 1024 := by omega
  generalize m / 2 % 1024 = x1 at *
  have b2 : 0 ≤ m / 2048 % 2 ∧ m / 2048 % 2 < 2 := by omega
  generalize m / 2048 % 2 = x2 at *
  have b3 : 0 ≤ m / 4096 % 256 ∧ m / 4096 % 256 < 256 := by omega
  generalize m / 4096 % 256 = x3 at *
  have m0 : x0 * 2147483648 % 4294967296 = x0 * 2147483648 := by omega
  have o0 := zero_or' (x := x0 * 2147483648) (by omega) (by omega)
  have m1 : x1 * 2097152 % 4294967296 = x1 * 2097152 := by omega
  have o1 := or_field (x := x0 * 2147483648) (f := x1) 21 10 (by omega) (by omega) (by omega) (by simp; omega) (by simp; omega) (by omega)
  simp only [Int.reducePow, Nat.reducePow, Int.mul_one, Nat.reduceAdd] at o1
  have m2 : x2 * 1048576 % 4294967296 = x2 * 1048576 := by omega
  have o2 := or_field (x := x0 * 2147483648 + x1 * 2097152) (f := x2) 20 1 (by omega) (by omega) (by omega) (by simp; omega) (by simp; omega) (by omega)
  simp only [Int.reducePow, Nat.reducePow, Int.mul_one, Nat.reduceAdd] at o2
  have m3 : x3 * 4096 % 4294967296 = x3 * 4096 := by omega
  have o3 := or_field (x := x0 * 2147483648 + x1 * 2097152 + x2 * 1048576) (f := x3) 12 8 (by omega) (by omega) (by omega) (by simp; omega) (by simp; omega) (by omega)
  simp only [Int.reducePow, Nat.reducePow, Int.mul_one, Nat.reduceAdd] at o3
  have z := or_zero' (x := x0 * 2147483648 + x1 * 2097152 + x2 * 1048576 + x3 * 4096) (by omega) (by omega)
  (try simp only [m0, m1, m2, m3])
  rw [o0, o1, o2, o3]
theorem scat_73 (m : Int) (h0 : 0 ≤ m) (h1 : m < 4294967296) : scat 73 m 4 = m % 4096 * 1048576 := by
  simp [scat, pF, pC, pA, pcs]
  have b0 : 0 ≤ m % 4096 ∧ m % 4096 < 4096 := by omega
  generalize m % 4096 = x0 at *
  have m0 : x0 * 1048576 % 4294967296 = x0 * 1048576 := by omega
  have o0 := zero_or' (x := x0 * 1048576) (by omega) (by omega)
  have z := or_zero' (x := x0 * 1048576) (by omega) (by omega)
  (try simp only [m0])
  rw [o0]
  rw [z, z, z]
theorem scat_72 (m : Int) (h0 : 0 ≤ m) (h1 : m < 4294967296) : scat 72 m 4 = m % 32 * 1048576 := by
  simp [scat, pF, pC, pA, pcs]
  have b0 : 0 ≤ m % 32 ∧ m % 32 < 32 := by omega
  generalize m % 32 = x0 at *
  have m0 : x0 * 1048576 % 4294967296 = x0 * 1048576 := by omega
  have o0 := zero_or' (x := x0 * 1048576) (by omega) (by omega)
  have z := or_zero' (x := x0 * 1048576) (by omega) (by omega)
  (try simp only [m0])
  rw [o0]
  rw [z, z, z]
theorem scat_83 (m : Int) (h0 : 0 ≤ m) (h1 : m < 4294967296) : scat 83 m 4 = m % 32 * 128 + m / 32 % 128 * 33554432 := by
  simp [scat, pF, pC, pA, pcs]
  have b0 : 0 ≤ m % 32 ∧ m % 32 < 32 := by omega
  generalize m % 32 = x0 at *
  have b1 : 0 ≤ m / 32 % 128 ∧ m / 32 % 128 < 128 := by omega
  generalize m / 32 % 128 = x1 at *
  have m0 : x0 * 128 % 4294967296 = x0 * 128 := by omega
  have o0 := zero_or' (x := x0 * 128) (by omega) (by omega)
  have m1 : x1 * 33554432 % 4294967296 = x1 * 33554432 := by omega
  have o1 := or_field (x := x0 * 128) (f := x1) 25 7 (by omega) (by omega) (by omega) (by simp; omega) (by simp; omega) (by omega)
  simp only [Int.reducePow, Nat.reducePow, Int.mul_one, Nat.reduceAdd] at o1
  have z := or_zero' (x := x0 * 128 + x1 * 33554432) (by omega) (by omega)
  (try simp only [m0, m1])
  rw [o0, o1]
  rw [z, z]
theorem scat_66 (m : Int) (h0 : 0 ≤ m) (h1 : m < 4294967296) : scat 66 m 4 = m / 4096 % 2 * 2147483648 + m / 32 % 64 * 33554432 + m / 2 % 16 * 256 + m / 2048 % 2 * 128 := by
  simp [scat, pF, pC, pA, pcs]
  have b0 : 0 ≤ m / 4096 % 2 ∧ m / 4096 % 2 < 2 := by omega
  generalize m / 4096 % 2 = x0 at *
  have b1 : 0 ≤ m / 32 % 64 ∧ m / 32 % 64 < 64 := by omega
  generalize m / 32 % 64 = x1 at *
  have b2 : 0 ≤ m / 2 % 16 ∧ m / 2 % 16 < 16 := by omega
  generalize m / 2 % 16 = x2 at *
  have b3 : 0 ≤ m / 2048 % 2 ∧ m / 2048 % 2 < 2 := by omega
  generalize m / 2048 % 2 = x3 at *
  have m0 : x0 * 2147483648 % 4294967296 = x0 * 2147483648 := by omega
  have o0 := zero_or' (x := x0 * 2147483648) (by omega) (by omega)
  have m1 : x1 * 33554432 % 4294967296 = x1 * 33554432 := by omega
  have o1 := or_field (x := x0 * 2147483648) (f := x1) 25 6 (by omega) (by omega) (by omega) (by simp; omega) (by simp; omega) (by omega)
  simp only [Int.reducePow, Nat.reducePow, Int.mul_one, Nat.reduceAdd] at o1
  have m2 : x2 * 256 % 4294967296 = x2 * 256 := by omega
  have o2 := or_field (x := x0 * 2147483648 + x1 * 33554432) (f := x2) 8 4 (by omega) (by omega) (by omega) (by simp; omega) (by simp; omega) (by omega)
  simp only [Int.reducePow, Nat.reducePow, Int.mul_one, Nat.reduceAdd] at o2
  have m3 : x3 * 128 % 4294967296 = x3 * 128 := by omega
  have o3 := or_field (x := x0 * 2147483648 + x1 * 33554432 + x2 * 256) (f := x3) 7 1 (by omega) (by omega) (by omega) (by simp; omega) (by simp; omega) (by omega)
  simp only [Int.reducePow, Nat.reducePow, Int.mul_one, Nat.reduceAdd] at o3
  have z := or_zero' (x := x0 * 2147483648 + x1 * 33554432 + x2 * 256 + x3 * 128) (by omega) (by omega)
  (try simp only [m0, m1, m2, m3])
  rw [o0, o1, o2, o3]
theorem scat_82 (m : Int) (h0 : 0 ≤ m) (h1 : m < 4294967296) : scat 82 m 4 = 0 := by
  simp [scat, pF, pC, pA, pcs]
  have z := or_zero' (x := 0) (by omega) (by omega)
  simp only [z]
theorem scat_0 (m : Int) (h0 : 0 ≤ m) (h1 : m < 4294967296) : scat 0 m 4 = 0 := by
  simp [scat, pF, pC, pA, pcs]
  have z := or_zero' (x := 0) (by omega) (by omega)
  simp only [z]
theorem gath_85 (m : Int) (h0 : 0 ≤ m) (h1 : m < 4294967296) : gath 85 m 4 = m / 4096 % 1048576 * 4096 := by
  simp [gath, pF, pC, pA, pcs]
  have b0 : 0 ≤ m / 4096 % 1048576 ∧ m / 4096 % 1048576 < 1048576 := by omega
  generalize m / 4096 % 1048576 = x0 at *
  have m0 : x0 * 4096 % 4294967296 = x0 * 4096 := by omega
  have o0 := zero_or' (x := x0 * 4096) (by omega) (by omega)
  have z := or_zero' (x := x0 * 4096) (by omega) (by omega)
  (try simp only [m0])
  rw [o0]
  rw [z, z, z]
theorem gath_74 (m : Int) (h0 : 0 ≤ m) (h1 : m < 4294967296) : gath 74 m 4 = m / 2147483648 % 2 * 1048576 + m / 2097152 % 1024 * 2 + m / 1048576 % 2 * 2048 + m / 4096 % 256 * 4096 := by
  simp [gath, pF, pC, pA, pcs]
  have b0 : 0 ≤ m / 2147483648 % 2 ∧ m / 2147483648 % 2 < 2 := by omega
  generalize m / 2147483648 % 2 = x0 at *
  have b1 : 0 ≤ m / 2097152 % 1024 ∧ m / 2097152 % 1024 < 1024 := by omega
  generalize m / 2097152 % 1024 = x1 at *
  have b2 : 0 ≤ m / 1048576 % 2 ∧ m / 1048576 % 2 < 2 := by omega
  generalize m / 1048576 % 2 = x2 at *
  have b3 : 0 ≤ m / 4096 % 256 ∧ m / 4096 % 256 < 256 := by omega
  generalize m / 4096 % 256 = x3 at *
  have m0 : x0 * 1048576 % 4294967296 = x0 * 1048576 := by omega
  have o0 := zero_or' (x := x0 * 1048576) (by omega) (by omega)
  have m1 : x1 * 2 % 4294967296 = x1 * 2 := by omega
  have o1 := or_field (x := x0 * 1048576) (f := x1) 1 10 (by omega) (by omega) (by omega) (by simp; omega) (by simp; omega) (by omega)
  simp only [Int.reducePow, Nat.reducePow, Int.mul_one, Nat.reduceAdd] at o1
  have m2 : x2 * 2048 % 4294967296 = x2 * 2048 := by omega
  have o2 := or_field (x := x0 * 1048576 + x1 * 2) (f := x2) 11 1 (by omega) (by omega) (by omega) (by simp; omega) (by simp; omega) (by omega)
  simp only [Int.reducePow, Nat.reducePow, Int.mul_one, Nat.reduceAdd] at o2
  have m3 : x3 * 4096 % 4294967296 = x3 * 4096 := by omega
  have o3 := or_field (x := x0 * 1048576 + x1 * 2 + x2 * 2048) (f := x3) 12 8 (by omega) (by omega) (by omega) (by simp; omega) (by simp; omega) (by omega)
  simp only [Int.reducePow, Nat.reducePow, Int.mul_one, Nat.reduceAdd] at o3
  have z := or_zero' (x := x0 * 1048576 + x1 * 2 + x2 * 2048 + x3 * 4096) (by omega) (by omega)
  (try simp only [m0, m1, m2, m3])
  rw [o0, o1, o2, o3]
theorem gath_73 (m : Int) (h0 : 0 ≤ m) (h1 : m < 4294967296) : gath 73 m 4 = m / 1048576 % 4096 := by
  simp [gath, pF, pC, pA, pcs]
  have b0 : 0 ≤ m / 1048576 % 4096 ∧ m / 1048576 % 4096 < 4096 := by omega
  generalize m / 1048576 % 4096 = x0 at *
  have m0 : x0 % 4294967296 = x0 := by omega
  have o0 := zero_or' (x := x0) (by omega) (by omega)
  have z := or_zero' (x := x0) (by omega) (by omega)
  (try simp only [m0])
  rw [o0]
  rw [z, z, z]
theorem gath_72 (m : Int) (h0 : 0 ≤ m) (h1 : m < 4294967296) : gath 72 m 4 = m / 1048576 % 32 := by
  simp [gath, pF, pC, pA, pcs]
  have b0 : 0 ≤ m / 1048576 % 32 ∧ m / 1048576 % 32 < 32 := by omega
  generalize m / 1048576 % 32 = x0 at *
  have m0 : x0 % 4294967296 = x0 := by omega
  have o0 := zero_or' (x := x0) (by omega) (by omega)
  have z := or_zero' (x := x0) (by omega) (by omega)
  (try simp only [m0])
  rw [o0]
  rw [z, z, z]
theorem gath_83 (m : Int) (h0 : 0 ≤ m) (h1 : m < 4294967296) : gath 83 m 4 = m / 128 % 32 + m / 33554432 % 128 * 32 := by
  simp [gath, pF, pC, pA, pcs]
  have b0 : 0 ≤ m / 128 % 32 ∧ m / 128 % 32 < 32 := by omega
  generalize m / 128 % 32 = x0 at *
  have b1 : 0 ≤ m / 33554432 % 128 ∧ m / 33554432 % 128 < 128 := by omega
  generalize m / 33554432 % 128 = x1 at *
  have m0 : x0 % 4294967296 = x0 := by omega
  have o0 := zero_or' (x := x0) (by omega) (by omega)
  have m1 : x1 * 32 % 4294967296 = x1 * 32 := by omega
  have o1 := or_field (x := x0) (f := x1) 5 7 (by omega) (by omega) (by omega) (by simp; omega) (by simp; omega) (by omega)
  simp only [Int.reducePow, Nat.reducePow, Int.mul_one, Nat.reduceAdd] at o1
  have z := or_zero' (x := x0 + x1 * 32) (by omega) (by omega)
  (try simp only [m0, m1])
  rw [o0, o1]
  rw [z, z]
theorem gath_66 (m : Int) (h0 : 0 ≤ m) (h1 : m < 4294967296) : gath 66 m 4 = m / 2147483648 % 2 * 4096 + m / 33554432 % 64 * 32 + m / 256 % 16 * 2 + m / 128 % 2 * 2048 := by
  simp [gath, pF, pC, pA, pcs]
  have b0 : 0 ≤ m / 2147483648 % 2 ∧ m / 2147483648 % 2 < 2 := by omega
  generalize m / 2147483648 % 2 = x0 at *
  have b1 : 0 ≤ m / 33554432 % 64 ∧ m / 33554432 % 64 < 64 := by omega
  generalize m / 33554432 % 64 = x1 at *
  have b2 : 0 ≤ m / 256 % 16 ∧ m / 256 % 16 < 16 := by omega
  generalize m / 256 % 16 = x2 at *
  have b3 : 0 ≤ m / 128 % 2 ∧ m / 128 % 2 < 2 := by omega
  generalize m / 128 % 2 = x3 at *
  have m0 : x0 * 4096 % 4294967296 = x0 * 4096 := by omega
  have o0 := zero_or' (x := x0 * 4096) (by omega) (by omega)
  have m1 : x1 * 32 % 4294967296 = x1 * 32 := by omega
  have o1 := or_field (x := x0 * 4096) (f := x1) 5 6 (by omega) (by omega) (by omega) (by simp; omega) (by simp; omega) (by omega)
  simp only [Int.reducePow, Nat.reducePow, Int.mul_one, Nat.reduceAdd] at o1
  have m2 : x2 * 2 % 4294967296 = x2 * 2 := by omega
  have o2 := or_field (x := x0 * 4096 + x1 * 32) (f := x2) 1 4 (by omega) (by omega) (by omega) (by simp; omega) (by simp; omega) (by omega)
  simp only [Int.reducePow, Nat.reducePow, Int.mul_one, Nat.reduceAdd] at o2
  have m3 : x3 * 2048 % 4294967296 = x3 * 2048 := by omega
  have o3 := or_field (x := x0 * 4096 + x1 * 32 + x2 * 2) (f := x3) 11 1 (by omega) (by omega) (by omega) (by simp; omega) (by simp; omega) (by omega)
  simp only [Int.reducePow, Nat.reducePow, Int.mul_one, Nat.reduceAdd] at o3
  have z := or_zero' (x := x0 * 4096 + x1 * 32 + x2 * 2 + x3 * 2048) (by omega) (by omega)
  (try simp only [m0, m1, m2, m3])
  rw [o0, o1, o2, o3]
theorem gath_82 (m : Int) (h0 : 0 ≤ m) (h1 : m < 4294967296) : gath 82 m 4 = 0 := by
  simp [gath, pF, pC, pA, pcs]
  have z := or_zero' (x := 0) (by omega) (by omega)
  simp only [z]
theorem gath_0 (m : Int) (h0 : 0 ≤ m) (h1 : m < 4294967296) : gath 0 m 4 = 0 := by
  simp [gath, pF, pC, pA, pcs]
  have z := or_zero' (x := 0) (by omega) (by omega)
  simp only [z]

theorem or_assoc' {x y z : Int} (x0 : 0 ≤ x) (x1 : x < 4294967296) (y0 : 0 ≤ y) (y1 : y < 4294967296) (z0 : 0 ≤ z) (z1 : z < 4294967296) :
    bits .or .u32 x (bits .or .u32 y z) = bits .or .u32 (bits .or .u32 x y) z := by
  obtain ⟨X, rfl⟩ : ∃ n : Nat, x = n := ⟨x.toNat, by omega⟩
  obtain ⟨Y, rfl⟩ : ∃ n : Nat, y = n := ⟨y.toNat, by omega⟩
  obtain ⟨Z, rfl⟩ : ∃ n : Nat, z = n := ⟨z.toNat, by omega⟩
  have a : X ||| Y < 2 ^ 32 := Nat.or_lt_two_pow (by omega) (by omega)
  have b : Y ||| Z < 2 ^ 32 := Nat.or_lt_two_pow (by omega) (by omega)
  rw [u32_or_nat Y Z (by omega) (by omega), u32_or_nat X Y (by omega) (by omega), u32_or_nat X (Y ||| Z) (by omega) b, u32_or_nat (X ||| Y) Z a (by omega), Nat.or_assoc]
/-- The codes and the registers as a sum. -/
theorem base_sum {o t s rd r1 r2 : Int} (ho : 0 ≤ o ∧ o < 128) (ht : 0 ≤ t ∧ t < 8) (hs : 0 ≤ s ∧ s < 128) (hd : 0 ≤ rd ∧ rd ≤ 31) (h1 : 0 ≤ r1 ∧ r1 ≤ 31) (h2 : 0 ≤ r2 ∧ r2 ≤ 31) :
    bits .or .u32 (fixF o t s) (bits .or .u32 (bits .or .u32 (rd * 128) (r1 * 32768)) (r2 * 1048576)) = o + t * 4096 + s * 33554432 + rd * 128 + r1 * 32768 + r2 * 1048576 := by
  have a1 := or_field (x := o + t * 4096 + s * 33554432) (f := rd) 7 5 (by omega) (by omega) (by omega) (by simp; omega) (by simp; omega) (by omega)
  have a2 := or_field (x := o + t * 4096 + s * 33554432 + rd * 128) (f := r1) 15 5 (by omega) (by omega) (by omega) (by simp; omega) (by simp; omega) (by omega)
  have a3 := or_field (x := o + t * 4096 + s * 33554432 + rd * 128 + r1 * 32768) (f := r2) 20 5 (by omega) (by omega) (by omega) (by simp; omega) (by simp; omega) (by omega)
  have a4 := or_field (x := rd * 128) (f := r1) 15 5 (by omega) (by omega) (by omega) (by simp; omega) (by simp; omega) (by omega)
  simp only [Int.reducePow, Nat.reducePow, Nat.reduceAdd] at a1 a2 a3 a4
  unfold fixF
  rw [or_assoc' (by omega) (by omega) (by rw [a4]; omega) (by rw [a4]; omega) (by omega) (by omega), or_assoc' (by omega) (by omega) (by omega) (by omega) (by omega) (by omega), a1, a2, a3]
/-- What a word U gives back of codes o, t, s, of registers and of what was scattered, S. -/
def Bk (f o t s rd r1 r2 S U : Int) : Prop :=
  0 ≤ U ∧ U ≤ 4294967295 ∧ U % 128 = o ∧ (has3 f = true → U / 4096 % 8 = t) ∧ (has7 f = true → U / 33554432 = s) ∧
  regV U 7 (uRd f) = rd ∧ regV U 15 (uRs1 f) = r1 ∧ regV U 20 (uRs2 f) = r2 ∧ gath f U 4 = gath f S 4
theorem back_85 {o t s rd r1 r2 m : Int} (ho : 0 ≤ o ∧ o < 128) (ht : 0 ≤ t ∧ t < 8) (hs : 0 ≤ s ∧ s < 128) (n3 : has3 85 = false → t = 0) (n7 : has7 85 = false → s = 0) (hd : regB rd (uRd 85) = true) (h1 : regB r1 (uRs1 85) = true) (h2 : regB r2 (uRs2 85) = true) (m0 : 0 ≤ m) (m1 : m < 4294967296) :
    Bk 85 o t s rd r1 r2 (scat 85 m 4) (bits .or .u32 (bits .or .u32 (fixF o t s) (bits .or .u32 (bits .or .u32 (rd * 128) (r1 * 32768)) (r2 * 1048576))) (scat 85 m 4)) := by
  have d0 := reg_in hd
  have d1 := reg_in h1
  have d2 := reg_in h2
  have e1 : r1 = 0 := by simpa [regB, uRd, uRs1, uRs2] using h1
  have e2 : r2 = 0 := by simpa [regB, uRd, uRs1, uRs2] using h2
  have e3 : t = 0 := n3 rfl
  have e7 : s = 0 := n7 rfl
  rw [base_sum ho ht hs d0 d1 d2, scat_85 m m0 m1]
  clear hd h1 h2 n3 n7
  have b0 : 0 ≤ m / 4096 % 1048576 ∧ m / 4096 % 1048576 < 1048576 := by omega
  generalize m / 4096 % 1048576 = x0 at *
  have q := or_field (x := o + t * 4096 + s * 33554432 + rd * 128 + r1 * 32768 + r2 * 1048576) (f := x0) 12 20 (by omega) (by omega) (by omega) (by simp; omega) (by simp; omega) (by omega)
  simp only [Int.reducePow, Nat.reducePow, Nat.reduceAdd] at q
  rw [q]
  refine ⟨by omega, by omega, by omega, fun h => ?_, fun h => ?_, ?_, ?_, ?_, ?_⟩
  · first | (exact absurd h (by decide)) | omega
  · first | (exact absurd h (by decide)) | omega
  · simp [regV, uRd]; omega
  · simp [regV, uRs1]; omega
  · simp [regV, uRs2]; omega
  · rw [gath_85 _ (by omega) (by omega), gath_85 _ (by omega) (by omega)]
    have g0 : (o + t * 4096 + s * 33554432 + rd * 128 + r1 * 32768 + r2 * 1048576 + x0 * 4096) / 4096 % 1048576 = (x0 * 4096) / 4096 % 1048576 := by omega
    rw [g0]
theorem back_74 {o t s rd r1 r2 m : Int} (ho : 0 ≤ o ∧ o < 128) (ht : 0 ≤ t ∧ t < 8) (hs : 0 ≤ s ∧ s < 128) (n3 : has3 74 = false → t = 0) (n7 : has7 74 = false → s = 0) (hd : regB rd (uRd 74) = true) (h1 : regB r1 (uRs1 74) = true) (h2 : regB r2 (uRs2 74) = true) (m0 : 0 ≤ m) (m1 : m < 4294967296) :
    Bk 74 o t s rd r1 r2 (scat 74 m 4) (bits .or .u32 (bits .or .u32 (fixF o t s) (bits .or .u32 (bits .or .u32 (rd * 128) (r1 * 32768)) (r2 * 1048576))) (scat 74 m 4)) := by
  have d0 := reg_in hd
  have d1 := reg_in h1
  have d2 := reg_in h2
  have e1 : r1 = 0 := by simpa [regB, uRd, uRs1, uRs2] using h1
  have e2 : r2 = 0 := by simpa [regB, uRd, uRs1, uRs2] using h2
  have e3 : t = 0 := n3 rfl
  have e7 : s = 0 := n7 rfl
  rw [base_sum ho ht hs d0 d1 d2, scat_74 m m0 m1]
  clear hd h1 h2 n3 n7
  have b0 : 0 ≤ m / 1048576 % 2 ∧ m / 1048576 % 2 < 2 := by omega
  generalize m / 1048576 % 2 = x0 at *
  have b1 : 0 ≤ m / 2 % 1024 ∧ m / 2 % 1024 < 1024 := by omega
  generalize m / 2 % 1024 = x1 at *
  have b2 : 0 ≤ m / 2048 % 2 ∧ m / 2048 % 2 < 2 := by omega
  generalize m / 2048 % 2 = x2 at *
  have b3 : 0 ≤ m / 4096 % 256 ∧ m / 4096 % 256 < 256 := by omega
  generalize m / 4096 % 256 = x3 at *
  have q := or_field (x := o + t * 4096 + s * 33554432 + rd * 128 + r1 * 32768 + r2 * 1048576) (f := x0 * 524288 + x1 * 512 + x2 * 256 + x3) 12 20 (by omega) (by omega) (by omega) (by simp; omega) (by simp; omega) (by omega)
  simp only [Int.reducePow, Nat.reducePow, Nat.reduceAdd] at q
  rw [show x0 * 2147483648 + x1 * 2097152 + x2 * 1048576 + x3 * 4096 = (x0 * 524288 + x1 * 512 + x2 * 256 + x3) * 4096 by omega, q]
  refine ⟨by omega, by omega, by omega, fun h => ?_, fun h => ?_, ?_, ?_, ?_, ?_⟩
  · first | (exact absurd h (by decide)) | omega
  · first | (exact absurd h (by decide)) | omega
  · simp [regV, uRd]; omega
  · simp [regV, uRs1]; omega
  · simp [regV, uRs2]; omega
  · rw [gath_74 _ (by omega) (by omega), gath_74 _ (by omega) (by omega)]
    have g0 : (o + t * 4096 + s * 33554432 + rd * 128 + r1 * 32768 + r2 * 1048576 + (x0 * 524288 + x1 * 512 + x2 * 256 + x3) * 4096) / 2147483648 % 2 = ((x0 * 524288 + x1 * 512 + x2 * 256 + x3) * 4096) / 2147483648 % 2 := by omega
    have g1 : (o + t * 4096 + s * 33554432 + rd * 128 + r1 * 32768 + r2 * 1048576 + (x0 * 524288 + x1 * 512 + x2 * 256 + x3) * 4096) / 2097152 % 1024 = ((x0 * 524288 + x1 * 512 + x2 * 256 + x3) * 4096) / 2097152 % 1024 := by omega
    have g2 : (o + t * 4096 + s * 33554432 + rd * 128 + r1 * 32768 + r2 * 1048576 + (x0 * 524288 + x1 * 512 + x2 * 256 + x3) * 4096) / 1048576 % 2 = ((x0 * 524288 + x1 * 512 + x2 * 256 + x3) * 4096) / 1048576 % 2 := by omega
    have g3 : (o + t * 4096 + s * 33554432 + rd * 128 + r1 * 32768 + r2 * 1048576 + (x0 * 524288 + x1 * 512 + x2 * 256 + x3) * 4096) / 4096 % 256 = ((x0 * 524288 + x1 * 512 + x2 * 256 + x3) * 4096) / 4096 % 256 := by omega
    rw [g0, g1, g2, g3]
theorem back_73 {o t s rd r1 r2 m : Int} (ho : 0 ≤ o ∧ o < 128) (ht : 0 ≤ t ∧ t < 8) (hs : 0 ≤ s ∧ s < 128) (n3 : has3 73 = false → t = 0) (n7 : has7 73 = false → s = 0) (hd : regB rd (uRd 73) = true) (h1 : regB r1 (uRs1 73) = true) (h2 : regB r2 (uRs2 73) = true) (m0 : 0 ≤ m) (m1 : m < 4294967296) :
    Bk 73 o t s rd r1 r2 (scat 73 m 4) (bits .or .u32 (bits .or .u32 (fixF o t s) (bits .or .u32 (bits .or .u32 (rd * 128) (r1 * 32768)) (r2 * 1048576))) (scat 73 m 4)) := by
  have d0 := reg_in hd
  have d1 := reg_in h1
  have d2 := reg_in h2
  have e2 : r2 = 0 := by simpa [regB, uRd, uRs1, uRs2] using h2
  have e7 : s = 0 := n7 rfl
  rw [base_sum ho ht hs d0 d1 d2, scat_73 m m0 m1]
  clear hd h1 h2 n3 n7
  have b0 : 0 ≤ m % 4096 ∧ m % 4096 < 4096 := by omega
  generalize m % 4096 = x0 at *
  have q := or_field (x := o + t * 4096 + s * 33554432 + rd * 128 + r1 * 32768 + r2 * 1048576) (f := x0) 20 12 (by omega) (by omega) (by omega) (by simp; omega) (by simp; omega) (by omega)
  simp only [Int.reducePow, Nat.reducePow, Nat.reduceAdd] at q
  rw [q]
  refine ⟨by omega, by omega, by omega, fun h => ?_, fun h => ?_, ?_, ?_, ?_, ?_⟩
  · first | (exact absurd h (by decide)) | omega
  · first | (exact absurd h (by decide)) | omega
  · simp [regV, uRd]; omega
  · simp [regV, uRs1]; omega
  · simp [regV, uRs2]; omega
  · rw [gath_73 _ (by omega) (by omega), gath_73 _ (by omega) (by omega)]
    have g0 : (o + t * 4096 + s * 33554432 + rd * 128 + r1 * 32768 + r2 * 1048576 + x0 * 1048576) / 1048576 % 4096 = (x0 * 1048576) / 1048576 % 4096 := by omega
    rw [g0]
theorem back_72 {o t s rd r1 r2 m : Int} (ho : 0 ≤ o ∧ o < 128) (ht : 0 ≤ t ∧ t < 8) (hs : 0 ≤ s ∧ s < 128) (n3 : has3 72 = false → t = 0) (n7 : has7 72 = false → s = 0) (hd : regB rd (uRd 72) = true) (h1 : regB r1 (uRs1 72) = true) (h2 : regB r2 (uRs2 72) = true) (m0 : 0 ≤ m) (m1 : m < 4294967296) :
    Bk 72 o t s rd r1 r2 (scat 72 m 4) (bits .or .u32 (bits .or .u32 (fixF o t s) (bits .or .u32 (bits .or .u32 (rd * 128) (r1 * 32768)) (r2 * 1048576))) (scat 72 m 4)) := by
  have d0 := reg_in hd
  have d1 := reg_in h1
  have d2 := reg_in h2
  have e2 : r2 = 0 := by simpa [regB, uRd, uRs1, uRs2] using h2
  rw [base_sum ho ht hs d0 d1 d2, scat_72 m m0 m1]
  clear hd h1 h2 n3 n7
  have b0 : 0 ≤ m % 32 ∧ m % 32 < 32 := by omega
  generalize m % 32 = x0 at *
  have q := or_field (x := o + t * 4096 + s * 33554432 + rd * 128 + r1 * 32768 + r2 * 1048576) (f := x0) 20 5 (by omega) (by omega) (by omega) (by simp; omega) (by simp; omega) (by omega)
  simp only [Int.reducePow, Nat.reducePow, Nat.reduceAdd] at q
  rw [q]
  refine ⟨by omega, by omega, by omega, fun h => ?_, fun h => ?_, ?_, ?_, ?_, ?_⟩
  · first | (exact absurd h (by decide)) | omega
  · first | (exact absurd h (by decide)) | omega
  · simp [regV, uRd]; omega
  · simp [regV, uRs1]; omega
  · simp [regV, uRs2]; omega
  · rw [gath_72 _ (by omega) (by omega), gath_72 _ (by omega) (by omega)]
    have g0 : (o + t * 4096 + s * 33554432 + rd * 128 + r1 * 32768 + r2 * 1048576 + x0 * 1048576) / 1048576 % 32 = (x0 * 1048576) / 1048576 % 32 := by omega
    rw [g0]
theorem back_83 {o t s rd r1 r2 m : Int} (ho : 0 ≤ o ∧ o < 128) (ht : 0 ≤ t ∧ t < 8) (hs : 0 ≤ s ∧ s < 128) (n3 : has3 83 = false → t = 0) (n7 : has7 83 = false → s = 0) (hd : regB rd (uRd 83) = true) (h1 : regB r1 (uRs1 83) = true) (h2 : regB r2 (uRs2 83) = true) (m0 : 0 ≤ m) (m1 : m < 4294967296) :
    Bk 83 o t s rd r1 r2 (scat 83 m 4) (bits .or .u32 (bits .or .u32 (fixF o t s) (bits .or .u32 (bits .or .u32 (rd * 128) (r1 * 32768)) (r2 * 1048576))) (scat 83 m 4)) := by
  have d0 := reg_in hd
  have d1 := reg_in h1
  have d2 := reg_in h2
  have e0 : rd = 0 := by simpa [regB, uRd, uRs1, uRs2] using hd
  have e7 : s = 0 := n7 rfl
  rw [base_sum ho ht hs d0 d1 d2, scat_83 m m0 m1]
  clear hd h1 h2 n3 n7
  have b0 : 0 ≤ m % 32 ∧ m % 32 < 32 := by omega
  generalize m % 32 = x0 at *
  have b1 : 0 ≤ m / 32 % 128 ∧ m / 32 % 128 < 128 := by omega
  generalize m / 32 % 128 = x1 at *
  have q0 := or_field (x := x0 * 128) (f := x1) 25 7 (by omega) (by omega) (by omega) (by simp; omega) (by simp; omega) (by omega)
  have q1 := or_field (x := o + t * 4096 + s * 33554432 + rd * 128 + r1 * 32768 + r2 * 1048576) (f := x0) 7 5 (by omega) (by omega) (by omega) (by simp; omega) (by simp; omega) (by omega)
  have q2 := or_field (x := o + t * 4096 + s * 33554432 + rd * 128 + r1 * 32768 + r2 * 1048576 + x0 * 128) (f := x1) 25 7 (by omega) (by omega) (by omega) (by simp; omega) (by simp; omega) (by omega)
  simp only [Int.reducePow, Nat.reducePow, Nat.reduceAdd] at q0 q1 q2
  rw [show x0 * 128 + x1 * 33554432 = x0 * 128 + x1 * 33554432 by omega]
  rw [← q0, or_assoc' (by omega) (by omega) (by omega) (by omega) (by omega) (by omega), q1, q2, q0]
  refine ⟨by omega, by omega, by omega, fun h => ?_, fun h => ?_, ?_, ?_, ?_, ?_⟩
  · first | (exact absurd h (by decide)) | omega
  · first | (exact absurd h (by decide)) | omega
  · simp [regV, uRd]; omega
  · simp [regV, uRs1]; omega
  · simp [regV, uRs2]; omega
  · rw [gath_83 _ (by omega) (by omega), gath_83 _ (by omega) (by omega)]
    have g0 : (o + t * 4096 + s * 33554432 + rd * 128 + r1 * 32768 + r2 * 1048576 + x0 * 128 + x1 * 33554432) / 128 % 32 = (x0 * 128 + x1 * 33554432) / 128 % 32 := by omega
    have g1 : (o + t * 4096 + s * 33554432 + rd * 128 + r1 * 32768 + r2 * 1048576 + x0 * 128 + x1 * 33554432) / 33554432 % 128 = (x0 * 128 + x1 * 33554432) / 33554432 % 128 := by omega
    rw [g0, g1]
theorem back_66 {o t s rd r1 r2 m : Int} (ho : 0 ≤ o ∧ o < 128) (ht : 0 ≤ t ∧ t < 8) (hs : 0 ≤ s ∧ s < 128) (n3 : has3 66 = false → t = 0) (n7 : has7 66 = false → s = 0) (hd : regB rd (uRd 66) = true) (h1 : regB r1 (uRs1 66) = true) (h2 : regB r2 (uRs2 66) = true) (m0 : 0 ≤ m) (m1 : m < 4294967296) :
    Bk 66 o t s rd r1 r2 (scat 66 m 4) (bits .or .u32 (bits .or .u32 (fixF o t s) (bits .or .u32 (bits .or .u32 (rd * 128) (r1 * 32768)) (r2 * 1048576))) (scat 66 m 4)) := by
  have d0 := reg_in hd
  have d1 := reg_in h1
  have d2 := reg_in h2
  have e0 : rd = 0 := by simpa [regB, uRd, uRs1, uRs2] using hd
  have e7 : s = 0 := n7 rfl
  rw [base_sum ho ht hs d0 d1 d2, scat_66 m m0 m1]
  clear hd h1 h2 n3 n7
  have b0 : 0 ≤ m / 4096 % 2 ∧ m / 4096 % 2 < 2 := by omega
  generalize m / 4096 % 2 = x0 at *
  have b1 : 0 ≤ m / 32 % 64 ∧ m / 32 % 64 < 64 := by omega
  generalize m / 32 % 64 = x1 at *
  have b2 : 0 ≤ m / 2 % 16 ∧ m / 2 % 16 < 16 := by omega
  generalize m / 2 % 16 = x2 at *
  have b3 : 0 ≤ m / 2048 % 2 ∧ m / 2048 % 2 < 2 := by omega
  generalize m / 2048 % 2 = x3 at *
  have q0 := or_field (x := (x2 * 2 + x3) * 128) (f := (x0 * 64 + x1)) 25 7 (by omega) (by omega) (by omega) (by simp; omega) (by simp; omega) (by omega)
  have q1 := or_field (x := o + t * 4096 + s * 33554432 + rd * 128 + r1 * 32768 + r2 * 1048576) (f := (x2 * 2 + x3)) 7 5 (by omega) (by omega) (by omega) (by simp; omega) (by simp; omega) (by omega)
  have q2 := or_field (x := o + t * 4096 + s * 33554432 + rd * 128 + r1 * 32768 + r2 * 1048576 + (x2 * 2 + x3) * 128) (f := (x0 * 64 + x1)) 25 7 (by omega) (by omega) (by omega) (by simp; omega) (by simp; omega) (by omega)
  simp only [Int.reducePow, Nat.reducePow, Nat.reduceAdd] at q0 q1 q2
  rw [show x0 * 2147483648 + x1 * 33554432 + x2 * 256 + x3 * 128 = (x2 * 2 + x3) * 128 + (x0 * 64 + x1) * 33554432 by omega]
  rw [← q0, or_assoc' (by omega) (by omega) (by omega) (by omega) (by omega) (by omega), q1, q2, q0]
  refine ⟨by omega, by omega, by omega, fun h => ?_, fun h => ?_, ?_, ?_, ?_, ?_⟩
  · first | (exact absurd h (by decide)) | omega
  · first | (exact absurd h (by decide)) | omega
  · simp [regV, uRd]; omega
  · simp [regV, uRs1]; omega
  · simp [regV, uRs2]; omega
  · rw [gath_66 _ (by omega) (by omega), gath_66 _ (by omega) (by omega)]
    have g0 : (o + t * 4096 + s * 33554432 + rd * 128 + r1 * 32768 + r2 * 1048576 + (x2 * 2 + x3) * 128 + (x0 * 64 + x1) * 33554432) / 2147483648 % 2 = ((x2 * 2 + x3) * 128 + (x0 * 64 + x1) * 33554432) / 2147483648 % 2 := by omega
    have g1 : (o + t * 4096 + s * 33554432 + rd * 128 + r1 * 32768 + r2 * 1048576 + (x2 * 2 + x3) * 128 + (x0 * 64 + x1) * 33554432) / 33554432 % 64 = ((x2 * 2 + x3) * 128 + (x0 * 64 + x1) * 33554432) / 33554432 % 64 := by omega
    have g2 : (o + t * 4096 + s * 33554432 + rd * 128 + r1 * 32768 + r2 * 1048576 + (x2 * 2 + x3) * 128 + (x0 * 64 + x1) * 33554432) / 256 % 16 = ((x2 * 2 + x3) * 128 + (x0 * 64 + x1) * 33554432) / 256 % 16 := by omega
    have g3 : (o + t * 4096 + s * 33554432 + rd * 128 + r1 * 32768 + r2 * 1048576 + (x2 * 2 + x3) * 128 + (x0 * 64 + x1) * 33554432) / 128 % 2 = ((x2 * 2 + x3) * 128 + (x0 * 64 + x1) * 33554432) / 128 % 2 := by omega
    rw [g0, g1, g2, g3]
theorem back_82 {o t s rd r1 r2 m : Int} (ho : 0 ≤ o ∧ o < 128) (ht : 0 ≤ t ∧ t < 8) (hs : 0 ≤ s ∧ s < 128) (n3 : has3 82 = false → t = 0) (n7 : has7 82 = false → s = 0) (hd : regB rd (uRd 82) = true) (h1 : regB r1 (uRs1 82) = true) (h2 : regB r2 (uRs2 82) = true) (m0 : 0 ≤ m) (m1 : m < 4294967296) :
    Bk 82 o t s rd r1 r2 (scat 82 m 4) (bits .or .u32 (bits .or .u32 (fixF o t s) (bits .or .u32 (bits .or .u32 (rd * 128) (r1 * 32768)) (r2 * 1048576))) (scat 82 m 4)) := by
  have d0 := reg_in hd
  have d1 := reg_in h1
  have d2 := reg_in h2
  rw [base_sum ho ht hs d0 d1 d2, scat_82 m m0 m1]
  clear hd h1 h2 n3 n7
  rw [or_zero' (by omega) (by omega)]
  refine ⟨by omega, by omega, by omega, fun h => ?_, fun h => ?_, ?_, ?_, ?_, ?_⟩
  · first | (exact absurd h (by decide)) | omega
  · first | (exact absurd h (by decide)) | omega
  · simp [regV, uRd]; omega
  · simp [regV, uRs1]; omega
  · simp [regV, uRs2]; omega
  · rw [gath_82 _ (by omega) (by omega), gath_82 _ (by omega) (by omega)]
theorem back_all {f o t s rd r1 r2 m : Int} (hf : isForm f) (hn : f ≠ 0) (ho : 0 ≤ o ∧ o < 128) (ht : 0 ≤ t ∧ t < 8) (hs : 0 ≤ s ∧ s < 128) (n3 : has3 f = false → t = 0) (n7 : has7 f = false → s = 0) (hd : regB rd (uRd f) = true) (h1 : regB r1 (uRs1 f) = true) (h2 : regB r2 (uRs2 f) = true) (m0 : 0 ≤ m) (m1 : m < 4294967296) :
    Bk f o t s rd r1 r2 (scat f m 4) (bits .or .u32 (bits .or .u32 (fixF o t s) (bits .or .u32 (bits .or .u32 (rd * 128) (r1 * 32768)) (r2 * 1048576))) (scat f m 4)) := by
  rcases hf with rfl | rfl | rfl | rfl | rfl | rfl | rfl | rfl
  · exact back_85 ho ht hs n3 n7 hd h1 h2 m0 m1
  · exact back_74 ho ht hs n3 n7 hd h1 h2 m0 m1
  · exact back_73 ho ht hs n3 n7 hd h1 h2 m0 m1
  · exact back_72 ho ht hs n3 n7 hd h1 h2 m0 m1
  · exact back_83 ho ht hs n3 n7 hd h1 h2 m0 m1
  · exact back_66 ho ht hs n3 n7 hd h1 h2 m0 m1
  · exact back_82 ho ht hs n3 n7 hd h1 h2 m0 m1
  · exact absurd rfl hn
/-- What is encoded is decoded as it was. -/
theorem enc_back {op rd r1 r2 imm : Int} (h : fitsB rd r1 r2 imm (fm (ix op)) = true) :
    ix op ≠ 0 ∧ (ix op : Int) = op ∧ (0 ≤ encW op rd r1 r2 imm ∧ encW op rd r1 r2 imm ≤ 4294967295) ∧ findI (encW op rd r1 r2 imm) = ix op ∧
    regV (encW op rd r1 r2 imm) 7 (uRd (fm (ix op))) = rd ∧ regV (encW op rd r1 r2 imm) 15 (uRs1 (fm (ix op))) = r1 ∧ regV (encW op rd r1 r2 imm) 20 (uRs2 (fm (ix op))) = r2 ∧ gathS (fm (ix op)) (encW op rd r1 r2 imm) = imm := by
  have hk := ix_lt op
  unfold fitsB at h
  simp only [Bool.and_eq_true, bne_iff_ne, beq_iff_eq] at h
  obtain ⟨⟨⟨⟨hn, hd⟩, h1⟩, h2⟩, hi⟩ := h
  have k0 : ix op ≠ 0 := fun e => hn (by rw [e]; rfl)
  have ho : (ix op : Int) = op := by
    by_cases c : 0 ≤ op ∧ op < 46
    · exact ix_in c
    · exact absurd (ix_out c) k0
  have B := back_all (m := imm % 4294967296) (fm_form op) hn (oc_in _ hk) (f3_in _ hk) (f7_in _ hk) (no3 _ hk) (no7 _ hk) hd h1 h2 (by omega) (by omega)
  have e : bits .or .u32 (bits .or .u32 (fixF (oc (ix op)) (f3 (ix op)) (f7 (ix op))) (bits .or .u32 (bits .or .u32 (rd * 128) (r1 * 32768)) (r2 * 1048576))) (scat (fm (ix op)) (imm % 4294967296) 4) = encW op rd r1 r2 imm := by
    unfold encW fixK; rfl
  rw [e] at B
  clear e
  generalize encW op rd r1 r2 imm = U at *
  obtain ⟨b0, b1, b2, b3, b4, b5, b6, b7, b8⟩ := B
  refine ⟨k0, ho, ⟨b0, b1⟩, find_is b0 b1 hk k0 ⟨b2, b3, b4⟩, b5, b6, b7, ?_⟩
  unfold gathS at *
  rw [b8]; exact hi
end Go.Proofs.YtlagdgkjpnocfaaGreatDoor
