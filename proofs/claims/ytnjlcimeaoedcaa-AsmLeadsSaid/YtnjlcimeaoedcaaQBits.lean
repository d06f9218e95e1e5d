/-
  Plain facts on words of instructions: which number's codes stand in a word is settled by its fields; at most one number's do.
-/
import Derived.Test.YtnjlcimeaoedcaaQFind
namespace Go.Proofs.Ytnjlcimeaoedcaa
open Go.RowKit
set_option linter.unusedVariables false

def has3 (f : Int) : Bool := f == 82 || f == 72 || f == 73 || f == 83 || f == 66
def has7 (f : Int) : Bool := f == 82 || f == 72
theorem and_nat_7 (x : Nat) : x &&& 127 = x % 128 := Nat.and_two_pow_sub_one_eq_mod x 7
theorem and_nat_3 (x : Nat) : x &&& 28672 = x % 32768 / 4096 * 4096 := nat_midmask 15 12 x (by decide)
theorem and_nat_f (x : Nat) : x &&& 4261412864 = x % 4294967296 / 33554432 * 33554432 := nat_midmask 32 25 x (by decide)
theorem and_nat_10 (x : Nat) : x &&& 28799 = x % 128 + x / 4096 % 8 * 4096 := by
  have e : (28799 : Nat) = 28672 ||| 127 := by decide
  rw [e, Nat.and_or_distrib_left, and_nat_7, and_nat_3]
  have h := nat_or_field (x % 128) (x / 4096 % 8) 12 3 (by simp; omega) (by simp; omega)
  rw [Nat.or_comm] at h
  have g : x % 32768 / 4096 * 4096 = x / 4096 % 8 * 2 ^ 12 := by simp; omega
  rw [g, h]
theorem and_nat_17 (x : Nat) (hx : x < 4294967296) : x &&& 4261441663 = x % 128 + x / 4096 % 8 * 4096 + x / 33554432 * 33554432 := by
  have e : (4261441663 : Nat) = 4261412864 ||| 28799 := by decide
  rw [e, Nat.and_or_distrib_left, and_nat_10, and_nat_f]
  have h := nat_or_field (x % 128 + x / 4096 % 8 * 4096) (x / 33554432) 25 7 (by simp; omega) (by simp; omega)
  rw [Nat.or_comm] at h
  have g : x % 4294967296 / 33554432 * 33554432 = x / 33554432 * 2 ^ 25 := by simp; omega
  rw [g, h]
theorem and_mask_form (u : Int) (h0 : 0 ≤ u) (h1 : u ≤ 4294967295) (f : Int) (hf : isForm f) (hn : f ≠ 0) :
    bits .and .u32 u (maskF f) = u % 128 + (if has3 f then u / 4096 % 8 * 4096 else 0) + (if has7 f then u / 33554432 * 33554432 else 0) := by
  obtain ⟨x, rfl⟩ : ∃ n : Nat, u = n := ⟨u.toNat, by omega⟩
  have a1 := u32_and_nat x 127 (by omega) (by omega)
  have a2 := u32_and_nat x 28799 (by omega) (by omega)
  have a3 := u32_and_nat x 4261441663 (by omega) (by omega)
  rw [and_nat_7] at a1
  rw [and_nat_10] at a2
  rw [and_nat_17 x (by omega)] at a3
  simp at a1 a2 a3
  rcases hf with rfl | rfl | rfl | rfl | rfl | rfl | rfl | rfl
  · simpa [maskF, has3, has7] using a1
  · simpa [maskF, has3, has7] using a1
  · simpa [maskF, has3, has7] using a2
  · simpa [maskF, has3, has7] using a3
  · simpa [maskF, has3, has7] using a2
  · simpa [maskF, has3, has7] using a2
  · simpa [maskF, has3, has7] using a3
  · exact absurd rfl hn
theorem fm_pos : ∀ k : Nat, k < 46 → k ≠ 0 → fm k ≠ 0 := by decide
theorem no3 : ∀ k : Nat, k < 46 → has3 (fm k) = false → f3 k = 0 := by decide
theorem no7 : ∀ k : Nat, k < 46 → has7 (fm k) = false → f7 k = 0 := by decide
/-- The fields of a word are the codes of number k. -/
def Mt (u : Int) (k : Nat) : Prop := u % 128 = oc k ∧ (has3 (fm k) = true → u / 4096 % 8 = f3 k) ∧ (has7 (fm k) = true → u / 33554432 = f7 k)
theorem mB_iff (u : Int) (h0 : 0 ≤ u) (h1 : u ≤ 4294967295) (k : Nat) (hk : k < 46) : mB u k = true ↔ k ≠ 0 ∧ Mt u k := by
  unfold mB Mt
  by_cases h : k = 0
  · subst h; simp
  · rw [and_mask_form u h0 h1 (fm k) (fm_form' k hk) (fm_pos k hk h)]
    obtain ⟨o0, o1⟩ := oc_in k hk
    obtain ⟨t0, t1⟩ := f3_in k hk
    obtain ⟨s0, s1⟩ := f7_in k hk
    have n3 := no3 k hk
    have n7 := no7 k hk
    unfold fixK fixF
    cases c3 : has3 (fm k) <;> cases c7 : has7 (fm k) <;> simp [h, c3, c7] at n3 n7 ⊢ <;> omega
def apartB (j k : Nat) : Bool := j == 0 || k == 0 || oc j != oc k || (has3 (fm k) && f3 j != f3 k) || (has7 (fm j) && has7 (fm k) && f7 j != f7 k) || j == k
theorem apart_all : ((List.range 46).all fun j => (List.range 46).all fun k => apartB j k) = true := by decide +kernel
theorem codes_apart (j : Nat) (hj : j < 46) (k : Nat) (hk : k < 46) (j0 : j ≠ 0) (k0 : k ≠ 0) (e : oc j = oc k) (e3 : has3 (fm k) = true → f3 j = f3 k) (e7 : has7 (fm j) = true → has7 (fm k) = true → f7 j = f7 k) : j = k := by
  have h := apart_all
  rw [List.all_eq_true] at h
  have h1 := h j (by simpa using hj)
  rw [List.all_eq_true] at h1
  have h2 := h1 k (by simpa using hk)
  unfold apartB at h2
  simp only [Bool.or_eq_true, Bool.and_eq_true, bne_iff_ne, beq_iff_eq] at h2
  rcases h2 with ((((h | h) | h) | ⟨h, g⟩) | ⟨⟨h, g⟩, f⟩) | h
  · exact absurd h j0
  · exact absurd h k0
  · exact absurd e h
  · exact absurd (e3 h) g
  · exact absurd (e7 h g) f
  · exact h
theorem same3 : ∀ j : Nat, j < 46 → ∀ k : Nat, k < 46 → j ≠ 0 → k ≠ 0 → oc j = oc k → has3 (fm j) = has3 (fm k) := by decide +kernel
theorem Mt_one {u : Int} {j k : Nat} (hj : j < 46) (hk : k < 46) (j0 : j ≠ 0) (k0 : k ≠ 0) (a : Mt u j) (b : Mt u k) : j = k := by
  obtain ⟨a1, a2, a3⟩ := a
  obtain ⟨b1, b2, b3⟩ := b
  have e : oc j = oc k := by rw [← a1, b1]
  refine codes_apart j hj k hk j0 k0 e (fun h => ?_) (fun h h' => ?_)
  · rw [← a2 (by rw [same3 j hj k hk j0 k0 e]; exact h), b2 h]
  · rw [← a3 h, b3 h']
/-- The number whose codes stand in a word is found. -/
theorem find_is {u : Int} (h0 : 0 ≤ u) (h1 : u ≤ 4294967295) {k : Nat} (hk : k < 46) (k0 : k ≠ 0) (m : Mt u k) : findI u = k := by
  refine find_first hk (fun j hj => ?_) ((mB_iff u h0 h1 k hk).mpr ⟨k0, m⟩)
  cases hb : mB u j with
  | false => rfl
  | true =>
    obtain ⟨j0, mj⟩ := (mB_iff u h0 h1 j (by omega)).mp hb
    have := Mt_one (by omega) hk j0 k0 mj m
    omega
/-- What is found stands in the word. -/
theorem find_mt {u : Int} (h0 : 0 ≤ u) (h1 : u ≤ 4294967295) {k : Nat} (h : findI u = k) (k0 : k ≠ 0) : k < 46 ∧ Mt u k := by
  unfold findI at h
  cases e : (List.range 46).find? (mB u) with
  | none => rw [e] at h; simp at h; exact absurd h.symm k0
  | some x =>
    rw [e] at h
    simp at h
    subst h
    have hx : x < 46 := by simpa using List.mem_of_find?_eq_some e
    exact ⟨hx, ((mB_iff u h0 h1 x hx).mp (List.find?_some e)).2⟩
end Go.Proofs.Ytnjlcimeaoedcaa
