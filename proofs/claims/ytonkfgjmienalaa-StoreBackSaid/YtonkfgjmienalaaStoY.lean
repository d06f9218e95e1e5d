/-
  Memories (layer 11): bytes that were put, read back.
-/
import Derived.Test.YtonkfgjmienalaaStoX
namespace Go.Proofs.Ytonkfgjmienalaa
open Go.RowKit Go.Maps
set_option linter.unusedVariables false
set_option linter.unusedSimpArgs false
theorem nat_or_field (x f k c : Nat) (hx : x / 2 ^ k % 2 ^ c = 0) (hf : f < 2 ^ c) : x ||| f * 2 ^ k = x + f * 2 ^ k := by
  have e1 : x = 2 ^ k * (x / 2 ^ k) + x % 2 ^ k := (Nat.div_add_mod x (2 ^ k)).symm
  have e2 : x / 2 ^ k = 2 ^ c * (x / 2 ^ k / 2 ^ c) := by have := Nat.div_add_mod (x / 2 ^ k) (2 ^ c); omega
  have l : x % 2 ^ k < 2 ^ k := Nat.mod_lt _ (Nat.two_pow_pos k)
  generalize x / 2 ^ k / 2 ^ c = h at e2
  generalize x % 2 ^ k = lo at *
  rw [e2] at e1
  have e3 : x ||| f * 2 ^ k = (2 ^ k * (2 ^ c * h + f)) ||| lo := by
    rw [e1, Nat.two_pow_add_eq_or_of_lt l, Nat.or_assoc, Nat.or_comm lo, ← Nat.or_assoc, Nat.two_pow_add_eq_or_of_lt hf]
    congr 1
    rw [Nat.mul_comm (2 ^ k), Nat.mul_comm (2 ^ k), ← Nat.shiftLeft_eq, ← Nat.shiftLeft_eq, ← Nat.shiftLeft_eq, Nat.shiftLeft_or_distrib]
  rw [e3, ← Nat.two_pow_add_eq_or_of_lt l, e1, Nat.mul_add, Nat.mul_comm f]
  omega
theorem or_field {x f : Int} (k c : Nat) (h0 : 0 ≤ x) (h1 : x < 4294967296) (g0 : 0 ≤ f) (hx : x / 2 ^ k % 2 ^ c = 0) (hf : f < 2 ^ c) (hk : k + c ≤ 32) : bits .or .u32 x (f * 2 ^ k) = x + f * 2 ^ k := by
  obtain ⟨X, rfl⟩ : ∃ n : Nat, x = n := ⟨x.toNat, by omega⟩
  obtain ⟨F, rfl⟩ : ∃ n : Nat, f = n := ⟨f.toNat, by omega⟩
  have hf' : F < 2 ^ c := by exact_mod_cast hf
  have hlt : F * 2 ^ k < 4294967296 := by
    have a1 : F * 2 ^ k < 2 ^ c * 2 ^ k := Nat.mul_lt_mul_of_pos_right hf' (Nat.two_pow_pos k)
    rw [← Nat.pow_add] at a1
    have a2 : 2 ^ (c + k) ≤ 2 ^ 32 := Nat.pow_le_pow_right (by omega) (by omega)
    omega
  have hx' : X / 2 ^ k % 2 ^ c = 0 := by exact_mod_cast hx
  have e := u32_or_nat X (F * 2 ^ k) (by omega) hlt
  rw [nat_or_field X F k c hx' hf'] at e
  simpa using e
theorem byt_0 (u : Int) : byt u 0 = u % 256 := by unfold byt; rw [IntKind.wrap_u8]; simp
theorem byt_1 (u : Int) : byt u 1 = u / 256 % 256 := by unfold byt; rw [IntKind.wrap_u8]; simp
theorem byt_2 (u : Int) : byt u 2 = u / 65536 % 256 := by unfold byt; rw [IntKind.wrap_u8]; simp
theorem byt_3 (u : Int) : byt u 3 = u / 16777216 % 256 := by unfold byt; rw [IntKind.wrap_u8]; simp
theorem lds (x v : Int) (k : Nat) (p : Int) (hp : (2 : Int) ^ (8 * k) = p) (hk : k ≤ 3) (h0 : 0 ≤ x) (h1 : x < p) (v0 : 0 ≤ v) (v1 : v < 256) (hq : p * 256 ≤ 4294967296) (hp0 : 0 < p) : ldS x v k = x + v * p := by
  unfold ldS
  have e : v % 4294967296 = v := by omega
  have hv : v * p ≤ 255 * p := Int.mul_le_mul_of_nonneg_right (by omega) (by omega)
  have hv0 : 0 ≤ v * p := Int.mul_nonneg v0 (by omega)
  have e2 : v * p % 4294967296 = v * p := by omega
  rw [e, hp, e2, ← hp]
  exact or_field (8 * k) 8 h0 (by omega) v0 (by rw [hp, Int.ediv_eq_zero_of_lt h0 h1]; rfl) (by omega) (by omega)
/-- The word that four bytes make is the word of which they are. -/
theorem ld_back {bs : List BC} {off : Nat} {u : Int} (hu : 0 ≤ u ∧ u < 4294967296) (h : ∀ i, i < 4 → bs.getD (off + i) bc0 = ⟨byt u i, true⟩) : ldN bs off 4 = u := by
  show ldS (ldS (ldS (ldS 0 (bs.getD (off + 0) bc0).v 0) (bs.getD (off + 1) bc0).v 1) (bs.getD (off + 2) bc0).v 2) (bs.getD (off + 3) bc0).v 3 = u
  rw [h 0 (by decide), h 1 (by decide), h 2 (by decide), h 3 (by decide)]
  simp only []
  rw [byt_0, byt_1, byt_2, byt_3]
  rw [lds 0 (u % 256) 0 1 (by decide) (by decide) (by decide) (by decide) (by omega) (by omega) (by decide) (by decide)]
  rw [lds (0 + u % 256 * 1) (u / 256 % 256) 1 256 (by decide) (by decide) (by omega) (by omega) (by omega) (by omega) (by decide) (by decide)]
  rw [lds (0 + u % 256 * 1 + u / 256 % 256 * 256) (u / 65536 % 256) 2 65536 (by decide) (by decide) (by omega) (by omega) (by omega) (by omega) (by decide) (by decide)]
  rw [lds (0 + u % 256 * 1 + u / 256 % 256 * 256 + u / 65536 % 256 * 65536) (u / 16777216 % 256) 3 16777216 (by decide) (by decide) (by omega) (by omega) (by omega) (by omega) (by decide) (by decide)]
  omega
theorem putB_get (bs : List BC) (off : Nat) (u : Int) (n : Nat) (h : off + n ≤ bs.length) (j : Nat) : (putB bs off u n).getD j bc0 = if off ≤ j ∧ j < off + n then ⟨byt u (j - off), true⟩ else bs.getD j bc0 := by
  induction n with
  | zero => rw [if_neg (by omega)]; rfl
  | succ n ih =>
    show ((putB bs off u n).set (off + n) ⟨byt u n, true⟩).getD j bc0 = _
    rw [set_getD (by rw [putB_len]; omega), ih (by omega)]
    by_cases e : j = off + n
    · rw [if_pos e, if_pos (by omega), show j - off = n by omega]
    · rw [if_neg e]
      by_cases e2 : off ≤ j ∧ j < off + n
      · rw [if_pos e2, if_pos (by omega)]
      · rw [if_neg e2, if_neg (by omega)]
/-- Two words side by side, read back. -/
theorem two_back (bs : List BC) (at_ : Nat) (u v : Int) (h : at_ + 8 ≤ bs.length) : (∀ i, i < 4 → (putB (putB bs at_ u 4) (at_ + 4) v 4).getD (at_ + i) bc0 = ⟨byt u i, true⟩) ∧ (∀ i, i < 4 → (putB (putB bs at_ u 4) (at_ + 4) v 4).getD (at_ + 4 + i) bc0 = ⟨byt v i, true⟩) := by
  refine ⟨fun i hi => ?_, fun i hi => ?_⟩
  · rw [putB_get _ _ _ _ (by rw [putB_len]; omega), if_neg (by omega), putB_get _ _ _ _ (by omega), if_pos (by omega), show at_ + i - at_ = i by omega]
  · rw [putB_get _ _ _ _ (by rw [putB_len]; omega), if_pos (by omega), show at_ + 4 + i - (at_ + 4) = i by omega]
end Go.Proofs.Ytonkfgjmienalaa
