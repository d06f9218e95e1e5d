/-
  The contracts of the functions of the formats: which registers, which bits, which pieces, and a few of the document's own answers to them.
-/
import Derived.Test.YtlagdgkjpnocfaaGreatDoorCode
import Derived.Deep.RegionHeld3
namespace Go.Proofs.YtlagdgkjpnocfaaGreatDoor
open Go.RowKit
set_option linter.unusedVariables false

theorem field0 (s a b c d : Value) (w : World) : (Instr.field 80 (.agg #[s, a, b, c, d]) 0).run Tryz.prog w = .ok s w := by kernel_rfl
theorem field1 (s a b c d : Value) (w : World) : (Instr.field 80 (.agg #[s, a, b, c, d]) 1).run Tryz.prog w = .ok a w := by kernel_rfl
theorem c37 (op : Int) (w : World) :
    Calls Tryz.prog 37 #[.int .i64 op] w fun e w' => e = .returned (.string (nm (ix op))) ∧ Grown w w' := by
  have hfi := field0
  go_enter Tryz.func37, Tryz.ntmps37
  go_wp2_with (go_at_call 45; (with_reducible refine (c45 _ _).mono ?_); rintro e w' ⟨rfl, hg⟩; have HG := Lib.hid hg; clear hg)
  go_ret
  exact ⟨rfl, HG.out⟩
theorem c26 (op : Int) (w : World) :
    Calls Tryz.prog 26 #[.int .i64 op] w fun e w' => e = .returned (.int .u8 (fm (ix op))) ∧ Grown w w' := by
  have hfi := field1
  go_enter Tryz.func26, Tryz.ntmps26
  go_wp2_with (go_at_call 45; (with_reducible refine (c45 _ _).mono ?_); rintro e w' ⟨rfl, hg⟩; have HG := Lib.hid hg; clear hg)
  go_ret
  exact ⟨rfl, HG.out⟩
/-- The format of an instruction's number. -/
def formF (x : Int) : Int := if x < 1 ∨ 45 < x then 0 else if x ≤ 2 then 85 else if x = 3 then 74 else if 5 ≤ x ∧ x ≤ 10 then 66 else if 16 ≤ x ∧ x ≤ 18 then 83 else if 25 ≤ x ∧ x ≤ 27 then 72 else if 28 ≤ x then 82 else 73
theorem fm_is : ∀ k : Nat, k < 46 → fm k = formF k := by decide
theorem ix_lt (op : Int) : ix op < 46 := by unfold ix; split <;> omega
theorem ix_in {op : Int} (h : 0 ≤ op ∧ op < 46) : (ix op : Int) = op := by unfold ix; rw [if_pos h]; omega
theorem ix_out {op : Int} (h : ¬ (0 ≤ op ∧ op < 46)) : ix op = 0 := by unfold ix; rw [if_neg h]
theorem fm_ix (op : Int) : fm (ix op) = formF op := by
  rw [fm_is _ (ix_lt op)]
  by_cases h : 0 ≤ op ∧ op < 46
  · rw [ix_in h]
  · rw [ix_out h]; unfold formF; rw [if_pos (by omega), if_pos (by omega)]
set_option maxHeartbeats 2000000 in
theorem c18 (op : Int) (w : World) :
    Calls Tryz.prog 18 #[.int .i64 op] w fun e w' => e = .returned (.int .u8 (fm (ix op))) ∧ w = w' := by
  have F := Lib.hid (fm_ix op)
  have hc : op < 1 ∨ 45 < op ∨ (1 ≤ op ∧ op ≤ 2) ∨ (3 ≤ op ∧ op ≤ 3) ∨ (4 ≤ op ∧ op ≤ 4) ∨ (5 ≤ op ∧ op ≤ 10) ∨ (11 ≤ op ∧ op ≤ 15) ∨ (16 ≤ op ∧ op ≤ 18) ∨ (19 ≤ op ∧ op ≤ 24) ∨ (25 ≤ op ∧ op ≤ 27) ∨ (28 ≤ op ∧ op ≤ 45) := by omega
  rcases hc with hc | hc | ⟨hc, hd⟩ | ⟨hc, hd⟩ | ⟨hc, hd⟩ | ⟨hc, hd⟩ | ⟨hc, hd⟩ | ⟨hc, hd⟩ | ⟨hc, hd⟩ | ⟨hc, hd⟩ | ⟨hc, hd⟩
  all_goals
    go_enter Tryz.func18, Tryz.ntmps18
    go_wp2
    all_goals go_ret
    all_goals
      refine ⟨ret_int ?_, rfl⟩
      rw [F.out]; unfold formF
      repeat' split
      all_goals first | rfl | (exfalso; omega)

theorem ret_bool {a b : Bool} (h : a = b) : Ending.returned (.bool a) = .returned (.bool b) := by rw [h]
/-- A format is one of the seven letters, or 0. -/
def isForm (f : Int) : Prop := f = 85 ∨ f = 74 ∨ f = 73 ∨ f = 72 ∨ f = 83 ∨ f = 66 ∨ f = 82 ∨ f = 0
theorem fm_form (op : Int) : isForm (fm (ix op)) := by
  rw [fm_ix]; unfold isForm formF
  repeat' split
  all_goals simp
theorem fm_form' (k : Nat) (h : k < 46) : isForm (fm k) := by
  rw [fm_is k h]; unfold isForm formF
  repeat' split
  all_goals simp
def uRd (f : Int) : Bool := f == 82 || f == 73 || f == 72 || f == 85 || f == 74
def uRs1 (f : Int) : Bool := f == 82 || f == 73 || f == 72 || f == 83 || f == 66
def uRs2 (f : Int) : Bool := f == 82 || f == 83 || f == 66
theorem c41 (f : Int) (hf : isForm f) (w : World) :
    Calls Tryz.prog 41 #[.int .u8 f] w fun e w' => e = .returned (.tuple #[.bool (uRd f), .bool (uRs1 f), .bool (uRs2 f)]) ∧ w = w' := by
  rcases hf with rfl | rfl | rfl | rfl | rfl | rfl | rfl | rfl
  all_goals
    go_enter Tryz.func41, Tryz.ntmps41
    go_wp2
    go_ret3
    exact ⟨rfl, rfl⟩
def maskF (f : Int) : Int := if f = 82 ∨ f = 72 then 4261412864 + 28672 + 127 else if f = 73 ∨ f = 83 ∨ f = 66 then 28672 + 127 else if f = 85 ∨ f = 74 then 127 else 0
theorem c125 (f : Int) (hf : isForm f) (w : World) :
    Calls Tryz.prog 125 #[.int .u8 f] w fun e w' => e = .returned (.int .u32 (maskF f)) ∧ w = w' := by
  rcases hf with rfl | rfl | rfl | rfl | rfl | rfl | rfl | rfl
  all_goals
    go_enter Tryz.func125, Tryz.ntmps125
    go_wp2
    go_ret
    exact ⟨ret_int (by decide), rfl⟩
def immB (f : Int) : Int := if f = 74 then 21 else if f = 66 then 13 else if f = 73 ∨ f = 83 then 12 else 32
theorem c67 (f : Int) (hf : isForm f) (w : World) :
    Calls Tryz.prog 67 #[.int .u8 f] w fun e w' => e = .returned (.int .i64 (immB f)) ∧ w = w' := by
  rcases hf with rfl | rfl | rfl | rfl | rfl | rfl | rfl | rfl
  all_goals
    go_enter Tryz.func67, Tryz.ntmps67
    go_wp2
    go_ret
    exact ⟨ret_int (by simp [immB]), rfl⟩
/-- Whether a register's number may stand in a field that is used or not. -/
def regB (n : Int) (u : Bool) : Bool := if u then decide (0 ≤ n ∧ n < 32) else decide (n = 0)
theorem c42 (n : Int) (u : Bool) (w : World) :
    Calls Tryz.prog 42 #[.int .i64 n, .bool u] w fun e w' => e = .returned (.bool (regB n u)) ∧ w = w' := by
  cases u
  · go_enter Tryz.func42, Tryz.ntmps42
    go_wp2
    go_ret
    exact ⟨by simp [regB]; rfl, rfl⟩
  · by_cases h : 0 ≤ n
    all_goals
      go_enter Tryz.func42, Tryz.ntmps42
      go_wp2
      go_ret
      exact ⟨ret_bool (by simp [regB]; omega), rfl⟩
def regV (x at_ : Int) (u : Bool) : Int := if u then x / 2 ^ at_.toNat % 32 else 0
theorem c98 (x p : Int) (u : Bool) (h0 : 0 ≤ x) (h1 : x ≤ 4294967295) (hp : p = 7 ∨ p = 15 ∨ p = 20) (w : World) :
    Calls Tryz.prog 98 #[.int .u32 x, .int .i64 p, .bool u] w fun e w' => e = .returned (.int .i64 (regV x p u)) ∧ w = w' := by
  rcases hp with rfl | rfl | rfl <;> cases u
  all_goals
    go_enter Tryz.func98, Tryz.ntmps98
    go_wp2
    go_ret
    exact ⟨ret_int (by simp [regV]), rfl⟩
theorem mask_val {b : Int} (h0 : 0 ≤ b) (h1 : b ≤ 31) : ((2 : Int) ^ b.toNat % 4294967296 - 1) % 4294967296 = 2 ^ b.toNat - 1 := by
  have p := one_le_pow2 b.toNat
  have q : (2 : Int) ^ b.toNat ≤ 2147483648 := by
    have := pw_hi (b := b) h0
    unfold pw at this
    rw [show b % 32 = b by omega] at this
    exact this
  omega
theorem c65 (a b c : Int) (hb0 : 0 ≤ b) (hb : b ≤ 31) (w : World) :
    Calls Tryz.prog 65 #[.agg #[.int .i64 a, .int .i64 b, .int .i64 c]] w fun e w' => e = .returned (.int .u32 (2 ^ b.toNat - 1)) ∧ Grown w w' := by
  have H := Lib.hid (mask_val hb0 hb)
  go_enter Tryz.func65, Tryz.ntmps65
  go_wp2
  go_ret
  exact ⟨ret_int H.out, (Grown.refl _).alloc _ _⟩
/-- An or of bits that do not meet is a sum. -/
theorem nat_or_field (x f k c : Nat) (hx : x / 2 ^ k % 2 ^ c = 0) (hf : f < 2 ^ c) : x ||| f * 2 ^ k = x + f * 2 ^ k := by
  have e1 : x = 2 ^ k * (x / 2 ^ k) + x % 2 ^ k := (Nat.div_add_mod x (2 ^ k)).symm
  have e2 : x / 2 ^ k = 2 ^ c * (x / 2 ^ k / 2 ^ c) := by have := Nat.div_add_mod (x / 2 ^ k) (2 ^ c); omega
  have l : x % 2 ^ k < 2 ^ k := Nat.mod_lt _ (Nat.two_pow_pos k)
  generalize x / 2 ^ k / 2 ^ c = h at e2
  generalize x % 2 ^ k = lo at *
  rw [e2] at e1
  have e3 : x ||| f * 2 ^ k = (2 ^ k * (2 ^ c * h + f)) ||| lo := by
    rw [e1, Nat.two_pow_add_eq_or_of_lt l, Nat.or_assoc, Nat.or_comm lo, ← Nat.or_assoc, Nat.two_pow_add_eq_or_of_lt hf]
    congr 1
    rw [Nat.mul_comm (2 ^ k), Nat.mul_comm (2 ^ k), ← Nat.shiftLeft_eq, ← Nat.shiftLeft_eq, ← Nat.shiftLeft_eq, Nat.shiftLeft_or_distrib]
  rw [e3, ← Nat.two_pow_add_eq_or_of_lt l, e1, Nat.mul_add, Nat.mul_comm f]
  omega
theorem or_field {x f : Int} (k c : Nat) (h0 : 0 ≤ x) (h1 : x < 4294967296) (g0 : 0 ≤ f) (hx : x / 2 ^ k % 2 ^ c = 0) (hf : f < 2 ^ c) (hk : k + c ≤ 32) : bits .or .u32 x (f * 2 ^ k) = x + f * 2 ^ k := by
  obtain ⟨X, rfl⟩ : ∃ n : Nat, x = n := ⟨x.toNat, by omega⟩
  obtain ⟨F, rfl⟩ : ∃ n : Nat, f = n := ⟨f.toNat, by omega⟩
  have hf' : F < 2 ^ c := by exact_mod_cast hf
  have hlt : F * 2 ^ k < 4294967296 := by
    have a1 : F * 2 ^ k < 2 ^ c * 2 ^ k := Nat.mul_lt_mul_of_pos_right hf' (Nat.two_pow_pos k)
    rw [← Nat.pow_add] at a1
    have a2 : 2 ^ (c + k) ≤ 2 ^ 32 := Nat.pow_le_pow_right (by omega) (by omega)
    omega
  have hx' : X / 2 ^ k % 2 ^ c = 0 := by exact_mod_cast hx
  have e := u32_or_nat X (F * 2 ^ k) (by omega) hlt
  rw [nat_or_field X F k c hx' hf'] at e
  simpa using e
theorem and_mask {x : Int} (c : Nat) (h0 : 0 ≤ x) (h1 : x < 4294967296) (hc : c ≤ 31) : bits .and .u32 x (2 ^ c - 1) = x % 2 ^ c := by
  obtain ⟨X, rfl⟩ : ∃ n : Nat, x = n := ⟨x.toNat, by omega⟩
  have p : 1 ≤ 2 ^ c := Nat.one_le_two_pow
  have q : 2 ^ c ≤ 2 ^ 31 := Nat.pow_le_pow_right (by omega) hc
  have e : ((2 : Int) ^ c - 1) = ((2 ^ c - 1 : Nat) : Int) := by
    rw [Int.natCast_sub p]; simp
  rw [e, u32_and_nat X (2 ^ c - 1) (by omega) (by omega), Nat.and_two_pow_sub_one_eq_mod]
  simp
end Go.Proofs.YtlagdgkjpnocfaaGreatDoor
