/-
  A number as text (layer 6's Num), the document's own.
-/
import Derived.Test.YtdhagimcffmdfaaDoorQBldF
namespace Go.Proofs.YtdhagimcffmdfaaDoor
open Go.RowKit
set_option linter.unusedVariables false
set_option linter.unusedSimpArgs false
theorem digit_of (r : Nat) (h : r < 10) : (⟨#[48, 49, 50, 51, 52, 53, 54, 55, 56, 57]⟩ : ByteArray).extract r (r + 1) = ⟨#[UInt8.ofNat (48 + r)]⟩ := by
  have : ∀ r : Fin 10, (⟨#[48, 49, 50, 51, 52, 53, 54, 55, 56, 57]⟩ : ByteArray).extract r.1 (r.1 + 1) = ⟨#[UInt8.ofNat (48 + r.1)]⟩ := by decide
  exact this ⟨r, h⟩
theorem dec_step {m : Nat} (h : 10 ≤ m) : Lib.decDigits m = Lib.decDigits (m / 10) ++ [UInt8.ofNat (48 + m % 10)] := by
  rw [Lib.decDigits, dif_neg (by omega)]
theorem dec_len (u : Nat) (hu : u ≤ 9223372036854775807) : (Lib.decDigits u).length ≤ 21 := by
  have := Lib.itoa_length_le u (by omega) (by omega)
  rwa [Lib.itoa_nonneg] at this
/-- What is written so far, with m still to be written. -/
def NumS (u m : Nat) (s : List UInt8) : Prop := (0 < m → Lib.decDigits u = Lib.decDigits m ++ s) ∧ (m = 0 → s = Lib.decDigits u)
theorem NumS.start (u : Nat) : NumS u (u / 10) [UInt8.ofNat (48 + u % 10)] := by
  by_cases h : u < 10
  · refine ⟨fun h2 => absurd h2 (by omega), fun _ => ?_⟩
    rw [Lib.decDigits_one h, Nat.mod_eq_of_lt h]
  · exact ⟨fun _ => dec_step (by omega), fun h2 => absurd h2 (by omega)⟩
theorem NumS.next {u m : Nat} {s : List UInt8} (h : NumS u m s) (hm : 0 < m) : NumS u (m / 10) (UInt8.ofNat (48 + m % 10) :: s) := by
  have e := h.1 hm
  by_cases h10 : m < 10
  · refine ⟨fun h2 => absurd h2 (by omega), fun _ => ?_⟩
    rw [e, Lib.decDigits_one h10, Nat.mod_eq_of_lt h10]
    rfl
  · refine ⟨fun _ => ?_, fun h2 => absurd h2 (by omega)⟩
    rw [e, dec_step (by omega), List.append_assoc]
    rfl
theorem NumS.len {u m : Nat} {s : List UInt8} (h : NumS u m s) (hu : u ≤ 9223372036854775807) : s.length ≤ 21 := by
  have hl := dec_len u hu
  by_cases hm : 0 < m
  · rw [h.1 hm, List.length_append] at hl; omega
  · rw [h.2 (by omega)]; exact hl
theorem slice_dig (r : Nat) (h : r < 10) (w : World) : (Instr.slice 9 (.string ⟨#[48, 49, 50, 51, 52, 53, 54, 55, 56, 57]⟩) (some (.int .i64 (r : Int))) (some (.int .i64 ((r : Int) + 1))) none).run Tryd.prog w = .ok (.string ⟨#[UInt8.ofNat (48 + r)]⟩) w := by
  rw [run_slice_string w 9 _ _ _ _ _ Tryd.underlying9 (by omega) (by omega) (by show (r : Int) + 1 ≤ 10; omega)]
  rw [show (r : Int).toNat = r by omega, show ((r : Int) + 1).toNat = r + 1 by omega, digit_of r h]
theorem str_cons (c : UInt8) (s : List UInt8) : (⟨#[c]⟩ : ByteArray) ++ ⟨s.toArray⟩ = ⟨(c :: s).toArray⟩ := by
  rw [show (⟨#[c]⟩ : ByteArray) = ⟨[c].toArray⟩ from rfl, str_app]
  rfl
set_option maxRecDepth 100000 in
set_option maxHeartbeats 4000000 in
theorem num_pos (u : Nat) (hu : u ≤ 9223372036854775807) (w : World) : Calls Tryd.prog 42 #[.int .i64 u] w fun e w' => e = .returned (.string ⟨(Lib.decDigits u).toArray⟩) ∧ w' = w := by
  have hs : ∀ w : World, (Instr.slice 9 (.string ⟨#[48, 49, 50, 51, 52, 53, 54, 55, 56, 57]⟩) (some (.int .i64 ((u : Int) % 10))) (some (.int .i64 ((u : Int) % 10 + 1))) none).run Tryd.prog w = .ok (.string ⟨#[UInt8.ofNat (48 + u % 10)]⟩) w := fun w => by
    have := slice_dig (u % 10) (Nat.mod_lt _ (by decide)) w
    simpa using this
  have H0 := Lib.hid (NumS.start u)
  obtain ⟨d0, hd0⟩ : ∃ d, (⟨#[UInt8.ofNat (48 + u % 10)]⟩ : ByteArray) = d := ⟨_, rfl⟩
  rw [hd0] at hs
  have HD := Lib.hid hd0
  clear hd0
  go_enter Tryd.func42, Tryd.ntmps42
  go_wp2
  go_loopw [4, 5] (fun v q wr => ∃ (m : Nat) (s : List UInt8), v = .string ⟨s.toArray⟩ ∧ q = .int .i64 m ∧ m ≤ u ∧ wr = w ∧ Hid (NumS u m s)) (fun _ q _ => (intOf q).toNat)
  case atStart => exact ⟨u / 10, [UInt8.ofNat (48 + u % 10)], by rw [← HD.out], by simp, Nat.div_le_self _ _, rfl, H0⟩
  case round =>
    obtain ⟨m, s, rfl, rfl, hm, rfl, HW⟩ := hrel
    by_cases hp : 0 < m
    · have hs2 : ∀ w : World, (Instr.slice 9 (.string ⟨#[48, 49, 50, 51, 52, 53, 54, 55, 56, 57]⟩) (some (.int .i64 ((m : Int) % 10))) (some (.int .i64 ((m : Int) % 10 + 1))) none).run Tryd.prog w = .ok (.string ⟨#[UInt8.ofNat (48 + m % 10)]⟩) w := fun w => by
        have := slice_dig (m % 10) (Nat.mod_lt _ (by decide)) w
        simpa using this
      have HV := Lib.hid (HW.out.next hp)
      have hl := HW.out.len hu
      have HC := Lib.hid (str_cons (UInt8.ofNat (48 + m % 10)) s)
      obtain ⟨S, hS⟩ : ∃ S : ByteArray, (⟨s.toArray⟩ : ByteArray) = S := ⟨_, rfl⟩
      have hl2 : S.size ≤ 21 := by rw [← hS]; exact hl
      obtain ⟨d1, hd1⟩ : ∃ d, (⟨#[UInt8.ofNat (48 + m % 10)]⟩ : ByteArray) = d := ⟨_, rfl⟩
      have hl3 : d1.size = 1 := by rw [← hd1]; rfl
      rw [hS, hd1] at HC
      rw [hd1] at hs2
      rw [hS]
      clear hl hd1 hS
      go_wp2
      go_roundw
      case rel => exact ⟨m / 10, UInt8.ofNat (48 + m % 10) :: s, by rw [HC.out], by simp, by omega, trivial, HV⟩
      case measure => simp [intOf]; omega
    · have e := Lib.hid (HW.out.2 (by omega))
      have hz1 : decide (0 < m) = false := decide_eq_false hp
      have hz2 : decide ((0 : Int) < (m : Int)) = false := decide_eq_false (by omega)
      have hz3 : ¬ (0 : Int) < (m : Int) := by omega
      go_wp2
      go_ret
      exact ⟨by rw [e.out]; rfl, rfl⟩
set_option maxRecDepth 100000 in
set_option maxHeartbeats 4000000 in
/-- Any number as text. -/
theorem num_any (n : Int) (h0 : -9223372036854775807 ≤ n) (h1 : n ≤ 9223372036854775807) (w : World) : Calls Tryd.prog 42 #[.int .i64 n] w fun e w' => e = .returned (.string ⟨(Lib.itoa n).toArray⟩) ∧ w' = w := by
  by_cases hn : n < 0
  · obtain ⟨u, hu⟩ : ∃ u : Nat, n = -(u : Int) := ⟨n.natAbs, by omega⟩
    subst hu
    have hu1 : 1 ≤ u := by omega
    have HP := Lib.hid (num_pos u (by omega))
    have hl := dec_len u (by omega)
    have HC := Lib.hid (str_cons 45 (Lib.decDigits u))
    rw [Lib.itoa_neg u hu1]
    obtain ⟨S, hS⟩ : ∃ S : ByteArray, (⟨(Lib.decDigits u).toArray⟩ : ByteArray) = S := ⟨_, rfl⟩
    have hl2 : S.size ≤ 21 := by rw [← hS]; exact hl
    rw [hS] at HC HP
    have HE := Lib.hid HC.out.symm
    clear hl hS HC
    have hng : IntKind.i64.wrap (-(-(u : Int))) = (u : Int) := by rw [Int.neg_neg]; exact IntWalk.i64_in _ (by omega)
    go_enter Tryd.func42, Tryd.ntmps42
    go_wp2_with (go_at_call 42; (with_reducible refine (HP.out _).mono ?_); rintro e w2 ⟨rfl, rfl⟩)
    go_ret
    exact ⟨by rw [HE.out]; rfl, rfl⟩
  · obtain ⟨u, rfl⟩ : ∃ u : Nat, n = (u : Int) := ⟨n.toNat, by omega⟩
    rw [Lib.itoa_nonneg]
    exact num_pos u (by omega) w
end Go.Proofs.YtdhagimcffmdfaaDoor
