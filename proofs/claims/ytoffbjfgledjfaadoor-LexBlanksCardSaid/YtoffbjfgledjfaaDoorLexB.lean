/-
  Tokens (layer 7): how many bytes, from the first one on, are of a class.
-/
import Derived.Test.YtoffbjfgledjfaaDoorLexA
namespace Go.Proofs.YtoffbjfgledjfaaDoor
open Go.RowKit
set_option linter.unusedVariables false
set_option linter.unusedSimpArgs false
def spanN (p : Int → Bool) (l : List UInt8) : Nat := (l.takeWhile (fun b => p (b.toNat : Int))).length
theorem spanN_le (p : Int → Bool) (l : List UInt8) : spanN p l ≤ l.length := by
  unfold spanN; exact (List.takeWhile_sublist _).length_le
theorem spanN_split (p : Int → Bool) (a b : List UInt8) (h : ∀ x ∈ a, p (x.toNat : Int) = true) : spanN p (a ++ b) = a.length + spanN p b := by
  unfold spanN
  induction a with
  | nil => simp
  | cons x a ih =>
    have hx := h x (by simp)
    simp only [List.cons_append, List.takeWhile_cons, hx, if_true, List.length_cons, ih (fun y hy => h y (by simp [hy]))]
    omega
theorem span_at (p : Int → Bool) (s : ByteArray) {k : Nat} (hk : k < s.size) (h : p ((s[k]'hk).toNat : Int) = false) (hn : ∀ j (hj : j < s.size), j < k → p ((s[j]'hj).toNat : Int) = true) : spanN p s.data.toList = k := by
  have hl : s.data.toList.length = s.size := by cases s; rfl
  have e : s.data.toList = s.data.toList.take k ++ s.data.toList.drop k := (List.take_append_drop _ _).symm
  rw [e, spanN_split]
  · have hd : s.data.toList.drop k = s[k] :: s.data.toList.drop (k + 1) := by
      rw [List.drop_eq_getElem_cons (by omega)]; rfl
    rw [hd]; simp [spanN, h]; omega
  · intro x hx
    obtain ⟨j, hj, rfl⟩ := List.mem_iff_getElem.1 hx
    simp at hj
    have := hn j (by omega) (by omega)
    simp only [List.getElem_take, Array.getElem_toList]; exact this
theorem span_all (p : Int → Bool) (s : ByteArray) (hn : ∀ j (hj : j < s.size), j < s.size → p ((s[j]'hj).toNat : Int) = true) : spanN p s.data.toList = s.size := by
  have hl : s.data.toList.length = s.size := by cases s; rfl
  have e : s.data.toList = s.data.toList ++ [] := by simp
  rw [e, spanN_split]
  · simp [spanN, hl]
  · intro x hx
    obtain ⟨j, hj, rfl⟩ := List.mem_iff_getElem.1 hx
    have := hn j (by omega) (by omega)
    simp only [Array.getElem_toList]; exact this
def SpanP (p : Int → Bool) (s : ByteArray) (w : World) (e : Ending) (w' : World) : Prop := e = .returned (.int .i64 (spanN p s.data.toList)) ∧ w = w'
theorem span_yes (p : Int → Bool) (s : ByteArray) (w : World) {k : Nat} (hk : k < s.size) (h : p ((s[k]'hk).toNat : Int) = false) (hn : ∀ j (hj : j < s.size), j < k → p ((s[j]'hj).toNat : Int) = true) : SpanP p s w (.returned (.int .i64 k)) w := by
  unfold SpanP; rw [span_at p s hk h hn]; exact ⟨rfl, rfl⟩
theorem span_end (p : Int → Bool) (s : ByteArray) (w : World) (hn : ∀ j (hj : j < s.size), j < s.size → p ((s[j]'hj).toNat : Int) = true) : SpanP p s w (.returned (.int .i64 s.size)) w := by
  unfold SpanP; rw [span_all p s hn]; exact ⟨rfl, rfl⟩
set_option maxHeartbeats 4000000 in
theorem span_blank (s : ByteArray) (w : World) (hs : s.size ≤ maxLen) :
    Calls Tryd.prog 23 #[.string s, .func (.func 24) #[] #[]] w (SpanP blankB s w) := by
  unfold maxLen at hs
  have HY := Lib.hid (fun (k : Nat) (hk : k < s.size) => @span_yes blankB s w k hk)
  have HE := Lib.hid (span_end blankB s w)
  go_enter Tryd.func23, Tryd.ntmps23
  go_wp2
  go_loop [8, 5] (fun q _ => ∃ k : Nat, k ≤ s.size ∧ q = .int .i64 k ∧ Hid (∀ j (hj : j < s.size), j < k → blankB ((s[j]'hj).toNat : Int) = true)) (fun q _ => s.size - (intOf q).toNat)
  case atStart => exact ⟨0, Nat.zero_le _, rfl, Lib.hid (fun j hj h => by omega)⟩
  case round =>
    obtain ⟨k, hk, rfl, HW⟩ := hrel
    by_cases hlt : k < s.size
    · have t0 : (0 : Int) ≤ k := by omega
      have t1 : (k : Int) < s.size := by omega
      cases hP : blankB ((s[k]'hlt).toNat : Int) with
      | true =>
        have HQ := Lib.hid hP
        have HC := Lib.hid (c24 ((s[k]'hlt).toNat : Int) w)
        rw [hP] at HC
        clear hP
        go_wp2_with (go_at_call 24; (with_reducible refine (HC.out).mono ?_); rintro e w' ⟨rfl, rfl⟩)
        go_round
        case rel => exact ⟨k + 1, by omega, by go_num, Lib.hid (fun j hj h => by
          by_cases hjk : j < k
          · exact HW.out j hj hjk
          · obtain rfl : j = k := by omega
            exact HQ.out)⟩
        case measure => simp [intOf]; omega
      | false =>
        have HQ := Lib.hid hP
        have HC := Lib.hid (c24 ((s[k]'hlt).toNat : Int) w)
        rw [hP] at HC
        clear hP
        go_wp2_with (go_at_call 24; (with_reducible refine (HC.out).mono ?_); rintro e w' ⟨rfl, rfl⟩)
        go_ret
        exact HY.out k hlt HQ.out HW.out
    · obtain rfl : k = s.size := by omega
      go_wp2
      go_ret
      exact HE.out HW.out
set_option maxHeartbeats 4000000 in
theorem span_part (s : ByteArray) (w : World) (hs : s.size ≤ maxLen) :
    Calls Tryd.prog 23 #[.string s, .func (.func 36) #[] #[]] w (SpanP partB s w) := by
  unfold maxLen at hs
  have HY := Lib.hid (fun (k : Nat) (hk : k < s.size) => @span_yes partB s w k hk)
  have HE := Lib.hid (span_end partB s w)
  go_enter Tryd.func23, Tryd.ntmps23
  go_wp2
  go_loop [8, 5] (fun q _ => ∃ k : Nat, k ≤ s.size ∧ q = .int .i64 k ∧ Hid (∀ j (hj : j < s.size), j < k → partB ((s[j]'hj).toNat : Int) = true)) (fun q _ => s.size - (intOf q).toNat)
  case atStart => exact ⟨0, Nat.zero_le _, rfl, Lib.hid (fun j hj h => by omega)⟩
  case round =>
    obtain ⟨k, hk, rfl, HW⟩ := hrel
    by_cases hlt : k < s.size
    · have t0 : (0 : Int) ≤ k := by omega
      have t1 : (k : Int) < s.size := by omega
      cases hP : partB ((s[k]'hlt).toNat : Int) with
      | true =>
        have HQ := Lib.hid hP
        have HC := Lib.hid (c36 ((s[k]'hlt).toNat : Int) w)
        rw [hP] at HC
        clear hP
        go_wp2_with (go_at_call 36; (with_reducible refine (HC.out).mono ?_); rintro e w' ⟨rfl, rfl⟩)
        go_round
        case rel => exact ⟨k + 1, by omega, by go_num, Lib.hid (fun j hj h => by
          by_cases hjk : j < k
          · exact HW.out j hj hjk
          · obtain rfl : j = k := by omega
            exact HQ.out)⟩
        case measure => simp [intOf]; omega
      | false =>
        have HQ := Lib.hid hP
        have HC := Lib.hid (c36 ((s[k]'hlt).toNat : Int) w)
        rw [hP] at HC
        clear hP
        go_wp2_with (go_at_call 36; (with_reducible refine (HC.out).mono ?_); rintro e w' ⟨rfl, rfl⟩)
        go_ret
        exact HY.out k hlt HQ.out HW.out
    · obtain rfl : k = s.size := by omega
      go_wp2
      go_ret
      exact HE.out HW.out
set_option maxHeartbeats 4000000 in
theorem span_digit (s : ByteArray) (w : World) (hs : s.size ≤ maxLen) :
    Calls Tryd.prog 23 #[.string s, .func (.func 27) #[] #[]] w (SpanP digB s w) := by
  unfold maxLen at hs
  have HY := Lib.hid (fun (k : Nat) (hk : k < s.size) => @span_yes digB s w k hk)
  have HE := Lib.hid (span_end digB s w)
  go_enter Tryd.func23, Tryd.ntmps23
  go_wp2
  go_loop [8, 5] (fun q _ => ∃ k : Nat, k ≤ s.size ∧ q = .int .i64 k ∧ Hid (∀ j (hj : j < s.size), j < k → digB ((s[j]'hj).toNat : Int) = true)) (fun q _ => s.size - (intOf q).toNat)
  case atStart => exact ⟨0, Nat.zero_le _, rfl, Lib.hid (fun j hj h => by omega)⟩
  case round =>
    obtain ⟨k, hk, rfl, HW⟩ := hrel
    by_cases hlt : k < s.size
    · have t0 : (0 : Int) ≤ k := by omega
      have t1 : (k : Int) < s.size := by omega
      cases hP : digB ((s[k]'hlt).toNat : Int) with
      | true =>
        have HQ := Lib.hid hP
        have HC := Lib.hid (c27 ((s[k]'hlt).toNat : Int) w)
        rw [hP] at HC
        clear hP
        go_wp2_with (go_at_call 27; (with_reducible refine (HC.out).mono ?_); rintro e w' ⟨rfl, rfl⟩)
        go_round
        case rel => exact ⟨k + 1, by omega, by go_num, Lib.hid (fun j hj h => by
          by_cases hjk : j < k
          · exact HW.out j hj hjk
          · obtain rfl : j = k := by omega
            exact HQ.out)⟩
        case measure => simp [intOf]; omega
      | false =>
        have HQ := Lib.hid hP
        have HC := Lib.hid (c27 ((s[k]'hlt).toNat : Int) w)
        rw [hP] at HC
        clear hP
        go_wp2_with (go_at_call 27; (with_reducible refine (HC.out).mono ?_); rintro e w' ⟨rfl, rfl⟩)
        go_ret
        exact HY.out k hlt HQ.out HW.out
    · obtain rfl : k = s.size := by omega
      go_wp2
      go_ret
      exact HE.out HW.out
set_option maxHeartbeats 4000000 in
theorem span_hex (s : ByteArray) (w : World) (hs : s.size ≤ maxLen) :
    Calls Tryd.prog 23 #[.string s, .func (.func 38) #[] #[]] w (SpanP hexB s w) := by
  unfold maxLen at hs
  have HY := Lib.hid (fun (k : Nat) (hk : k < s.size) => @span_yes hexB s w k hk)
  have HE := Lib.hid (span_end hexB s w)
  go_enter Tryd.func23, Tryd.ntmps23
  go_wp2
  go_loop [8, 5] (fun q _ => ∃ k : Nat, k ≤ s.size ∧ q = .int .i64 k ∧ Hid (∀ j (hj : j < s.size), j < k → hexB ((s[j]'hj).toNat : Int) = true)) (fun q _ => s.size - (intOf q).toNat)
  case atStart => exact ⟨0, Nat.zero_le _, rfl, Lib.hid (fun j hj h => by omega)⟩
  case round =>
    obtain ⟨k, hk, rfl, HW⟩ := hrel
    by_cases hlt : k < s.size
    · have t0 : (0 : Int) ≤ k := by omega
      have t1 : (k : Int) < s.size := by omega
      cases hP : hexB ((s[k]'hlt).toNat : Int) with
      | true =>
        have HQ := Lib.hid hP
        have HC := Lib.hid (c38 ((s[k]'hlt).toNat : Int) w)
        rw [hP] at HC
        clear hP
        go_wp2_with (go_at_call 38; (with_reducible refine (HC.out).mono ?_); rintro e w' ⟨rfl, rfl⟩)
        go_round
        case rel => exact ⟨k + 1, by omega, by go_num, Lib.hid (fun j hj h => by
          by_cases hjk : j < k
          · exact HW.out j hj hjk
          · obtain rfl : j = k := by omega
            exact HQ.out)⟩
        case measure => simp [intOf]; omega
      | false =>
        have HQ := Lib.hid hP
        have HC := Lib.hid (c38 ((s[k]'hlt).toNat : Int) w)
        rw [hP] at HC
        clear hP
        go_wp2_with (go_at_call 38; (with_reducible refine (HC.out).mono ?_); rintro e w' ⟨rfl, rfl⟩)
        go_ret
        exact HY.out k hlt HQ.out HW.out
    · obtain rfl : k = s.size := by omega
      go_wp2
      go_ret
      exact HE.out HW.out
end Go.Proofs.YtoffbjfgledjfaaDoor
