/-
  The contracts of the document's own machine (layer 3), begun: set, wrap, taken, Size, in, part, Reckon.
-/
import Derived.Test.YthhahfggbjegmaaGreatQDevR
import Derived.Test.YthhahfggbjegmaaGreatQRefM
namespace Go.Proofs.YthhahfggbjegmaaGreat
open Go.RowKit
set_option linter.unusedVariables false
set_option linter.unusedSimpArgs false
theorem rm_set (rb gb r : Nat) (v v0 : Int) (hr : r < 32) (w : World) (hx : w.cell? ⟨rb, 3, none⟩ = some (.slice (some ⟨gb, 0, none⟩) 32 32)) (hc : w.cell? ⟨gb, r, none⟩ = some (.int .u32 v0)) (hf : w.frozen? ⟨gb, r, none⟩ = false) :
    Calls Tryz.prog 43 #[.pointer (some ⟨rb, 0, none⟩), .int .i64 r, .int .u32 v] w fun e w' => e = .returned (.tuple #[]) ∧ w' = setW w gb r v := by
  have h1 : (r : Int) < 32 := by omega
  by_cases h : r = 0
  · subst h
    go_enter Tryz.func43, Tryz.ntmps43
    go_wp2
    go_end0
    exact ⟨rfl, rfl⟩
  · have e : setW w gb r v = w.setCell ⟨gb, r, none⟩ (.int .u32 v) := by unfold setW; rw [if_neg h]
    rw [e]
    have h0 : (0 : Int) < r := by omega
    clear e
    go_enter Tryz.func43, Tryz.ntmps43
    go_wp2
    go_end0
    exact ⟨rfl, rfl⟩
theorem rm_wrap (n : Int) (h0 : -9223372036854775808 ≤ n) (h1 : n ≤ 9223372036854775807) (w : World) :
    Calls Tryz.prog 42 #[.int .i64 n] w fun e w' => e = .returned (.int .i64 (n % 4294967296)) ∧ w = w' := by
  go_enter Tryz.func42, Tryz.ntmps42
  go_wp2_with (go_at_call 44; (with_reducible refine (c44 n h0 h1 _).mono ?_); rintro e w' ⟨rfl, rfl⟩)
  go_ret
  exact ⟨rfl, rfl⟩
theorem hold7 (a b : Int) : decide (sg a < sg b) = holdsF 7 a b := by
  unfold holdsF lessF
  by_cases h : sg a < sg b <;> simp [h]
theorem hold8 (a b : Int) : decide (sg b ≤ sg a) = holdsF 8 a b := by
  unfold holdsF lessF
  by_cases h : sg a < sg b
  · have : ¬ sg b ≤ sg a := by omega
    simp [h, this]
  · have : sg b ≤ sg a := by omega
    simp [h, this]
theorem hold9 (a b : Int) : decide (a < b) = holdsF 9 a b := by
  unfold holdsF lessUF
  by_cases h : a < b <;> simp [h]
theorem hold10 (a b : Int) : decide (b ≤ a) = holdsF 10 a b := by
  unfold holdsF lessUF
  by_cases h : a < b
  · have : ¬ b ≤ a := by omega
    simp [h, this]
  · have : b ≤ a := by omega
    simp [h, this]
theorem rm_taken (op a b : Int) (ho : 5 ≤ op ∧ op ≤ 10) (a0 : 0 ≤ a) (a1 : a ≤ 4294967295) (b0 : 0 ≤ b) (b1 : b ≤ 4294967295) (w : World) :
    Calls Tryz.prog 45 #[.int .i64 op, .int .u32 a, .int .u32 b] w fun e w' => e = .returned (.bool (holdsF op a b)) ∧ w = w' := by
  have hc : op = 5 ∨ op = 6 ∨ op = 7 ∨ op = 8 ∨ op = 9 ∨ op = 10 := by omega
  have H7 := Lib.hid (hold7 a b)
  have H8 := Lib.hid (hold8 a b)
  have H9 := Lib.hid (hold9 a b)
  have H10 := Lib.hid (hold10 a b)
  rcases hc with rfl | rfl | rfl | rfl | rfl | rfl
  all_goals
    clear ho
    go_enter Tryz.func45, Tryz.ntmps45
    go_wp2_with (first
      | (go_at_call 68; (with_reducible refine (c68 a a0 a1 _).mono ?_); rintro e w' ⟨rfl, rfl⟩)
      | (go_at_call 68; (with_reducible refine (c68 b b0 b1 _).mono ?_); rintro e w' ⟨rfl, rfl⟩))
    go_ret
    first | exact ⟨rfl, rfl⟩ | exact ⟨ret_bool H7.out, rfl⟩ | exact ⟨ret_bool H8.out, rfl⟩ | exact ⟨ret_bool H9.out, rfl⟩ | exact ⟨ret_bool H10.out, rfl⟩
theorem rm_size (op : Int) (ho : 11 ≤ op ∧ op ≤ 18) (w : World) :
    Calls Tryz.prog 69 #[.int .i64 op] w fun e w' => e = .returned (.int .i64 (sizeF op)) ∧ w = w' := by
  have hc : op = 11 ∨ op = 12 ∨ op = 13 ∨ op = 14 ∨ op = 15 ∨ op = 16 ∨ op = 17 ∨ op = 18 := by omega
  rcases hc with rfl | rfl | rfl | rfl | rfl | rfl | rfl | rfl
  all_goals
    clear ho
    go_enter Tryz.func69, Tryz.ntmps69
    go_wp2
    go_ret
    exact ⟨rfl, rfl⟩
theorem place_yes {n : Nat} {a s : Int} (hs : s = 1 ∨ s = 2 ∨ s = 4) (h1 : 268435456 ≤ a) (h2 : a + s ≤ 268435456 + n) (h3 : a % s = 0) : placeF n a s = true := by
  unfold placeF
  rw [if_neg (by omega), if_neg (by omega), beq_iff_eq]
  rcases hs with rfl | rfl | rfl <;> omega
theorem place_no {n : Nat} {a s : Int} (hs : s = 1 ∨ s = 2 ∨ s = 4) (h : a < 268435456 ∨ 268435456 + n < a + s ∨ a % s ≠ 0) : placeF n a s = false := by
  unfold placeF
  split
  · rfl
  split
  · rfl
  · rw [beq_eq_false_iff_ne]
    rcases hs with rfl | rfl | rfl <;> omega
theorem rm_in (rb n : Nat) (da : Option Addr) (dc : Nat) (a s : Int) (hs : s = 1 ∨ s = 2 ∨ s = 4) (hn : n ≤ 65536) (a0 : 0 ≤ a) (a1 : a ≤ 4294967295) (w : World) (hx : w.cell? ⟨rb, 1, none⟩ = some (.slice da n dc)) :
    Calls Tryz.prog 70 #[.pointer (some ⟨rb, 0, none⟩), .int .i64 a, .int .i64 s] w fun e w' => e = .returned (.bool (placeF n a s)) ∧ w = w' := by
  by_cases h3 : a % s = 0
  · by_cases h1 : 268435456 ≤ a
    · by_cases h2 : a + s ≤ 268435456 + n
      · rw [place_yes hs h1 h2 h3]
        rcases hs with rfl | rfl | rfl
        all_goals
          go_enter Tryz.func70, Tryz.ntmps70
          go_wp2
          go_ret
          exact ⟨rfl, rfl⟩
      · rw [place_no hs (.inr (.inl (by omega)))]
        have h2' : decide (a + s ≤ 268435456 + (n : Int)) = false := decide_eq_false h2
        rcases hs with rfl | rfl | rfl
        all_goals
          go_enter Tryz.func70, Tryz.ntmps70
          go_wp2
          go_ret
          exact ⟨rfl, rfl⟩
    · rw [place_no hs (.inl (by omega))]
      have h1' : decide (268435456 ≤ a) = false := decide_eq_false h1
      rcases hs with rfl | rfl | rfl
      all_goals
        go_enter Tryz.func70, Tryz.ntmps70
        go_wp2
        go_ret
        exact ⟨rfl, rfl⟩
  · rw [place_no hs (.inr (.inr h3))]
    have h3' : (a % s == 0) = false := by rw [beq_eq_false_iff_ne]; exact h3
    rcases hs with rfl | rfl | rfl
    · omega
    all_goals
      go_enter Tryz.func70, Tryz.ntmps70
      go_wp2
      go_ret
      exact ⟨rfl, rfl⟩
theorem rm_part (op a b : Int) (ho : 38 ≤ op ∧ op ≤ 45) (a0 : 0 ≤ a) (a1 : a ≤ 4294967295) (b0 : 0 ≤ b) (b1 : b ≤ 4294967295) (w : World) :
    Calls Tryz.prog 78 #[.int .i64 op, .int .u32 a, .int .u32 b] w fun e w' => e = .returned (.int .u32 (multF op a b)) ∧ w = w' := by
  have hc : op = 38 ∨ op = 39 ∨ op = 40 ∨ op = 41 ∨ op = 42 ∨ op = 43 ∨ op = 44 ∨ op = 45 := by omega
  rcases hc with rfl | rfl | rfl | rfl | rfl | rfl | rfl | rfl
  all_goals
    clear ho
    go_enter Tryz.func78, Tryz.ntmps78
    go_wp2_with (first
      | (go_at_call 99; (with_reducible refine (c99 a b a0 a1 b0 b1 _).mono ?_); rintro e w' ⟨rfl, rfl⟩)
      | (go_at_call 100; (with_reducible refine (c100 a b a0 a1 b0 b1 _).mono ?_); rintro e w' ⟨rfl, rfl⟩)
      | (go_at_call 101; (with_reducible refine (c101 a b a0 a1 b0 b1 _).mono ?_); rintro e w' ⟨rfl, rfl⟩)
      | (go_at_call 102; (with_reducible refine (c102 a b a0 a1 b0 b1 _).mono ?_); rintro e w' ⟨rfl, rfl⟩)
      | (go_at_call 103; (with_reducible refine (c103 a b a0 a1 b0 b1 _).mono ?_); rintro e w' ⟨rfl, rfl⟩)
      | (go_at_call 104; (with_reducible refine (c104 a b a0 a1 b0 b1 _).mono ?_); rintro e w' ⟨rfl, rfl⟩)
      | (go_at_call 105; (with_reducible refine (c105 a b a0 a1 b0 b1 _).mono ?_); rintro e w' ⟨rfl, rfl⟩)
      | (go_at_call 106; (with_reducible refine (c106 a b a0 a1 b0 b1 _).mono ?_); rintro e w' ⟨rfl, rfl⟩))
    go_ret
    exact ⟨rfl, rfl⟩
end Go.Proofs.YthhahfggbjegmaaGreat
