/-
  The contracts of place and read (layer 3): where in the data an address lies. The contract of read (layer 3): the number in one, two or four bytes of the data.
-/
import Derived.Test.YtipfefkddnogjaaDevA
import Derived.Outline
namespace Go.Proofs.Ytipfefkddnogjaa
open Go.RowKit
set_option linter.unusedVariables false
set_option linter.unusedSimpArgs false
/-- May size bytes be read at an address of n bytes of data? -/
def placeF (n : Nat) (at' size : Int) : Bool :=
  if at' < 268435456 then false else if (n : Int) - size < at' - 268435456 then false else (at' - 268435456) % size == 0
theorem c100 (b : Nat) (d : Option Addr) (n : Nat) (c : Nat) (a s : Int) (a0 : 0 ≤ a) (a1 : a ≤ 4294967295) (hs : s = 1 ∨ s = 2 ∨ s = 4) (hn : n ≤ 65536) (w : World)
    (hd : w.cell? ⟨b, 36, none⟩ = some (.slice d n c)) :
    Calls Try.prog 100 #[.pointer (some ⟨b, 0, none⟩), .int .u32 a, .int .i64 s] w fun e w' => e = .returned (.tuple #[.int .i64 (a - 268435456), .bool (placeF n a s)]) ∧ ∃ k, w' = w.drewN k := by
  by_cases h1 : a < 268435456
  · have e : placeF n a s = false := by unfold placeF; rw [if_pos h1]
    rw [e]
    have hA : decide (268435456 ≤ a) = false := decide_eq_false (by omega)
    clear hd
    rcases hs with rfl | rfl | rfl
    all_goals
      go_enter Try.func100, Try.ntmps100
      go_wp2
      go_quiet (fail)
      go_wp2
      go_ret2
      exact ⟨rfl, _, rfl⟩
  · by_cases h2 : (n : Int) - s < a - 268435456
    · have e : placeF n a s = false := by unfold placeF; rw [if_neg h1, if_pos h2]
      rw [e]
      have hw : IntKind.i64.wrap ((n : Int) - s) = (n : Int) - s := by
        rcases hs with rfl | rfl | rfl <;> (rw [IntKind.wrap_i64]; omega)
      have hB : decide (a - 268435456 ≤ IntKind.i64.wrap ((n : Int) - s)) = false := decide_eq_false (by rw [hw]; omega)
      clear hw
      rcases hs with rfl | rfl | rfl
      all_goals
        go_enter Try.func100, Try.ntmps100
        go_wp2
        go_quiet (fail)
        go_wp2
        go_ret2
        exact ⟨rfl, _, rfl⟩
    · have e : placeF n a s = ((a - 268435456) % s == 0) := by unfold placeF; rw [if_neg h1, if_neg h2]
      rw [e]
      rcases hs with rfl | rfl | rfl
      all_goals
        go_enter Try.func100, Try.ntmps100
        go_wp2
        go_quiet (fail)
        go_wp2
        go_ret2
        first | exact ⟨rfl, _, rfl⟩ | exact ⟨by rw [Int.emod_one]; rfl, _, rfl⟩
def le1 (x : Int) : Int := bits .or .u32 0 x
def le2 (x y : Int) : Int := bits .or .u32 (le1 x) (y * 256)
def le4 (x y z u : Int) : Int := bits .or .u32 (bits .or .u32 (le2 x y) (z * 65536)) (u * 16777216)
theorem c92_out (b : Nat) (d : Option Addr) (n : Nat) (c : Nat) (a s : Int) (a0 : 0 ≤ a) (a1 : a ≤ 4294967295) (hs : s = 1 ∨ s = 2 ∨ s = 4) (hn : n ≤ 65536) (w : World)
    (hd : w.cell? ⟨b, 36, none⟩ = some (.slice d n c)) (hp : placeF n a s = false) :
    Calls Try.prog 92 #[.pointer (some ⟨b, 0, none⟩), .int .u32 a, .int .i64 s] w fun e w' => e = .returned (.tuple #[.int .u32 0, .bool false]) ∧ ∃ k, w' = w.drewN k := by
  go_enter Try.func92, Try.ntmps92
  go_wp2_with (go_at_call 100; (with_reducible refine (c100 b d n c a s a0 a1 hs hn _ hd).mono ?_); rintro e w' ⟨rfl, k, rfl⟩; rw [hp])
  go_ret2
  exact ⟨rfl, _, rfl⟩
set_option maxHeartbeats 1000000 in
theorem c92_1 (b : Nat) (db off : Nat) (n : Nat) (c : Nat) (k : Nat) (x : Int) (x0 : 0 ≤ x) (x1 : x ≤ 255) (hn : n ≤ 65536) (w : World)
    (hd : w.cell? ⟨b, 36, none⟩ = some (.slice (some ⟨db, off, none⟩) n c)) (hp : placeF n (268435456 + k) 1 = true) (hk : k + 1 ≤ n)
    (hx : w.cell? ⟨db, off + k, none⟩ = some (.int .u8 x)) :
    Calls Try.prog 92 #[.pointer (some ⟨b, 0, none⟩), .int .u32 (268435456 + k), .int .i64 1] w fun e w' => e = .returned (.tuple #[.int .u32 (le1 x), .bool true]) ∧ ∃ k, w' = w.drewN k := by
  go_enter Try.func92, Try.ntmps92
  go_wp2_with (go_at_call 100; (with_reducible refine (c100 b _ n c _ 1 (by omega) (by omega) (.inl rfl) hn _ hd).mono ?_); rintro e w' ⟨rfl, j, rfl⟩; rw [hp])
  refine wp_loop_rounds 2 ?_
  rw [rounds_succ]; go_wp2
  rw [rounds_succ]; go_wp2
  go_ret2
  exact ⟨rfl, _, rfl⟩
set_option maxHeartbeats 1000000 in
theorem c92_2 (b : Nat) (db off : Nat) (n : Nat) (c : Nat) (k : Nat) (x y : Int) (x0 : 0 ≤ x) (x1 : x ≤ 255) (y0 : 0 ≤ y) (y1 : y ≤ 255) (hn : n ≤ 65536) (w : World)
    (hd : w.cell? ⟨b, 36, none⟩ = some (.slice (some ⟨db, off, none⟩) n c)) (hp : placeF n (268435456 + k) 2 = true) (hk : k + 2 ≤ n)
    (hx : w.cell? ⟨db, off + k, none⟩ = some (.int .u8 x)) (hy : w.cell? ⟨db, off + (k + 1), none⟩ = some (.int .u8 y)) :
    Calls Try.prog 92 #[.pointer (some ⟨b, 0, none⟩), .int .u32 (268435456 + k), .int .i64 2] w fun e w' => e = .returned (.tuple #[.int .u32 (le2 x y), .bool true]) ∧ ∃ k, w' = w.drewN k := by
  go_enter Try.func92, Try.ntmps92
  go_wp2_with (go_at_call 100; (with_reducible refine (c100 b _ n c _ 2 (by omega) (by omega) (.inr (.inl rfl)) hn _ hd).mono ?_); rintro e w' ⟨rfl, j, rfl⟩; rw [hp])
  refine wp_loop_rounds 3 ?_
  rw [rounds_succ]; go_wp2
  rw [rounds_succ]; go_wp2
  rw [rounds_succ]; go_wp2
  go_ret2
  exact ⟨rfl, _, rfl⟩
set_option maxHeartbeats 1000000 in
theorem c92_4 (b : Nat) (db off : Nat) (n : Nat) (c : Nat) (k : Nat) (x y z u : Int) (x0 : 0 ≤ x) (x1 : x ≤ 255) (y0 : 0 ≤ y) (y1 : y ≤ 255) (z0 : 0 ≤ z) (z1 : z ≤ 255) (u0 : 0 ≤ u) (u1 : u ≤ 255) (hn : n ≤ 65536) (w : World)
    (hd : w.cell? ⟨b, 36, none⟩ = some (.slice (some ⟨db, off, none⟩) n c)) (hp : placeF n (268435456 + k) 4 = true) (hk : k + 4 ≤ n)
    (hx : w.cell? ⟨db, off + k, none⟩ = some (.int .u8 x)) (hy : w.cell? ⟨db, off + (k + 1), none⟩ = some (.int .u8 y)) (hz : w.cell? ⟨db, off + (k + 2), none⟩ = some (.int .u8 z)) (hu : w.cell? ⟨db, off + (k + 3), none⟩ = some (.int .u8 u)) :
    Calls Try.prog 92 #[.pointer (some ⟨b, 0, none⟩), .int .u32 (268435456 + k), .int .i64 4] w fun e w' => e = .returned (.tuple #[.int .u32 (le4 x y z u), .bool true]) ∧ ∃ k, w' = w.drewN k := by
  go_enter Try.func92, Try.ntmps92
  go_wp2_with (go_at_call 100; (with_reducible refine (c100 b _ n c _ 4 (by omega) (by omega) (.inr (.inr rfl)) hn _ hd).mono ?_); rintro e w' ⟨rfl, j, rfl⟩; rw [hp])
  refine wp_loop_rounds 5 ?_
  rw [rounds_succ]; go_wp2
  rw [rounds_succ]; go_wp2
  rw [rounds_succ]; go_wp2
  rw [rounds_succ]; go_wp2
  rw [rounds_succ]; go_wp2
  go_ret2
  exact ⟨rfl, _, rfl⟩
end Go.Proofs.Ytipfefkddnogjaa
