/-
  The contracts of load at the port, and of write (layer 3).
-/
import Derived.Test.YtipfefkddnogjaaDevE
import Derived.Outline
import Derived.BigRegion
namespace Go.Proofs.Ytipfefkddnogjaa
open Go.RowKit
set_option linter.unusedVariables false
set_option linter.unusedSimpArgs false
theorem c85_in (v : Int) (b : Nat) (w : World)
    (H : Hid (Calls Try.prog 93 #[.pointer (some ⟨b, 0, none⟩)] w fun e w' => e = .returned (.int .u32 v) ∧ ∃ k, w' = w.drewN k)) :
    Calls Try.prog 85 #[.pointer (some ⟨b, 0, none⟩), .int .i64 13, .int .u32 536870924] w fun e w' => e = .returned (.tuple #[.int .u32 v, .bool true]) ∧ ∃ k, w' = w.drewN k := by
  go_enter Try.func85, Try.ntmps85
  go_wp2_with (first | (go_at_call 93; (with_reducible refine H.out.mono ?_); rintro e w' ⟨rfl, k, rfl⟩))
  go_ret2
  exact ⟨rfl, _, rfl⟩
theorem c94_out (b : Nat) (d : Option Addr) (n : Nat) (c : Nat) (a s v : Int) (a0 : 0 ≤ a) (a1 : a ≤ 4294967295) (hs : s = 1 ∨ s = 2 ∨ s = 4) (hn : n ≤ 65536) (w : World)
    (hd : w.cell? ⟨b, 36, none⟩ = some (.slice d n c)) (hp : placeF n a s = false) :
    Calls Try.prog 94 #[.pointer (some ⟨b, 0, none⟩), .int .u32 a, .int .i64 s, .int .u32 v] w fun e w' => e = .returned (.bool false) ∧ ∃ k, w' = w.drewN k := by
  go_enter Try.func94, Try.ntmps94
  go_wp2_with (go_at_call 100; (with_reducible refine (c100 b d n c a s a0 a1 hs hn _ hd).mono ?_); rintro e w' ⟨rfl, k, rfl⟩; rw [hp])
  go_ret
  exact ⟨rfl, _, rfl⟩
set_option maxHeartbeats 2000000 in
theorem c94_1 (b : Nat) (db off : Nat) (n : Nat) (c : Nat) (k : Nat) (v x0 : Int) (v0 : 0 ≤ v) (v1 : v ≤ 4294967295) (hn : n ≤ 65536) (hne : db ≠ b) (w : World)
    (hd : w.cell? ⟨b, 36, none⟩ = some (.slice (some ⟨db, off, none⟩) n c)) (hp : placeF n (268435456 + k) 1 = true) (hk : k + 1 ≤ n)
    (hf0 : w.frozen? ⟨db, off + k, none⟩ = false) (hx0 : w.cell? ⟨db, off + k, none⟩ = some (.int .u8 x0))
    : Calls Try.prog 94 #[.pointer (some ⟨b, 0, none⟩), .int .u32 (268435456 + k), .int .i64 1, .int .u32 v] w fun e w' => e = .returned (.bool true) ∧ ∃ j, w' = (w.setCell ⟨db, off + k, none⟩ (.int .u8 (v % 256))).drewN j := by
  go_enter Try.func94, Try.ntmps94
  go_wp2_with (go_at_call 100; (with_reducible refine (c100 b _ n c _ 1 (by omega) (by omega) (.inl rfl) hn _ hd).mono ?_); rintro e w' ⟨rfl, j, rfl⟩; rw [hp])
  have e1 : (268435456 : Int) + k - 268435456 = k := by omega
  rw [e1]
  obtain ⟨w0, hw0⟩ : ∃ w0 : World, w0 = w.drewN j := ⟨_, rfl⟩
  have hd0 : w0.cell? ⟨b, 36, none⟩ = some (.slice (some ⟨db, off, none⟩) n c) := by rw [hw0]; exact hd
  have hf00 : w0.frozen? ⟨db, off + k, none⟩ = false := by rw [hw0]; exact hf0
  have hx00 : w0.cell? ⟨db, off + k, none⟩ = some (.int .u8 x0) := by rw [hw0]; exact hx0
  rw [← hw0]
  have HW0 := Lib.hid hw0
  clear hw0 hd hf0 hx0
  refine wp_loop_rounds 2 ?_
  rw [rounds_succ]; go_wp2
  go_region
  all_goals go_wp2
  obtain ⟨w1, hw1⟩ : ∃ w1 : World, w1 = (w0.setCell ⟨db, off + k, none⟩ (.int .u8 (v % 256))).drew := ⟨_, rfl⟩
  rw [← hw1]
  have HW1 := Lib.hid hw1
  clear hw1 hd0 hf00 hx00
  rw [rounds_succ]; go_wp2
  go_ret
  exact ⟨rfl, j + 1, by rw [HW1.out, HW0.out]; rfl⟩
set_option maxHeartbeats 2000000 in
theorem c94_2 (b : Nat) (db off : Nat) (n : Nat) (c : Nat) (k : Nat) (v x0 x1 : Int) (v0 : 0 ≤ v) (v1 : v ≤ 4294967295) (hn : n ≤ 65536) (hne : db ≠ b) (w : World)
    (hd : w.cell? ⟨b, 36, none⟩ = some (.slice (some ⟨db, off, none⟩) n c)) (hp : placeF n (268435456 + k) 2 = true) (hk : k + 2 ≤ n)
    (hf0 : w.frozen? ⟨db, off + k, none⟩ = false) (hx0 : w.cell? ⟨db, off + k, none⟩ = some (.int .u8 x0))
    (hf1 : w.frozen? ⟨db, off + (k + 1), none⟩ = false) (hx1 : w.cell? ⟨db, off + (k + 1), none⟩ = some (.int .u8 x1))
    : Calls Try.prog 94 #[.pointer (some ⟨b, 0, none⟩), .int .u32 (268435456 + k), .int .i64 2, .int .u32 v] w fun e w' => e = .returned (.bool true) ∧ ∃ j, w' = ((w.setCell ⟨db, off + k, none⟩ (.int .u8 (v % 256))).setCell ⟨db, off + (k + 1), none⟩ (.int .u8 (v / 256 % 256))).drewN j := by
  go_enter Try.func94, Try.ntmps94
  go_wp2_with (go_at_call 100; (with_reducible refine (c100 b _ n c _ 2 (by omega) (by omega) (.inr (.inl rfl)) hn _ hd).mono ?_); rintro e w' ⟨rfl, j, rfl⟩; rw [hp])
  have e1 : (268435456 : Int) + k - 268435456 = k := by omega
  rw [e1]
  obtain ⟨w0, hw0⟩ : ∃ w0 : World, w0 = w.drewN j := ⟨_, rfl⟩
  have hd0 : w0.cell? ⟨b, 36, none⟩ = some (.slice (some ⟨db, off, none⟩) n c) := by rw [hw0]; exact hd
  have hf00 : w0.frozen? ⟨db, off + k, none⟩ = false := by rw [hw0]; exact hf0
  have hx00 : w0.cell? ⟨db, off + k, none⟩ = some (.int .u8 x0) := by rw [hw0]; exact hx0
  have hf01 : w0.frozen? ⟨db, off + (k + 1), none⟩ = false := by rw [hw0]; exact hf1
  have hx01 : w0.cell? ⟨db, off + (k + 1), none⟩ = some (.int .u8 x1) := by rw [hw0]; exact hx1
  rw [← hw0]
  have HW0 := Lib.hid hw0
  clear hw0 hd hf0 hx0 hf1 hx1
  refine wp_loop_rounds 3 ?_
  rw [rounds_succ]; go_wp2
  go_region
  all_goals go_wp2
  obtain ⟨w1, hw1⟩ : ∃ w1 : World, w1 = (w0.setCell ⟨db, off + k, none⟩ (.int .u8 (v % 256))).drew := ⟨_, rfl⟩
  rw [← hw1]
  have hd1 : w1.cell? ⟨b, 36, none⟩ = some (.slice (some ⟨db, off, none⟩) n c) := by
    rw [hw1]; exact (World.cell?_setCell_other _ _ _ _ (fun h => hne (by injection h))).trans hd0
  have hf11 : w1.frozen? ⟨db, off + (k + 1), none⟩ = false := by
    rw [hw1]; exact (World.frozen?_setCell _ _ _ _).trans hf01
  have hx11 : w1.cell? ⟨db, off + (k + 1), none⟩ = some (.int .u8 x1) := by
    rw [hw1]; exact (World.cell?_setCell_other _ _ _ _ (fun h => by injection h with _ h2 _; omega)).trans hx01
  have HW1 := Lib.hid hw1
  clear hw1 hd0 hf00 hx00 hf01 hx01
  rw [rounds_succ]; go_wp2
  go_region
  all_goals go_wp2
  obtain ⟨w2, hw2⟩ : ∃ w2 : World, w2 = (w1.setCell ⟨db, off + (k + 1), none⟩ (.int .u8 (v / 256 % 256))).drew := ⟨_, rfl⟩
  rw [← hw2]
  have HW2 := Lib.hid hw2
  clear hw2 hd1 hf11 hx11
  rw [rounds_succ]; go_wp2
  go_ret
  exact ⟨rfl, j + 2, by rw [HW2.out, HW1.out, HW0.out]; rfl⟩
set_option maxHeartbeats 2000000 in
theorem c94_4 (b : Nat) (db off : Nat) (n : Nat) (c : Nat) (k : Nat) (v x0 x1 x2 x3 : Int) (v0 : 0 ≤ v) (v1 : v ≤ 4294967295) (hn : n ≤ 65536) (hne : db ≠ b) (w : World)
    (hd : w.cell? ⟨b, 36, none⟩ = some (.slice (some ⟨db, off, none⟩) n c)) (hp : placeF n (268435456 + k) 4 = true) (hk : k + 4 ≤ n)
    (hf0 : w.frozen? ⟨db, off + k, none⟩ = false) (hx0 : w.cell? ⟨db, off + k, none⟩ = some (.int .u8 x0))
    (hf1 : w.frozen? ⟨db, off + (k + 1), none⟩ = false) (hx1 : w.cell? ⟨db, off + (k + 1), none⟩ = some (.int .u8 x1))
    (hf2 : w.frozen? ⟨db, off + (k + 2), none⟩ = false) (hx2 : w.cell? ⟨db, off + (k + 2), none⟩ = some (.int .u8 x2))
    (hf3 : w.frozen? ⟨db, off + (k + 3), none⟩ = false) (hx3 : w.cell? ⟨db, off + (k + 3), none⟩ = some (.int .u8 x3))
    : Calls Try.prog 94 #[.pointer (some ⟨b, 0, none⟩), .int .u32 (268435456 + k), .int .i64 4, .int .u32 v] w fun e w' => e = .returned (.bool true) ∧ ∃ j, w' = ((((w.setCell ⟨db, off + k, none⟩ (.int .u8 (v % 256))).setCell ⟨db, off + (k + 1), none⟩ (.int .u8 (v / 256 % 256))).setCell ⟨db, off + (k + 2), none⟩ (.int .u8 (v / 65536 % 256))).setCell ⟨db, off + (k + 3), none⟩ (.int .u8 (v / 16777216))).drewN j := by
  go_enter Try.func94, Try.ntmps94
  go_wp2_with (go_at_call 100; (with_reducible refine (c100 b _ n c _ 4 (by omega) (by omega) (.inr (.inr rfl)) hn _ hd).mono ?_); rintro e w' ⟨rfl, j, rfl⟩; rw [hp])
  have e1 : (268435456 : Int) + k - 268435456 = k := by omega
  rw [e1]
  obtain ⟨w0, hw0⟩ : ∃ w0 : World, w0 = w.drewN j := ⟨_, rfl⟩
  have hd0 : w0.cell? ⟨b, 36, none⟩ = some (.slice (some ⟨db, off, none⟩) n c) := by rw [hw0]; exact hd
  have hf00 : w0.frozen? ⟨db, off + k, none⟩ = false := by rw [hw0]; exact hf0
  have hx00 : w0.cell? ⟨db, off + k, none⟩ = some (.int .u8 x0) := by rw [hw0]; exact hx0
  have hf01 : w0.frozen? ⟨db, off + (k + 1), none⟩ = false := by rw [hw0]; exact hf1
  have hx01 : w0.cell? ⟨db, off + (k + 1), none⟩ = some (.int .u8 x1) := by rw [hw0]; exact hx1
  have hf02 : w0.frozen? ⟨db, off + (k + 2), none⟩ = false := by rw [hw0]; exact hf2
  have hx02 : w0.cell? ⟨db, off + (k + 2), none⟩ = some (.int .u8 x2) := by rw [hw0]; exact hx2
  have hf03 : w0.frozen? ⟨db, off + (k + 3), none⟩ = false := by rw [hw0]; exact hf3
  have hx03 : w0.cell? ⟨db, off + (k + 3), none⟩ = some (.int .u8 x3) := by rw [hw0]; exact hx3
  rw [← hw0]
  have HW0 := Lib.hid hw0
  clear hw0 hd hf0 hx0 hf1 hx1 hf2 hx2 hf3 hx3
  refine wp_loop_rounds 5 ?_
  rw [rounds_succ]; go_wp2
  go_region
  all_goals go_wp2
  obtain ⟨w1, hw1⟩ : ∃ w1 : World, w1 = (w0.setCell ⟨db, off + k, none⟩ (.int .u8 (v % 256))).drew := ⟨_, rfl⟩
  rw [← hw1]
  have hd1 : w1.cell? ⟨b, 36, none⟩ = some (.slice (some ⟨db, off, none⟩) n c) := by
    rw [hw1]; exact (World.cell?_setCell_other _ _ _ _ (fun h => hne (by injection h))).trans hd0
  have hf11 : w1.frozen? ⟨db, off + (k + 1), none⟩ = false := by
    rw [hw1]; exact (World.frozen?_setCell _ _ _ _).trans hf01
  have hx11 : w1.cell? ⟨db, off + (k + 1), none⟩ = some (.int .u8 x1) := by
    rw [hw1]; exact (World.cell?_setCell_other _ _ _ _ (fun h => by injection h with _ h2 _; omega)).trans hx01
  have hf12 : w1.frozen? ⟨db, off + (k + 2), none⟩ = false := by
    rw [hw1]; exact (World.frozen?_setCell _ _ _ _).trans hf02
  have hx12 : w1.cell? ⟨db, off + (k + 2), none⟩ = some (.int .u8 x2) := by
    rw [hw1]; exact (World.cell?_setCell_other _ _ _ _ (fun h => by injection h with _ h2 _; omega)).trans hx02
  have hf13 : w1.frozen? ⟨db, off + (k + 3), none⟩ = false := by
    rw [hw1]; exact (World.frozen?_setCell _ _ _ _).trans hf03
  have hx13 : w1.cell? ⟨db, off + (k + 3), none⟩ = some (.int .u8 x3) := by
    rw [hw1]; exact (World.cell?_setCell_other _ _ _ _ (fun h => by injection h with _ h2 _; omega)).trans hx03
  have HW1 := Lib.hid hw1
  clear hw1 hd0 hf00 hx00 hf01 hx01 hf02 hx02 hf03 hx03
  rw [rounds_succ]; go_wp2
  go_region
  all_goals go_wp2
  obtain ⟨w2, hw2⟩ : ∃ w2 : World, w2 = (w1.setCell ⟨db, off + (k + 1), none⟩ (.int .u8 (v / 256 % 256))).drew := ⟨_, rfl⟩
  rw [← hw2]
  have hd2 : w2.cell? ⟨b, 36, none⟩ = some (.slice (some ⟨db, off, none⟩) n c) := by
    rw [hw2]; exact (World.cell?_setCell_other _ _ _ _ (fun h => hne (by injection h))).trans hd1
  have hf22 : w2.frozen? ⟨db, off + (k + 2), none⟩ = false := by
    rw [hw2]; exact (World.frozen?_setCell _ _ _ _).trans hf12
  have hx22 : w2.cell? ⟨db, off + (k + 2), none⟩ = some (.int .u8 x2) := by
    rw [hw2]; exact (World.cell?_setCell_other _ _ _ _ (fun h => by injection h with _ h2 _; omega)).trans hx12
  have hf23 : w2.frozen? ⟨db, off + (k + 3), none⟩ = false := by
    rw [hw2]; exact (World.frozen?_setCell _ _ _ _).trans hf13
  have hx23 : w2.cell? ⟨db, off + (k + 3), none⟩ = some (.int .u8 x3) := by
    rw [hw2]; exact (World.cell?_setCell_other _ _ _ _ (fun h => by injection h with _ h2 _; omega)).trans hx13
  have HW2 := Lib.hid hw2
  clear hw2 hd1 hf11 hx11 hf12 hx12 hf13 hx13
  rw [rounds_succ]; go_wp2
  go_region
  all_goals go_wp2
  obtain ⟨w3, hw3⟩ : ∃ w3 : World, w3 = (w2.setCell ⟨db, off + (k + 2), none⟩ (.int .u8 (v / 65536 % 256))).drew := ⟨_, rfl⟩
  rw [← hw3]
  have hd3 : w3.cell? ⟨b, 36, none⟩ = some (.slice (some ⟨db, off, none⟩) n c) := by
    rw [hw3]; exact (World.cell?_setCell_other _ _ _ _ (fun h => hne (by injection h))).trans hd2
  have hf33 : w3.frozen? ⟨db, off + (k + 3), none⟩ = false := by
    rw [hw3]; exact (World.frozen?_setCell _ _ _ _).trans hf23
  have hx33 : w3.cell? ⟨db, off + (k + 3), none⟩ = some (.int .u8 x3) := by
    rw [hw3]; exact (World.cell?_setCell_other _ _ _ _ (fun h => by injection h with _ h2 _; omega)).trans hx23
  have HW3 := Lib.hid hw3
  clear hw3 hd2 hf22 hx22 hf23 hx23
  rw [rounds_succ]; go_wp2
  go_region
  all_goals go_wp2
  obtain ⟨w4, hw4⟩ : ∃ w4 : World, w4 = (w3.setCell ⟨db, off + (k + 3), none⟩ (.int .u8 (v / 16777216))).drew := ⟨_, rfl⟩
  rw [← hw4]
  have HW4 := Lib.hid hw4
  clear hw4 hd3 hf33 hx33
  rw [rounds_succ]; go_wp2
  go_ret
  exact ⟨rfl, j + 4, by rw [HW4.out, HW3.out, HW2.out, HW1.out, HW0.out]; rfl⟩
end Go.Proofs.Ytipfefkddnogjaa
