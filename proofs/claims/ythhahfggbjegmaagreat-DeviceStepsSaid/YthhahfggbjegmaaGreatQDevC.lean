/-
  The contracts of place and read (layer 3): where in the data an address lies. The contract of read (layer 3): the number in one, two or four bytes of the data. The contracts of set and input (layer 3). The contract of load (layer 3). The contracts of load at the port, and of write (layer 3). The contracts of tell (but for the port of records) and of store where there is no port (layer 3).
-/
import Derived.Test.YthhahfggbjegmaaGreatQDevGg
import Derived.Outline
import Derived.BigRegion
namespace Go.Proofs.YthhahfggbjegmaaGreat
open Go.RowKit
set_option linter.unusedVariables false
set_option linter.unusedSimpArgs false
/-- May size bytes be read at an address of n bytes of data? -/
def placeF (n : Nat) (at' size : Int) : Bool :=
  if at' < 268435456 then false else if (n : Int) - size < at' - 268435456 then false else (at' - 268435456) % size == 0
theorem dv100 (b : Nat) (d : Option Addr) (n : Nat) (c : Nat) (a s : Int) (a0 : 0 ≤ a) (a1 : a ≤ 4294967295) (hs : s = 1 ∨ s = 2 ∨ s = 4) (hn : n ≤ 65536) (w : World)
    (hd : w.cell? ⟨b, 36, none⟩ = some (.slice d n c)) :
    Calls Tryz.prog 109 #[.pointer (some ⟨b, 0, none⟩), .int .u32 a, .int .i64 s] w fun e w' => e = .returned (.tuple #[.int .i64 (a - 268435456), .bool (placeF n a s)]) ∧ ∃ k, w' = w.drewN k := by
  by_cases h1 : a < 268435456
  · have e : placeF n a s = false := by unfold placeF; rw [if_pos h1]
    rw [e]
    have hA : decide (268435456 ≤ a) = false := decide_eq_false (by omega)
    clear hd
    rcases hs with rfl | rfl | rfl
    all_goals
      go_enter Tryz.func109, Tryz.ntmps109
      go_wp2
      go_quiet (fail)
      go_wp2
      go_ret2
      exact ⟨rfl, _, rfl⟩
  · by_cases h2 : (n : Int) - s < a - 268435456
    · have e : placeF n a s = false := by unfold placeF; rw [if_neg h1, if_pos h2]
      rw [e]
      have hw : IntKind.i64.wrap ((n : Int) - s) = (n : Int) - s := by
        rcases hs with rfl | rfl | rfl <;> (rw [IntKind.wrap_i64]; omega)
      have hB : decide (a - 268435456 ≤ IntKind.i64.wrap ((n : Int) - s)) = false := decide_eq_false (by rw [hw]; omega)
      clear hw
      rcases hs with rfl | rfl | rfl
      all_goals
        go_enter Tryz.func109, Tryz.ntmps109
        go_wp2
        go_quiet (fail)
        go_wp2
        go_ret2
        exact ⟨rfl, _, rfl⟩
    · have e : placeF n a s = ((a - 268435456) % s == 0) := by unfold placeF; rw [if_neg h1, if_neg h2]
      rw [e]
      rcases hs with rfl | rfl | rfl
      all_goals
        go_enter Tryz.func109, Tryz.ntmps109
        go_wp2
        go_quiet (fail)
        go_wp2
        go_ret2
        first | exact ⟨rfl, _, rfl⟩ | exact ⟨by rw [Int.emod_one]; rfl, _, rfl⟩
def le1 (x : Int) : Int := bits .or .u32 0 x
def le2 (x y : Int) : Int := bits .or .u32 (le1 x) (y * 256)
def le4 (x y z u : Int) : Int := bits .or .u32 (bits .or .u32 (le2 x y) (z * 65536)) (u * 16777216)
theorem dv92_out (b : Nat) (d : Option Addr) (n : Nat) (c : Nat) (a s : Int) (a0 : 0 ≤ a) (a1 : a ≤ 4294967295) (hs : s = 1 ∨ s = 2 ∨ s = 4) (hn : n ≤ 65536) (w : World)
    (hd : w.cell? ⟨b, 36, none⟩ = some (.slice d n c)) (hp : placeF n a s = false) :
    Calls Tryz.prog 89 #[.pointer (some ⟨b, 0, none⟩), .int .u32 a, .int .i64 s] w fun e w' => e = .returned (.tuple #[.int .u32 0, .bool false]) ∧ ∃ k, w' = w.drewN k := by
  go_enter Tryz.func89, Tryz.ntmps89
  go_wp2_with (go_at_call 109; (with_reducible refine (dv100 b d n c a s a0 a1 hs hn _ hd).mono ?_); rintro e w' ⟨rfl, k, rfl⟩; rw [hp])
  go_ret2
  exact ⟨rfl, _, rfl⟩
set_option maxHeartbeats 1000000 in
theorem dv92_1 (b : Nat) (db off : Nat) (n : Nat) (c : Nat) (k : Nat) (x : Int) (x0 : 0 ≤ x) (x1 : x ≤ 255) (hn : n ≤ 65536) (w : World)
    (hd : w.cell? ⟨b, 36, none⟩ = some (.slice (some ⟨db, off, none⟩) n c)) (hp : placeF n (268435456 + k) 1 = true) (hk : k + 1 ≤ n)
    (hx : w.cell? ⟨db, off + k, none⟩ = some (.int .u8 x)) :
    Calls Tryz.prog 89 #[.pointer (some ⟨b, 0, none⟩), .int .u32 (268435456 + k), .int .i64 1] w fun e w' => e = .returned (.tuple #[.int .u32 (le1 x), .bool true]) ∧ ∃ k, w' = w.drewN k := by
  go_enter Tryz.func89, Tryz.ntmps89
  go_wp2_with (go_at_call 109; (with_reducible refine (dv100 b _ n c _ 1 (by omega) (by omega) (.inl rfl) hn _ hd).mono ?_); rintro e w' ⟨rfl, j, rfl⟩; rw [hp])
  refine wp_loop_rounds 2 ?_
  rw [rounds_succ]; go_wp2
  rw [rounds_succ]; go_wp2
  go_ret2
  exact ⟨rfl, _, rfl⟩
set_option maxHeartbeats 1000000 in
theorem dv92_2 (b : Nat) (db off : Nat) (n : Nat) (c : Nat) (k : Nat) (x y : Int) (x0 : 0 ≤ x) (x1 : x ≤ 255) (y0 : 0 ≤ y) (y1 : y ≤ 255) (hn : n ≤ 65536) (w : World)
    (hd : w.cell? ⟨b, 36, none⟩ = some (.slice (some ⟨db, off, none⟩) n c)) (hp : placeF n (268435456 + k) 2 = true) (hk : k + 2 ≤ n)
    (hx : w.cell? ⟨db, off + k, none⟩ = some (.int .u8 x)) (hy : w.cell? ⟨db, off + (k + 1), none⟩ = some (.int .u8 y)) :
    Calls Tryz.prog 89 #[.pointer (some ⟨b, 0, none⟩), .int .u32 (268435456 + k), .int .i64 2] w fun e w' => e = .returned (.tuple #[.int .u32 (le2 x y), .bool true]) ∧ ∃ k, w' = w.drewN k := by
  go_enter Tryz.func89, Tryz.ntmps89
  go_wp2_with (go_at_call 109; (with_reducible refine (dv100 b _ n c _ 2 (by omega) (by omega) (.inr (.inl rfl)) hn _ hd).mono ?_); rintro e w' ⟨rfl, j, rfl⟩; rw [hp])
  refine wp_loop_rounds 3 ?_
  rw [rounds_succ]; go_wp2
  rw [rounds_succ]; go_wp2
  rw [rounds_succ]; go_wp2
  go_ret2
  exact ⟨rfl, _, rfl⟩
set_option maxHeartbeats 1000000 in
theorem dv92_4 (b : Nat) (db off : Nat) (n : Nat) (c : Nat) (k : Nat) (x y z u : Int) (x0 : 0 ≤ x) (x1 : x ≤ 255) (y0 : 0 ≤ y) (y1 : y ≤ 255) (z0 : 0 ≤ z) (z1 : z ≤ 255) (u0 : 0 ≤ u) (u1 : u ≤ 255) (hn : n ≤ 65536) (w : World)
    (hd : w.cell? ⟨b, 36, none⟩ = some (.slice (some ⟨db, off, none⟩) n c)) (hp : placeF n (268435456 + k) 4 = true) (hk : k + 4 ≤ n)
    (hx : w.cell? ⟨db, off + k, none⟩ = some (.int .u8 x)) (hy : w.cell? ⟨db, off + (k + 1), none⟩ = some (.int .u8 y)) (hz : w.cell? ⟨db, off + (k + 2), none⟩ = some (.int .u8 z)) (hu : w.cell? ⟨db, off + (k + 3), none⟩ = some (.int .u8 u)) :
    Calls Tryz.prog 89 #[.pointer (some ⟨b, 0, none⟩), .int .u32 (268435456 + k), .int .i64 4] w fun e w' => e = .returned (.tuple #[.int .u32 (le4 x y z u), .bool true]) ∧ ∃ k, w' = w.drewN k := by
  go_enter Tryz.func89, Tryz.ntmps89
  go_wp2_with (go_at_call 109; (with_reducible refine (dv100 b _ n c _ 4 (by omega) (by omega) (.inr (.inr rfl)) hn _ hd).mono ?_); rintro e w' ⟨rfl, j, rfl⟩; rw [hp])
  refine wp_loop_rounds 5 ?_
  rw [rounds_succ]; go_wp2
  rw [rounds_succ]; go_wp2
  rw [rounds_succ]; go_wp2
  rw [rounds_succ]; go_wp2
  rw [rounds_succ]; go_wp2
  go_ret2
  exact ⟨rfl, _, rfl⟩
def setW (w : World) (b r : Nat) (v : Int) : World := if r = 0 then w else w.setCell ⟨b, r, none⟩ (.int .u32 v)
theorem dv83 (b r : Nat) (v v0 : Int) (hr : r < 32) (w : World) (hc : w.cell? ⟨b, r, none⟩ = some (.int .u32 v0)) (hf : w.frozen? ⟨b, r, none⟩ = false) :
    Calls Tryz.prog 55 #[.pointer (some ⟨b, 0, none⟩), .int .i64 r, .int .u32 v] w fun e w' => e = .returned (.tuple #[]) ∧ w' = setW w b r v := by
  by_cases h : r = 0
  · subst h
    go_enter Tryz.func55, Tryz.ntmps55
    go_wp2
    go_end0
    exact ⟨rfl, rfl⟩
  · have e : setW w b r v = w.setCell ⟨b, r, none⟩ (.int .u32 v) := by unfold setW; rw [if_neg h]
    rw [e]
    go_enter Tryz.func55, Tryz.ntmps55
    go_wp2
    go_end0
    exact ⟨rfl, rfl⟩
theorem drew2 (w : World) (n m : Nat) : (w.drewN n).drewN m = w.drewN (n + m) := by simp only [World.drewN, Nat.add_assoc]
theorem dv93_out (b : Nat) (d : Option Addr) (n c : Nat) (i : Int) (i0 : 0 ≤ i) (i1 : i ≤ 4294967295) (hn : n ≤ 4611686018427387904) (hi : (n : Int) ≤ i) (w : World)
    (hd : w.cell? ⟨b, 37, none⟩ = some (.slice d n c)) (hx : w.cell? ⟨b, 34, none⟩ = some (.int .u32 i)) :
    Calls Tryz.prog 90 #[.pointer (some ⟨b, 0, none⟩)] w fun e w' => e = .returned (.int .u32 0) ∧ ∃ k, w' = w.drewN k := by
  have hB : decide (i < (n : Int)) = false := decide_eq_false (by omega)
  go_enter Tryz.func90, Tryz.ntmps90
  go_wp2
  go_quiet (fail)
  go_wp2
  go_ret
  exact ⟨rfl, _, rfl⟩
theorem dv93_in (b db off : Nat) (n c : Nat) (i : Nat) (x : Int) (i1 : i ≤ 4294967295) (hn : n ≤ 4611686018427387904) (hi : i < n) (w : World)
    (hd : w.cell? ⟨b, 37, none⟩ = some (.slice (some ⟨db, off, none⟩) n c)) (hx : w.cell? ⟨b, 34, none⟩ = some (.int .u32 i)) (hv : w.cell? ⟨db, off + i, none⟩ = some (.int .u32 x)) :
    Calls Tryz.prog 90 #[.pointer (some ⟨b, 0, none⟩)] w fun e w' => e = .returned (.int .u32 x) ∧ ∃ k, w' = w.drewN k := by
  go_enter Tryz.func90, Tryz.ntmps90
  go_wp2
  go_quiet (fail)
  go_wp2
  go_quiet (fail)
  go_wp2
  go_ret
  exact ⟨rfl, _, drew2 _ _ _⟩
def loadF (op : Int) (v : Int) : Int := if op = 11 then signF v 8 else if op = 12 then signF v 16 else v
theorem grown_of_drewN (w : World) (n : Nat) : Grown w (w.drewN n) := grown_drewN (Grown.refl _) _
/-- How many bytes a load or a store reaches. -/
def sizeF (op : Int) : Int := if op = 11 then 1 else if op = 14 then 1 else if op = 16 then 1 else if op = 12 then 2 else if op = 15 then 2 else if op = 17 then 2 else 4
theorem dv85 (op a v s : Int) (hs : s = sizeF op) (ok : Bool) (b : Nat) (ho : 11 ≤ op ∧ op ≤ 15) (a0 : 0 ≤ a) (a1 : a ≤ 4294967295) (v0 : 0 ≤ v) (v1 : v ≤ 4294967295) (w : World) (hq : op = 13 → (a == 536870924) = false)
    (H : Hid (Calls Tryz.prog 89 #[.pointer (some ⟨b, 0, none⟩), .int .u32 a, .int .i64 s] w fun e w' => e = .returned (.tuple #[.int .u32 v, .bool ok]) ∧ ∃ k, w' = w.drewN k)) :
    Calls Tryz.prog 57 #[.pointer (some ⟨b, 0, none⟩), .int .i64 op, .int .u32 a] w fun e w' => e = .returned (.tuple #[.int .u32 (loadF op v), .bool ok]) ∧ Grown w w' := by
  have hc : op = 11 ∨ op = 12 ∨ op = 13 ∨ op = 14 ∨ op = 15 := by omega
  rcases hc with rfl | rfl | rfl | rfl | rfl
  · obtain rfl : s = 1 := hs
    go_enter Tryz.func57, Tryz.ntmps57
    go_wp2_with (first | (go_at_call 89; (with_reducible refine H.out.mono ?_); rintro e w' ⟨rfl, k, rfl⟩) | (go_at_call 85; (with_reducible refine (c85 v _ v0 v1 _).mono ?_); rintro e w' ⟨rfl, hg⟩; have HG := Lib.hid hg; clear hg))
    go_ret2
    exact ⟨rfl, grown_trans (grown_of_drewN _ _) HG.out⟩
  · obtain rfl : s = 2 := hs
    go_enter Tryz.func57, Tryz.ntmps57
    go_wp2_with (first | (go_at_call 89; (with_reducible refine H.out.mono ?_); rintro e w' ⟨rfl, k, rfl⟩) | (go_at_call 85; (with_reducible refine (c85 v _ v0 v1 _).mono ?_); rintro e w' ⟨rfl, hg⟩; have HG := Lib.hid hg; clear hg))
    go_ret2
    exact ⟨rfl, grown_trans (grown_of_drewN _ _) HG.out⟩
  · obtain rfl : s = 4 := hs
    have hq' := hq rfl
    clear hq
    go_enter Tryz.func57, Tryz.ntmps57
    go_wp2_with (first | (go_at_call 89; (with_reducible refine H.out.mono ?_); rintro e w' ⟨rfl, k, rfl⟩))
    go_ret2
    exact ⟨rfl, grown_of_drewN _ _⟩
  · obtain rfl : s = 1 := hs
    go_enter Tryz.func57, Tryz.ntmps57
    go_wp2_with (first | (go_at_call 89; (with_reducible refine H.out.mono ?_); rintro e w' ⟨rfl, k, rfl⟩))
    go_ret2
    exact ⟨rfl, grown_of_drewN _ _⟩
  · obtain rfl : s = 2 := hs
    go_enter Tryz.func57, Tryz.ntmps57
    go_wp2_with (first | (go_at_call 89; (with_reducible refine H.out.mono ?_); rintro e w' ⟨rfl, k, rfl⟩))
    go_ret2
    exact ⟨rfl, grown_of_drewN _ _⟩
theorem dv85_in (v : Int) (b : Nat) (w : World)
    (H : Hid (Calls Tryz.prog 90 #[.pointer (some ⟨b, 0, none⟩)] w fun e w' => e = .returned (.int .u32 v) ∧ ∃ k, w' = w.drewN k)) :
    Calls Tryz.prog 57 #[.pointer (some ⟨b, 0, none⟩), .int .i64 13, .int .u32 536870924] w fun e w' => e = .returned (.tuple #[.int .u32 v, .bool true]) ∧ ∃ k, w' = w.drewN k := by
  go_enter Tryz.func57, Tryz.ntmps57
  go_wp2_with (first | (go_at_call 90; (with_reducible refine H.out.mono ?_); rintro e w' ⟨rfl, k, rfl⟩))
  go_ret2
  exact ⟨rfl, _, rfl⟩
theorem dv94_out (b : Nat) (d : Option Addr) (n : Nat) (c : Nat) (a s v : Int) (a0 : 0 ≤ a) (a1 : a ≤ 4294967295) (hs : s = 1 ∨ s = 2 ∨ s = 4) (hn : n ≤ 65536) (w : World)
    (hd : w.cell? ⟨b, 36, none⟩ = some (.slice d n c)) (hp : placeF n a s = false) :
    Calls Tryz.prog 91 #[.pointer (some ⟨b, 0, none⟩), .int .u32 a, .int .i64 s, .int .u32 v] w fun e w' => e = .returned (.bool false) ∧ ∃ k, w' = w.drewN k := by
  go_enter Tryz.func91, Tryz.ntmps91
  go_wp2_with (go_at_call 109; (with_reducible refine (dv100 b d n c a s a0 a1 hs hn _ hd).mono ?_); rintro e w' ⟨rfl, k, rfl⟩; rw [hp])
  go_ret
  exact ⟨rfl, _, rfl⟩
set_option maxHeartbeats 2000000 in
theorem dv94_1 (b : Nat) (db off : Nat) (n : Nat) (c : Nat) (k : Nat) (v x0 : Int) (v0 : 0 ≤ v) (v1 : v ≤ 4294967295) (hn : n ≤ 65536) (hne : db ≠ b) (w : World)
    (hd : w.cell? ⟨b, 36, none⟩ = some (.slice (some ⟨db, off, none⟩) n c)) (hp : placeF n (268435456 + k) 1 = true) (hk : k + 1 ≤ n)
    (hf0 : w.frozen? ⟨db, off + k, none⟩ = false) (hx0 : w.cell? ⟨db, off + k, none⟩ = some (.int .u8 x0))
    : Calls Tryz.prog 91 #[.pointer (some ⟨b, 0, none⟩), .int .u32 (268435456 + k), .int .i64 1, .int .u32 v] w fun e w' => e = .returned (.bool true) ∧ ∃ j, w' = (w.setCell ⟨db, off + k, none⟩ (.int .u8 (v % 256))).drewN j := by
  go_enter Tryz.func91, Tryz.ntmps91
  go_wp2_with (go_at_call 109; (with_reducible refine (dv100 b _ n c _ 1 (by omega) (by omega) (.inl rfl) hn _ hd).mono ?_); rintro e w' ⟨rfl, j, rfl⟩; rw [hp])
  have e1 : (268435456 : Int) + k - 268435456 = k := by omega
  rw [e1]
  obtain ⟨w0, hw0⟩ : ∃ w0 : World, w0 = w.drewN j := ⟨_, rfl⟩
  have hd0 : w0.cell? ⟨b, 36, none⟩ = some (.slice (some ⟨db, off, none⟩) n c) := by rw [hw0]; exact hd
  have hf00 : w0.frozen? ⟨db, off + k, none⟩ = false := by rw [hw0]; exact hf0
  have hx00 : w0.cell? ⟨db, off + k, none⟩ = some (.int .u8 x0) := by rw [hw0]; exact hx0
  rw [← hw0]
  have HW0 := Lib.hid hw0
  clear hw0 hd hf0 hx0
  refine wp_loop_rounds 2 ?_
  rw [rounds_succ]; go_wp2
  go_region
  all_goals go_wp2
  obtain ⟨w1, hw1⟩ : ∃ w1 : World, w1 = (w0.setCell ⟨db, off + k, none⟩ (.int .u8 (v % 256))).drew := ⟨_, rfl⟩
  rw [← hw1]
  have HW1 := Lib.hid hw1
  clear hw1 hd0 hf00 hx00
  rw [rounds_succ]; go_wp2
  go_ret
  exact ⟨rfl, j + 1, by rw [HW1.out, HW0.out]; rfl⟩
set_option maxHeartbeats 2000000 in
theorem dv94_2 (b : Nat) (db off : Nat) (n : Nat) (c : Nat) (k : Nat) (v x0 x1 : Int) (v0 : 0 ≤ v) (v1 : v ≤ 4294967295) (hn : n ≤ 65536) (hne : db ≠ b) (w : World)
    (hd : w.cell? ⟨b, 36, none⟩ = some (.slice (some ⟨db, off, none⟩) n c)) (hp : placeF n (268435456 + k) 2 = true) (hk : k + 2 ≤ n)
    (hf0 : w.frozen? ⟨db, off + k, none⟩ = false) (hx0 : w.cell? ⟨db, off + k, none⟩ = some (.int .u8 x0))
    (hf1 : w.frozen? ⟨db, off + (k + 1), none⟩ = false) (hx1 : w.cell? ⟨db, off + (k + 1), none⟩ = some (.int .u8 x1))
    : Calls Tryz.prog 91 #[.pointer (some ⟨b, 0, none⟩), .int .u32 (268435456 + k), .int .i64 2, .int .u32 v] w fun e w' => e = .returned (.bool true) ∧ ∃ j, w' = ((w.setCell ⟨db, off + k, none⟩ (.int .u8 (v % 256))).setCell ⟨db, off + (k + 1), none⟩ (.int .u8 (v / 256 % 256))).drewN j := by
  go_enter Tryz.func91, Tryz.ntmps91
  go_wp2_with (go_at_call 109; (with_reducible refine (dv100 b _ n c _ 2 (by omega) (by omega) (.inr (.inl rfl)) hn _ hd).mono ?_); rintro e w' ⟨rfl, j, rfl⟩; rw [hp])
  have e1 : (268435456 : Int) + k - 268435456 = k := by omega
  rw [e1]
  obtain ⟨w0, hw0⟩ : ∃ w0 : World, w0 = w.drewN j := ⟨_, rfl⟩
  have hd0 : w0.cell? ⟨b, 36, none⟩ = some (.slice (some ⟨db, off, none⟩) n c) := by rw [hw0]; exact hd
  have hf00 : w0.frozen? ⟨db, off + k, none⟩ = false := by rw [hw0]; exact hf0
  have hx00 : w0.cell? ⟨db, off + k, none⟩ = some (.int .u8 x0) := by rw [hw0]; exact hx0
  have hf01 : w0.frozen? ⟨db, off + (k + 1), none⟩ = false := by rw [hw0]; exact hf1
  have hx01 : w0.cell? ⟨db, off + (k + 1), none⟩ = some (.int .u8 x1) := by rw [hw0]; exact hx1
  rw [← hw0]
  have HW0 := Lib.hid hw0
  clear hw0 hd hf0 hx0 hf1 hx1
  refine wp_loop_rounds 3 ?_
  rw [rounds_succ]; go_wp2
  go_region
  all_goals go_wp2
  obtain ⟨w1, hw1⟩ : ∃ w1 : World, w1 = (w0.setCell ⟨db, off + k, none⟩ (.int .u8 (v % 256))).drew := ⟨_, rfl⟩
  rw [← hw1]
  have hd1 : w1.cell? ⟨b, 36, none⟩ = some (.slice (some ⟨db, off, none⟩) n c) := by
    rw [hw1]; exact (World.cell?_setCell_other _ _ _ _ (fun h => hne (by injection h))).trans hd0
  have hf11 : w1.frozen? ⟨db, off + (k + 1), none⟩ = false := by
    rw [hw1]; exact (World.frozen?_setCell _ _ _ _).trans hf01
  have hx11 : w1.cell? ⟨db, off + (k + 1), none⟩ = some (.int .u8 x1) := by
    rw [hw1]; exact (World.cell?_setCell_other _ _ _ _ (fun h => by injection h with _ h2 _; omega)).trans hx01
  have HW1 := Lib.hid hw1
  clear hw1 hd0 hf00 hx00 hf01 hx01
  rw [rounds_succ]; go_wp2
  go_region
  all_goals go_wp2
  obtain ⟨w2, hw2⟩ : ∃ w2 : World, w2 = (w1.setCell ⟨db, off + (k + 1), none⟩ (.int .u8 (v / 256 % 256))).drew := ⟨_, rfl⟩
  rw [← hw2]
  have HW2 := Lib.hid hw2
  clear hw2 hd1 hf11 hx11
  rw [rounds_succ]; go_wp2
  go_ret
  exact ⟨rfl, j + 2, by rw [HW2.out, HW1.out, HW0.out]; rfl⟩
set_option maxHeartbeats 2000000 in
theorem dv94_4 (b : Nat) (db off : Nat) (n : Nat) (c : Nat) (k : Nat) (v x0 x1 x2 x3 : Int) (v0 : 0 ≤ v) (v1 : v ≤ 4294967295) (hn : n ≤ 65536) (hne : db ≠ b) (w : World)
    (hd : w.cell? ⟨b, 36, none⟩ = some (.slice (some ⟨db, off, none⟩) n c)) (hp : placeF n (268435456 + k) 4 = true) (hk : k + 4 ≤ n)
    (hf0 : w.frozen? ⟨db, off + k, none⟩ = false) (hx0 : w.cell? ⟨db, off + k, none⟩ = some (.int .u8 x0))
    (hf1 : w.frozen? ⟨db, off + (k + 1), none⟩ = false) (hx1 : w.cell? ⟨db, off + (k + 1), none⟩ = some (.int .u8 x1))
    (hf2 : w.frozen? ⟨db, off + (k + 2), none⟩ = false) (hx2 : w.cell? ⟨db, off + (k + 2), none⟩ = some (.int .u8 x2))
    (hf3 : w.frozen? ⟨db, off + (k + 3), none⟩ = false) (hx3 : w.cell? ⟨db, off + (k + 3), none⟩ = some (.int .u8 x3))
    : Calls Tryz.prog 91 #[.pointer (some ⟨b, 0, none⟩), .int .u32 (268435456 + k), .int .i64 4, .int .u32 v] w fun e w' => e = .returned (.bool true) ∧ ∃ j, w' = ((((w.setCell ⟨db, off + k, none⟩ (.int .u8 (v % 256))).setCell ⟨db, off + (k + 1), none⟩ (.int .u8 (v / 256 % 256))).setCell ⟨db, off + (k + 2), none⟩ (.int .u8 (v / 65536 % 256))).setCell ⟨db, off + (k + 3), none⟩ (.int .u8 (v / 16777216))).drewN j := by
  go_enter Tryz.func91, Tryz.ntmps91
  go_wp2_with (go_at_call 109; (with_reducible refine (dv100 b _ n c _ 4 (by omega) (by omega) (.inr (.inr rfl)) hn _ hd).mono ?_); rintro e w' ⟨rfl, j, rfl⟩; rw [hp])
  have e1 : (268435456 : Int) + k - 268435456 = k := by omega
  rw [e1]
  obtain ⟨w0, hw0⟩ : ∃ w0 : World, w0 = w.drewN j := ⟨_, rfl⟩
  have hd0 : w0.cell? ⟨b, 36, none⟩ = some (.slice (some ⟨db, off, none⟩) n c) := by rw [hw0]; exact hd
  have hf00 : w0.frozen? ⟨db, off + k, none⟩ = false := by rw [hw0]; exact hf0
  have hx00 : w0.cell? ⟨db, off + k, none⟩ = some (.int .u8 x0) := by rw [hw0]; exact hx0
  have hf01 : w0.frozen? ⟨db, off + (k + 1), none⟩ = false := by rw [hw0]; exact hf1
  have hx01 : w0.cell? ⟨db, off + (k + 1), none⟩ = some (.int .u8 x1) := by rw [hw0]; exact hx1
  have hf02 : w0.frozen? ⟨db, off + (k + 2), none⟩ = false := by rw [hw0]; exact hf2
  have hx02 : w0.cell? ⟨db, off + (k + 2), none⟩ = some (.int .u8 x2) := by rw [hw0]; exact hx2
  have hf03 : w0.frozen? ⟨db, off + (k + 3), none⟩ = false := by rw [hw0]; exact hf3
  have hx03 : w0.cell? ⟨db, off + (k + 3), none⟩ = some (.int .u8 x3) := by rw [hw0]; exact hx3
  rw [← hw0]
  have HW0 := Lib.hid hw0
  clear hw0 hd hf0 hx0 hf1 hx1 hf2 hx2 hf3 hx3
  refine wp_loop_rounds 5 ?_
  rw [rounds_succ]; go_wp2
  go_region
  all_goals go_wp2
  obtain ⟨w1, hw1⟩ : ∃ w1 : World, w1 = (w0.setCell ⟨db, off + k, none⟩ (.int .u8 (v % 256))).drew := ⟨_, rfl⟩
  rw [← hw1]
  have hd1 : w1.cell? ⟨b, 36, none⟩ = some (.slice (some ⟨db, off, none⟩) n c) := by
    rw [hw1]; exact (World.cell?_setCell_other _ _ _ _ (fun h => hne (by injection h))).trans hd0
  have hf11 : w1.frozen? ⟨db, off + (k + 1), none⟩ = false := by
    rw [hw1]; exact (World.frozen?_setCell _ _ _ _).trans hf01
  have hx11 : w1.cell? ⟨db, off + (k + 1), none⟩ = some (.int .u8 x1) := by
    rw [hw1]; exact (World.cell?_setCell_other _ _ _ _ (fun h => by injection h with _ h2 _; omega)).trans hx01
  have hf12 : w1.frozen? ⟨db, off + (k + 2), none⟩ = false := by
    rw [hw1]; exact (World.frozen?_setCell _ _ _ _).trans hf02
  have hx12 : w1.cell? ⟨db, off + (k + 2), none⟩ = some (.int .u8 x2) := by
    rw [hw1]; exact (World.cell?_setCell_other _ _ _ _ (fun h => by injection h with _ h2 _; omega)).trans hx02
  have hf13 : w1.frozen? ⟨db, off + (k + 3), none⟩ = false := by
    rw [hw1]; exact (World.frozen?_setCell _ _ _ _).trans hf03
  have hx13 : w1.cell? ⟨db, off + (k + 3), none⟩ = some (.int .u8 x3) := by
    rw [hw1]; exact (World.cell?_setCell_other _ _ _ _ (fun h => by injection h with _ h2 _; omega)).trans hx03
  have HW1 := Lib.hid hw1
  clear hw1 hd0 hf00 hx00 hf01 hx01 hf02 hx02 hf03 hx03
  rw [rounds_succ]; go_wp2
  go_region
  all_goals go_wp2
  obtain ⟨w2, hw2⟩ : ∃ w2 : World, w2 = (w1.setCell ⟨db, off + (k + 1), none⟩ (.int .u8 (v / 256 % 256))).drew := ⟨_, rfl⟩
  rw [← hw2]
  have hd2 : w2.cell? ⟨b, 36, none⟩ = some (.slice (some ⟨db, off, none⟩) n c) := by
    rw [hw2]; exact (World.cell?_setCell_other _ _ _ _ (fun h => hne (by injection h))).trans hd1
  have hf22 : w2.frozen? ⟨db, off + (k + 2), none⟩ = false := by
    rw [hw2]; exact (World.frozen?_setCell _ _ _ _).trans hf12
  have hx22 : w2.cell? ⟨db, off + (k + 2), none⟩ = some (.int .u8 x2) := by
    rw [hw2]; exact (World.cell?_setCell_other _ _ _ _ (fun h => by injection h with _ h2 _; omega)).trans hx12
  have hf23 : w2.frozen? ⟨db, off + (k + 3), none⟩ = false := by
    rw [hw2]; exact (World.frozen?_setCell _ _ _ _).trans hf13
  have hx23 : w2.cell? ⟨db, off + (k + 3), none⟩ = some (.int .u8 x3) := by
    rw [hw2]; exact (World.cell?_setCell_other _ _ _ _ (fun h => by injection h with _ h2 _; omega)).trans hx13
  have HW2 := Lib.hid hw2
  clear hw2 hd1 hf11 hx11 hf12 hx12 hf13 hx13
  rw [rounds_succ]; go_wp2
  go_region
  all_goals go_wp2
  obtain ⟨w3, hw3⟩ : ∃ w3 : World, w3 = (w2.setCell ⟨db, off + (k + 2), none⟩ (.int .u8 (v / 65536 % 256))).drew := ⟨_, rfl⟩
  rw [← hw3]
  have hd3 : w3.cell? ⟨b, 36, none⟩ = some (.slice (some ⟨db, off, none⟩) n c) := by
    rw [hw3]; exact (World.cell?_setCell_other _ _ _ _ (fun h => hne (by injection h))).trans hd2
  have hf33 : w3.frozen? ⟨db, off + (k + 3), none⟩ = false := by
    rw [hw3]; exact (World.frozen?_setCell _ _ _ _).trans hf23
  have hx33 : w3.cell? ⟨db, off + (k + 3), none⟩ = some (.int .u8 x3) := by
    rw [hw3]; exact (World.cell?_setCell_other _ _ _ _ (fun h => by injection h with _ h2 _; omega)).trans hx23
  have HW3 := Lib.hid hw3
  clear hw3 hd2 hf22 hx22 hf23 hx23
  rw [rounds_succ]; go_wp2
  go_region
  all_goals go_wp2
  obtain ⟨w4, hw4⟩ : ∃ w4 : World, w4 = (w3.setCell ⟨db, off + (k + 3), none⟩ (.int .u8 (v / 16777216))).drew := ⟨_, rfl⟩
  rw [← hw4]
  have HW4 := Lib.hid hw4
  clear hw4 hd3 hf33 hx33
  rw [rounds_succ]; go_wp2
  go_ret
  exact ⟨rfl, j + 4, by rw [HW4.out, HW3.out, HW2.out, HW1.out, HW0.out]; rfl⟩
theorem dv95_seq (b : Nat) (v x : Int) (w : World) (hx : w.cell? ⟨b, 33, none⟩ = some (.int .u32 x)) (hf : w.frozen? ⟨b, 33, none⟩ = false) :
    Calls Tryz.prog 92 #[.pointer (some ⟨b, 0, none⟩), .int .u32 536870912, .int .u32 v] w fun e w' => e = .returned (.bool true) ∧ w' = w.setCell ⟨b, 33, none⟩ (.int .u32 v) := by
  go_enter Tryz.func92, Tryz.ntmps92
  go_wp2
  go_ret
  exact ⟨rfl, rfl⟩
theorem dv95_index (b : Nat) (v x : Int) (w : World) (hx : w.cell? ⟨b, 34, none⟩ = some (.int .u32 x)) (hf : w.frozen? ⟨b, 34, none⟩ = false) :
    Calls Tryz.prog 92 #[.pointer (some ⟨b, 0, none⟩), .int .u32 536870920, .int .u32 v] w fun e w' => e = .returned (.bool true) ∧ w' = w.setCell ⟨b, 34, none⟩ (.int .u32 v) := by
  go_enter Tryz.func92, Tryz.ntmps92
  go_wp2
  go_ret
  exact ⟨rfl, rfl⟩
theorem dv95_no (b : Nat) (a v : Int) (w : World) (h0 : (a == 536870912) = false) (h1 : (a == 536870916) = false) (h2 : (a == 536870920) = false) (h3 : (a == 536870928) = false) :
    Calls Tryz.prog 92 #[.pointer (some ⟨b, 0, none⟩), .int .u32 a, .int .u32 v] w fun e w' => e = .returned (.bool false) ∧ w' = w := by
  go_enter Tryz.func92, Tryz.ntmps92
  go_wp2
  go_ret
  exact ⟨rfl, rfl⟩
theorem dv95_halt (b : Nat) (v x y : Int) (w : World) (hx : w.cell? ⟨b, 40, none⟩ = some (.int .i64 x)) (hf : w.frozen? ⟨b, 40, none⟩ = false)
    (hy : w.cell? ⟨b, 41, none⟩ = some (.int .u32 y)) (hg : w.frozen? ⟨b, 41, none⟩ = false) :
    Calls Tryz.prog 92 #[.pointer (some ⟨b, 0, none⟩), .int .u32 536870928, .int .u32 v] w fun e w' => e = .returned (.bool true) ∧ w' = (w.setCell ⟨b, 40, none⟩ (.int .i64 1)).setCell ⟨b, 41, none⟩ (.int .u32 v) := by
  go_enter Tryz.func92, Tryz.ntmps92
  go_wp2
  go_ret
  exact ⟨rfl, rfl⟩
theorem dv86_b (b : Nat) (a v : Int) (ok : Bool) (R : World → Prop) (w : World)
    (H : Hid (Calls Tryz.prog 91 #[.pointer (some ⟨b, 0, none⟩), .int .u32 a, .int .i64 1, .int .u32 v] w fun e w' => e = .returned (.bool ok) ∧ R w')) :
    Calls Tryz.prog 58 #[.pointer (some ⟨b, 0, none⟩), .int .i64 16, .int .u32 a, .int .u32 v] w fun e w' => e = .returned (.bool ok) ∧ R w' := by
  go_enter Tryz.func58, Tryz.ntmps58
  go_wp2_with (first | (go_at_call 91; (with_reducible refine H.out.mono ?_); rintro e w' ⟨rfl, hr⟩; have HR := Lib.hid hr; clear hr))
  go_ret
  exact ⟨rfl, HR.out⟩
theorem dv86_h (b : Nat) (a v : Int) (ok : Bool) (R : World → Prop) (w : World)
    (H : Hid (Calls Tryz.prog 91 #[.pointer (some ⟨b, 0, none⟩), .int .u32 a, .int .i64 2, .int .u32 v] w fun e w' => e = .returned (.bool ok) ∧ R w')) :
    Calls Tryz.prog 58 #[.pointer (some ⟨b, 0, none⟩), .int .i64 17, .int .u32 a, .int .u32 v] w fun e w' => e = .returned (.bool ok) ∧ R w' := by
  go_enter Tryz.func58, Tryz.ntmps58
  go_wp2_with (first | (go_at_call 91; (with_reducible refine H.out.mono ?_); rintro e w' ⟨rfl, hr⟩; have HR := Lib.hid hr; clear hr))
  go_ret
  exact ⟨rfl, HR.out⟩
theorem dv86_w (b : Nat) (a v : Int) (ok : Bool) (R : World → Prop) (w : World) (h0 : (a == 536870912) = false) (h1 : (a == 536870916) = false) (h2 : (a == 536870920) = false) (h3 : (a == 536870928) = false)
    (H : Hid (Calls Tryz.prog 91 #[.pointer (some ⟨b, 0, none⟩), .int .u32 a, .int .i64 4, .int .u32 v] w fun e w' => e = .returned (.bool ok) ∧ R w')) :
    Calls Tryz.prog 58 #[.pointer (some ⟨b, 0, none⟩), .int .i64 18, .int .u32 a, .int .u32 v] w fun e w' => e = .returned (.bool ok) ∧ R w' := by
  have HT := Lib.hid (dv95_no b a v w h0 h1 h2 h3)
  clear h0 h1 h2 h3
  go_enter Tryz.func58, Tryz.ntmps58
  go_wp2_with (first | (go_at_call 91; (with_reducible refine H.out.mono ?_); rintro e w' ⟨rfl, hr⟩; have HR := Lib.hid hr; clear hr) | (go_at_call 92; (with_reducible refine HT.out.mono ?_); rintro e w' ⟨rfl, rfl⟩))
  go_ret
  exact ⟨rfl, HR.out⟩
theorem dv86_p (b : Nat) (a v : Int) (R : World → Prop) (w : World)
    (H : Hid (Calls Tryz.prog 92 #[.pointer (some ⟨b, 0, none⟩), .int .u32 a, .int .u32 v] w fun e w' => e = .returned (.bool true) ∧ R w')) :
    Calls Tryz.prog 58 #[.pointer (some ⟨b, 0, none⟩), .int .i64 18, .int .u32 a, .int .u32 v] w fun e w' => e = .returned (.bool true) ∧ R w' := by
  go_enter Tryz.func58, Tryz.ntmps58
  go_wp2_with (first | (go_at_call 92; (with_reducible refine H.out.mono ?_); rintro e w' ⟨rfl, hr⟩; have HR := Lib.hid hr; clear hr))
  go_ret
  exact ⟨rfl, HR.out⟩
end Go.Proofs.YthhahfggbjegmaaGreat
