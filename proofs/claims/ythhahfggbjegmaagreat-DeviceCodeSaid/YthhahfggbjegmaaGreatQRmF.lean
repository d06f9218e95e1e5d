/-
  Stores of the document's own machine (layer 3): the ports, and outside of the data. Stores of the document's own machine in the data (layer 3). Stores of the document's own machine that lies in a world (layer 3).
-/
import Derived.Test.YthhahfggbjegmaaGreatQRmB
import Derived.Deep.RegionLaw
import Derived.Deep.AppendLies
import Derived.Outline
namespace Go.Proofs.YthhahfggbjegmaaGreat
open Go.RowKit
set_option linter.unusedVariables false
set_option linter.unusedSimpArgs false
section
variable (rb : Nat) (w : World)
theorem rm_store_seq (v q : Int) (v0 : 0 ≤ v) (v1 : v ≤ 4294967295) (hx : w.cell? ⟨rb, 5, none⟩ = some (.int .u32 q)) (hf : w.frozen? ⟨rb, 5, none⟩ = false) :
    Calls Tryz.prog 47 #[.pointer (some ⟨rb, 0, none⟩), .int .i64 18, .int .i64 536870912, .int .u32 v] w fun e w' => e = .returned (.bool true) ∧ w' = w.setCell ⟨rb, 5, none⟩ (.int .u32 v) := by
  go_enter Tryz.func47, Tryz.ntmps47
  go_wp2
  go_ret
  exact ⟨rfl, rfl⟩
theorem rm_store_index (v q : Int) (v0 : 0 ≤ v) (v1 : v ≤ 4294967295) (hx : w.cell? ⟨rb, 6, none⟩ = some (.int .u32 q)) (hf : w.frozen? ⟨rb, 6, none⟩ = false) :
    Calls Tryz.prog 47 #[.pointer (some ⟨rb, 0, none⟩), .int .i64 18, .int .i64 536870920, .int .u32 v] w fun e w' => e = .returned (.bool true) ∧ w' = w.setCell ⟨rb, 6, none⟩ (.int .u32 v) := by
  go_enter Tryz.func47, Tryz.ntmps47
  go_wp2
  go_ret
  exact ⟨rfl, rfl⟩
theorem rm_store_halt (v q s : Int) (v0 : 0 ≤ v) (v1 : v ≤ 4294967295) (hs : w.cell? ⟨rb, 9, none⟩ = some (.int .i64 s)) (fs : w.frozen? ⟨rb, 9, none⟩ = false) (hx : w.cell? ⟨rb, 10, none⟩ = some (.int .u32 q)) (hf : w.frozen? ⟨rb, 10, none⟩ = false) :
    Calls Tryz.prog 47 #[.pointer (some ⟨rb, 0, none⟩), .int .i64 18, .int .i64 536870928, .int .u32 v] w fun e w' => e = .returned (.bool true) ∧ w' = (w.setCell ⟨rb, 9, none⟩ (.int .i64 1)).setCell ⟨rb, 10, none⟩ (.int .u32 v) := by
  go_enter Tryz.func47, Tryz.ntmps47
  go_wp2
  go_ret
  exact ⟨rfl, rfl⟩
theorem rm_store_no (n c : Nat) (da : Option Addr) (op a v : Int) (ho : 16 ≤ op ∧ op ≤ 18) (hq : op = 18 → a ≠ 536870912 ∧ a ≠ 536870916 ∧ a ≠ 536870920 ∧ a ≠ 536870928) (a0 : 0 ≤ a) (a1 : a ≤ 4294967295) (v0 : 0 ≤ v) (v1 : v ≤ 4294967295) (hn : n ≤ 65536)
    (hd : w.cell? ⟨rb, 1, none⟩ = some (.slice da n c)) (hp : placeF n a (sizeF op) = false) :
    Calls Tryz.prog 47 #[.pointer (some ⟨rb, 0, none⟩), .int .i64 op, .int .i64 a, .int .u32 v] w fun e w' => e = .returned (.bool false) ∧ w = w' := by
  have hz : sizeF op = 1 ∨ sizeF op = 2 ∨ sizeF op = 4 := by
    have : op = 16 ∨ op = 17 ∨ op = 18 := by omega
    rcases this with rfl | rfl | rfl <;> decide
  have HI := Lib.hid (fun w h => (rm_in rb n da c a (sizeF op) hz hn a0 a1 w h))
  rw [hp] at HI
  have HSz : Hid (∀ w, Calls Tryz.prog 69 #[.int .i64 op] w fun e w' => e = .returned (.int .i64 (sizeF op)) ∧ w = w') := Lib.hid (fun w => rm_size op (by omega) w)
  clear hp hz
  have hc : op = 16 ∨ op = 17 ∨ op = 18 := by omega
  rcases hc with rfl | rfl | rfl
  · clear ho hq
    go_enter Tryz.func47, Tryz.ntmps47
    go_wp2_with (first
      | (go_at_call 69; (with_reducible refine (HSz.out _).mono ?_); rintro e w' ⟨rfl, rfl⟩)
      | (go_at_call 70; (with_reducible refine (HI.out _ (by assumption)).mono ?_); rintro e w' ⟨rfl, rfl⟩))
    go_ret
    exact ⟨rfl, rfl⟩
  · clear ho hq
    go_enter Tryz.func47, Tryz.ntmps47
    go_wp2_with (first
      | (go_at_call 69; (with_reducible refine (HSz.out _).mono ?_); rintro e w' ⟨rfl, rfl⟩)
      | (go_at_call 70; (with_reducible refine (HI.out _ (by assumption)).mono ?_); rintro e w' ⟨rfl, rfl⟩))
    go_ret
    exact ⟨rfl, rfl⟩
  · obtain ⟨q1, q2, q3, q4⟩ := hq rfl
    have k1 : (a - 536870912 == 0) = false := by rw [beq_eq_false_iff_ne]; omega
    have k2 : (a - 536870912 == 4) = false := by rw [beq_eq_false_iff_ne]; omega
    have k3 : (a - 536870912 == 8) = false := by rw [beq_eq_false_iff_ne]; omega
    have k4 : (a - 536870912 == 16) = false := by rw [beq_eq_false_iff_ne]; omega
    clear ho hq q1 q2 q3 q4
    go_enter Tryz.func47, Tryz.ntmps47
    go_wp2_with (first
      | (go_at_call 69; (with_reducible refine (HSz.out _).mono ?_); rintro e w' ⟨rfl, rfl⟩)
      | (go_at_call 70; (with_reducible refine (HI.out _ (by assumption)).mono ?_); rintro e w' ⟨rfl, rfl⟩))
    go_ret
    exact ⟨rfl, rfl⟩
end
theorem info_rrec : (Tryz.prog.info? 64).map (fun i => (i.zero, i.size, i.bytes)) = some (some (.agg #[.int .u32 0, .int .u32 0]), 2, 8) := by kernel_rfl
set_option maxRecDepth 100000 in
set_option maxHeartbeats 3200000 in
theorem rm_store_log (b : Nat) (v q : Int) (ov : Value) (base n : Nat) (xs : List Value) (w : World)
    (h38 : w.cell? ⟨b, 7, none⟩ = some ov) (h33 : w.cell? ⟨b, 5, none⟩ = some (.int .u32 q)) (hf : w.frozen? ⟨b, 7, none⟩ = false)
    (hown : w.ownsRow base 64 2 ov n xs) (hbase : base ≤ w.heap.size) (hn : n + 1 ≤ 1000000) (ag : ov.ownBlock ≠ some b) :
    Calls Tryz.prog 47 #[.pointer (some ⟨b, 0, none⟩), .int .i64 18, .int .i64 536870916, .int .u32 v] w fun e w' => e = .returned (.bool true) ∧ ∃ gg cap w1 j,
      w1.ownsRow base 64 2 (.slice (some ⟨gg, 0, none⟩) (n + 1) cap) (n + 1) (xs ++ [.int .u32 q, .int .u32 v]) ∧ Fr (fun k => ov.ownBlock = some k) w w1 ∧ (ov.ownBlock = some gg ∨ w.heap.size ≤ gg) ∧
      w' = (w1.setCell ⟨b, 7, none⟩ (.slice (some ⟨gg, 0, none⟩) (n + 1) cap)).drewN j := by
  obtain ⟨i0, hi0, hz0, hz1, hz2⟩ := info_parts info_rrec
  have lg := World.block_lt_of_cell? w _ h38
  have hfA : ∀ o : Obj, (w.alloc o).frozen? ⟨b, 7, none⟩ = false := fun o => ((World.grownBy_alloc w o none).frozen_far ⟨b, 7, none⟩ lg (by simp)).trans hf
  have hA38 : ∀ o : Obj, (w.alloc o).cell? ⟨b, 7, none⟩ = some ov := fun o => ((World.grownBy_alloc w o none).cell_far ⟨b, 7, none⟩ lg (by simp)).trans h38
  go_enter Tryz.func47, Tryz.ntmps47
  go_wp2_with fail
  go_region_law
    ((refine step_append_lies _ (by rfl) _ _ _ (by rfl) base 64 i0 _ 2 8 Tryz.underlying41 hi0 hz0 hz1 hz2 rfl (by omega) ov n xs (by rfl) ((hown.alloc _).drew)
        ⟨w.heap.size, 0, none⟩ 1 1 [.int .u32 q, .int .u32 v] (by rfl) (by rfl) (World.news_of_block (cs := #[.int .u32 q, .int .u32 v]) (t := 64) (fr := (0, 0)) (heap_alloc_new w _)) (by simp [Value.oneCell'])
        (by omega) (by unfold maxLen; omega) (by omega) (by simp; omega) (w.heap.size + 1) (by simp) ?_; intro gg cap w1 hown1 hgrow hat hlt; have c38 : w1.cell? ⟨b, 7, none⟩ = some ov := (hgrow.cell_far _ (by simp; omega) (Ne.symm ag)).trans (hA38 _); have f38 : w1.frozen? ⟨b, 7, none⟩ = false := (hgrow.frozen_far _ (by simp; omega) (Ne.symm ag)).trans (hfA _)))
  all_goals
    go_wp2
    go_ret
    exact ⟨rfl, gg, cap, w1, 0, hown1, (Fr.of_by0 (byDrewN (byAlloc (byRefl w) _) 1)).trans ((Fr.of_by hgrow).mono (fun k _ e => e.symm ▸ rfl)), hat.imp id (fun e => by omega), rfl⟩
set_option maxHeartbeats 2000000 in
theorem rm_s16 (rb db n c k : Nat) (v x0 : Int) (v0 : 0 ≤ v) (v1 : v ≤ 4294967295) (hn : n ≤ 65536) (hk : k + 1 ≤ n) (hne : db ≠ rb) (w : World)
    (hd : w.cell? ⟨rb, 1, none⟩ = some (.slice (some ⟨db, 0, none⟩) n c)) (hp : placeF n (268435456 + k) 1 = true)
    (hf0 : w.frozen? ⟨db, k, none⟩ = false) (hx0 : w.cell? ⟨db, k, none⟩ = some (.int .u8 x0)) :
    Calls Tryz.prog 47 #[.pointer (some ⟨rb, 0, none⟩), .int .i64 16, .int .i64 (268435456 + k), .int .u32 v] w fun e w' => e = .returned (.bool true) ∧ ∃ j, w' = (w.setCell ⟨db, k, none⟩ (.int .u8 (v % 256))).drewN j := by
  have HI := Lib.hid (fun w h => (rm_in rb n (some ⟨db, 0, none⟩) c (268435456 + k) 1 (.inl rfl) hn (by omega) (by omega) w h))
  rw [hp] at HI
  have HSz : Hid (∀ w, Calls Tryz.prog 69 #[.int .i64 16] w fun e w' => e = .returned (.int .i64 1) ∧ w = w') := Lib.hid (fun w => rm_size 16 (by decide) w)
  have t0 : (0 : Int) ≤ k := by omega
  have t1 : (k : Int) + 1 ≤ n := by omega
  clear hp
  go_enter Tryz.func47, Tryz.ntmps47
  go_wp2_with (first
    | (go_at_call 69; (with_reducible refine (HSz.out _).mono ?_); rintro e w' ⟨rfl, rfl⟩)
    | (go_at_call 70; (with_reducible refine (HI.out _ (by assumption)).mono ?_); rintro e w' ⟨rfl, rfl⟩))
  refine wp_loop_rounds 2 ?_
  rw [rounds_succ]; go_wp2
  rw [rounds_succ]; go_wp2
  go_ret
  exact ⟨rfl, 0, rfl⟩
set_option maxHeartbeats 2000000 in
theorem rm_s17 (rb db n c k : Nat) (v x0 x1 : Int) (v0 : 0 ≤ v) (v1 : v ≤ 4294967295) (hn : n ≤ 65536) (hk : k + 2 ≤ n) (hne : db ≠ rb) (w : World)
    (hd : w.cell? ⟨rb, 1, none⟩ = some (.slice (some ⟨db, 0, none⟩) n c)) (hp : placeF n (268435456 + k) 2 = true)
    (hf0 : w.frozen? ⟨db, k, none⟩ = false) (hx0 : w.cell? ⟨db, k, none⟩ = some (.int .u8 x0)) (hf1 : w.frozen? ⟨db, k + 1, none⟩ = false) (hx1 : w.cell? ⟨db, k + 1, none⟩ = some (.int .u8 x1)) :
    Calls Tryz.prog 47 #[.pointer (some ⟨rb, 0, none⟩), .int .i64 17, .int .i64 (268435456 + k), .int .u32 v] w fun e w' => e = .returned (.bool true) ∧ ∃ j, w' = ((w.setCell ⟨db, k, none⟩ (.int .u8 (v % 256))).setCell ⟨db, k + 1, none⟩ (.int .u8 (v / 256 % 256))).drewN j := by
  have HI := Lib.hid (fun w h => (rm_in rb n (some ⟨db, 0, none⟩) c (268435456 + k) 2 (.inr (.inl rfl)) hn (by omega) (by omega) w h))
  rw [hp] at HI
  have HSz : Hid (∀ w, Calls Tryz.prog 69 #[.int .i64 17] w fun e w' => e = .returned (.int .i64 2) ∧ w = w') := Lib.hid (fun w => rm_size 17 (by decide) w)
  have t0 : (0 : Int) ≤ k := by omega
  have t1 : (k : Int) + 2 ≤ n := by omega
  have e1 : (268435456 + (k : Int) - 268435456 + 1) = ((k + 1 : Nat) : Int) := by omega
  clear hp
  go_enter Tryz.func47, Tryz.ntmps47
  go_wp2_with (first
    | (go_at_call 69; (with_reducible refine (HSz.out _).mono ?_); rintro e w' ⟨rfl, rfl⟩)
    | (go_at_call 70; (with_reducible refine (HI.out _ (by assumption)).mono ?_); rintro e w' ⟨rfl, rfl⟩))
  refine wp_loop_rounds 3 ?_
  rw [rounds_succ]; go_wp2
  rw [rounds_succ]; go_wp2
  rw [rounds_succ]; go_wp2
  go_ret
  exact ⟨rfl, 0, rfl⟩
set_option maxHeartbeats 2000000 in
theorem rm_s18 (rb db n c k : Nat) (v x0 x1 x2 x3 : Int) (v0 : 0 ≤ v) (v1 : v ≤ 4294967295) (hn : n ≤ 65536) (hk : k + 4 ≤ n) (hne : db ≠ rb) (w : World)
    (hd : w.cell? ⟨rb, 1, none⟩ = some (.slice (some ⟨db, 0, none⟩) n c)) (hp : placeF n (268435456 + k) 4 = true)
    (hf0 : w.frozen? ⟨db, k, none⟩ = false) (hx0 : w.cell? ⟨db, k, none⟩ = some (.int .u8 x0)) (hf1 : w.frozen? ⟨db, k + 1, none⟩ = false) (hx1 : w.cell? ⟨db, k + 1, none⟩ = some (.int .u8 x1)) (hf2 : w.frozen? ⟨db, k + 2, none⟩ = false) (hx2 : w.cell? ⟨db, k + 2, none⟩ = some (.int .u8 x2)) (hf3 : w.frozen? ⟨db, k + 3, none⟩ = false) (hx3 : w.cell? ⟨db, k + 3, none⟩ = some (.int .u8 x3)) :
    Calls Tryz.prog 47 #[.pointer (some ⟨rb, 0, none⟩), .int .i64 18, .int .i64 (268435456 + k), .int .u32 v] w fun e w' => e = .returned (.bool true) ∧ ∃ j, w' = ((((w.setCell ⟨db, k, none⟩ (.int .u8 (v % 256))).setCell ⟨db, k + 1, none⟩ (.int .u8 (v / 256 % 256))).setCell ⟨db, k + 2, none⟩ (.int .u8 (v / 256 / 256 % 256))).setCell ⟨db, k + 3, none⟩ (.int .u8 (v / 256 / 256 / 256 % 256))).drewN j := by
  have HI := Lib.hid (fun w h => (rm_in rb n (some ⟨db, 0, none⟩) c (268435456 + k) 4 (.inr (.inr rfl)) hn (by omega) (by omega) w h))
  rw [hp] at HI
  have HSz : Hid (∀ w, Calls Tryz.prog 69 #[.int .i64 18] w fun e w' => e = .returned (.int .i64 4) ∧ w = w') := Lib.hid (fun w => rm_size 18 (by decide) w)
  have t0 : (0 : Int) ≤ k := by omega
  have t1 : (k : Int) + 4 ≤ n := by omega
  have e1 : (268435456 + (k : Int) - 268435456 + 1) = ((k + 1 : Nat) : Int) := by omega
  have e2 : (268435456 + (k : Int) - 268435456 + 2) = ((k + 2 : Nat) : Int) := by omega
  have e3 : (268435456 + (k : Int) - 268435456 + 3) = ((k + 3 : Nat) : Int) := by omega
  have k1 : (268435456 + (k : Int) - 536870912 == 0) = false := by rw [beq_eq_false_iff_ne]; omega
  have k2 : (268435456 + (k : Int) - 536870912 == 4) = false := by rw [beq_eq_false_iff_ne]; omega
  have k3 : (268435456 + (k : Int) - 536870912 == 8) = false := by rw [beq_eq_false_iff_ne]; omega
  have k4 : (268435456 + (k : Int) - 536870912 == 16) = false := by rw [beq_eq_false_iff_ne]; omega
  clear hp
  go_enter Tryz.func47, Tryz.ntmps47
  go_wp2_with (first
    | (go_at_call 69; (with_reducible refine (HSz.out _).mono ?_); rintro e w' ⟨rfl, rfl⟩)
    | (go_at_call 70; (with_reducible refine (HI.out _ (by assumption)).mono ?_); rintro e w' ⟨rfl, rfl⟩))
  refine wp_loop_rounds 5 ?_
  rw [rounds_succ]; go_wp2
  rw [rounds_succ]; go_wp2
  rw [rounds_succ]; go_wp2
  rw [rounds_succ]; go_wp2
  rw [rounds_succ]; go_wp2
  go_ret
  exact ⟨rfl, 0, rfl⟩
theorem rm_store_at {base : Nat} {R : RLay} {gb : Nat} {lv : Value} {s : MSt} {w : World} (h : RAt base w R gb lv s) (hw : RWf base R gb lv) (hl : s.log.length < 900000) (op a v : Int) (ho : 16 ≤ op ∧ op ≤ 18) (a0 : 0 ≤ a) (a1 : a ≤ 4294967295) (v0 : 0 ≤ v) (v1 : v ≤ 4294967295) :
    Calls Tryz.prog 47 #[.pointer (some ⟨R.rb, 0, none⟩), .int .i64 op, .int .i64 a, .int .u32 v] w fun e w' => e = .returned (.bool (storeM R.lay s op a v).isSome) ∧ ROkay base R gb lv w w' ((storeM R.lay s op a v).getD s) := by
  by_cases h0 : op = 18 ∧ a = 536870912
  · obtain ⟨rfl, rfl⟩ := h0
    have e : storeM R.lay s 18 536870912 v = some { s with c := updN s.c 33 v } := by unfold storeM; rw [if_pos ⟨rfl, rfl⟩]
    rw [e]
    refine (rm_store_seq R.rb w v _ v0 v1 (h.num 5 (.inr (.inl rfl))) (h.free 5 (by decide))).mono ?_
    rintro e w' ⟨rfl, rfl⟩
    exact ⟨rfl, ROkay.setNum h hw 5 (.inr (.inl rfl)) v v0 (fun _ => v1)⟩
  by_cases h1 : op = 18 ∧ a = 536870916
  · obtain ⟨rfl, rfl⟩ := h1
    have e : storeM R.lay s 18 536870916 v = some { s with log := s.log ++ [(s.c 33, v)] } := by unfold storeM; rw [if_neg (by omega), if_pos ⟨rfl, rfl⟩]
    rw [e]
    refine (rm_store_log R.rb v (s.c 33) lv base s.log.length (recCells s.log) w h.logv (h.num 5 (.inr (.inl rfl))) (h.free 7 (by decide)) h.own h.bb (by omega) (fun e => (hw.lb _ e).1 rfl)).mono ?_
    rintro e w' ⟨rfl, gg, cap, w1, j, hown, hf, hg, rfl⟩
    exact ⟨rfl, (h.setLog hw hf hown (fun g e => by
      have : gg = g := by simpa [Value.ownBlock] using e
      subst this; exact hg)).drewN j⟩
  by_cases h2 : op = 18 ∧ a = 536870920
  · obtain ⟨rfl, rfl⟩ := h2
    have e : storeM R.lay s 18 536870920 v = some { s with c := updN s.c 34 v } := by unfold storeM; rw [if_neg (by omega), if_neg (by omega), if_pos ⟨rfl, rfl⟩]
    rw [e]
    refine (rm_store_index R.rb w v _ v0 v1 (h.num 6 (.inr (.inr (.inl rfl)))) (h.free 6 (by decide))).mono ?_
    rintro e w' ⟨rfl, rfl⟩
    exact ⟨rfl, ROkay.setNum h hw 6 (.inr (.inr (.inl rfl))) v v0 (fun _ => v1)⟩
  by_cases h3 : op = 18 ∧ a = 536870928
  · obtain ⟨rfl, rfl⟩ := h3
    have e : storeM R.lay s 18 536870928 v = some { s with c := updN (updN s.c 40 1) 41 v } := by unfold storeM; rw [if_neg (by omega), if_neg (by omega), if_neg (by omega), if_pos ⟨rfl, rfl⟩]
    rw [e]
    refine (rm_store_halt R.rb w v _ _ v0 v1 (h.num 9 (.inr (.inr (.inr (.inr (.inl rfl)))))) (h.free 9 (by decide)) (h.num 10 (.inr (.inr (.inr (.inr (.inr rfl)))))) (h.free 10 (by decide))).mono ?_
    rintro e w' ⟨rfl, rfl⟩
    exact ⟨rfl, (ROkay.setNum h hw 9 (.inr (.inr (.inr (.inr (.inl rfl))))) 1 (by decide) (fun e => by cases e)).trans fun _ _ a f => ROkay.setNum a f 10 (.inr (.inr (.inr (.inr (.inr rfl))))) v v0 (fun _ => v1)⟩
  have e : storeM R.lay s op a v = if placeF R.dn a (sizeF op) = true then some { s with data := putM s.data (a - 268435456).toNat (sizeF op) v } else none := by
    unfold storeM; rw [if_neg h0, if_neg h1, if_neg h2, if_neg h3]; rfl
  have hz : sizeF op = 1 ∨ sizeF op = 2 ∨ sizeF op = 4 := by
    have : op = 16 ∨ op = 17 ∨ op = 18 := by omega
    rcases this with rfl | rfl | rfl <;> decide
  have hdn := hw.dn
  rw [e]
  cases hpl : placeF R.dn a (sizeF op) with
  | false =>
    rw [if_neg (by decide)]
    refine (rm_store_no R.rb w R.dn R.dc _ op a v ho (fun e => ⟨fun q => h0 ⟨e, q⟩, fun q => h1 ⟨e, q⟩, fun q => h2 ⟨e, q⟩, fun q => h3 ⟨e, q⟩⟩) a0 a1 v0 v1 (by omega) h.dat hpl).mono ?_
    rintro e w' ⟨rfl, rfl⟩
    exact ⟨rfl, ROkay.quiet h hw (Fr.refl _ _)⟩
  | true =>
    rw [if_pos rfl]
    obtain ⟨k, rfl, hk, hks⟩ := place_in hz hpl
    rw [hk]
    clear e h0 h1 h2 h3 hz hk
    have : op = 16 ∨ op = 17 ∨ op = 18 := by omega
    rcases this with rfl | rfl | rfl
    · have hks : (k : Int) + 1 ≤ R.dn := hks
      have hk0 : k < R.dn := by omega
      show Calls _ _ _ _ fun e w' => _ ∧ ROkay base R gb lv w w' { s with data := putM s.data k 1 v }
      rw [put1]
      refine (rm_s16 R.rb R.db R.dn R.dc k v _ v0 v1 (by omega) (by omega) hw.db w h.dat hpl (h.dfree k hk0) (h.byte k hk0)).mono ?_
      rintro e w' ⟨rfl, j, rfl⟩
      exact ⟨rfl, (ROkay.setByte h hw k hk0 _ (by omega)).drewN j⟩
    · have hks : (k : Int) + 2 ≤ R.dn := hks
      have hk0 : k < R.dn := by omega
      have hk1 : k + 1 < R.dn := by omega
      show Calls _ _ _ _ fun e w' => _ ∧ ROkay base R gb lv w w' { s with data := putM s.data k 2 v }
      rw [put2]
      refine (rm_s17 R.rb R.db R.dn R.dc k v _ _ v0 v1 (by omega) (by omega) hw.db w h.dat hpl (h.dfree k hk0) (h.byte k hk0) (h.dfree (k+1) hk1) (h.byte (k+1) hk1)).mono ?_
      rintro e w' ⟨rfl, j, rfl⟩
      exact ⟨rfl, ((ROkay.setByte h hw k hk0 _ (by omega)).trans fun _ _ a f => ROkay.setByte a f (k + 1) hk1 _ (by omega)).drewN j⟩
    · have hks : (k : Int) + 4 ≤ R.dn := hks
      have hk0 : k < R.dn := by omega
      have hk1 : k + 1 < R.dn := by omega
      have hk2 : k + 2 < R.dn := by omega
      have hk3 : k + 3 < R.dn := by omega
      show Calls _ _ _ _ fun e w' => _ ∧ ROkay base R gb lv w w' { s with data := putM s.data k 4 v }
      rw [put4, show v / 65536 % 256 = v / 256 / 256 % 256 by omega, show v / 16777216 = v / 256 / 256 / 256 % 256 by omega]
      refine (rm_s18 R.rb R.db R.dn R.dc k v _ _ _ _ v0 v1 (by omega) (by omega) hw.db w h.dat hpl (h.dfree k hk0) (h.byte k hk0) (h.dfree (k+1) hk1) (h.byte (k+1) hk1) (h.dfree (k+2) hk2) (h.byte (k+2) hk2) (h.dfree (k+3) hk3) (h.byte (k+3) hk3)).mono ?_
      rintro e w' ⟨rfl, j, rfl⟩
      exact ⟨rfl, ((((ROkay.setByte h hw k hk0 _ (by omega)).trans fun _ _ a f => ROkay.setByte a f (k + 1) hk1 _ (by omega)).trans fun _ _ a f => ROkay.setByte a f (k + 2) hk2 _ (by omega)).trans fun _ _ a f => ROkay.setByte a f (k + 3) hk3 _ (by omega)).drewN j⟩
end Go.Proofs.YthhahfggbjegmaaGreat
