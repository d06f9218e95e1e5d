/-
  Listing (layer 6): the line of a word; Line.
-/
import Derived.Test.YtlagdgkjpnocfaaGreatDoorLsG
namespace Go.Proofs.YtlagdgkjpnocfaaGreatDoor
open Go.RowKit
set_option linter.unusedVariables false
set_option linter.unusedSimpArgs false
theorem regV_64 (u n : Int) (b : Bool) : I64 (regV u n b) := by
  unfold regV I64
  split <;> omega
theorem sg_64 {a : Int} (h0 : 0 ≤ a) (h1 : a ≤ 4294967295) : I64 (sg a) := by
  unfold sg I64
  split <;> omega
theorem gath_in2 (f u : Int) : 0 ≤ gath f u 4 ∧ gath f u 4 ≤ 4294967295 := or_in _ _
theorem gathS_64 (f u : Int) : I64 (gathS f u) := sg_64 (signF_in _ (gath_in2 f u)).1 (signF_in _ (gath_in2 f u)).2
def decI (u : Int) : Bool := findI u != 0
/-- The line of a word, without its address. -/
def bodyT (u : Nat) : List UInt8 :=
  if findI (u : Int) = 0 then assT [46, 119, 111, 114, 100] [[48, 120] ++ hexT u]
  else lineT (findI (u : Int)) (regV u 7 (uRd (fm (findI (u : Int))))) (regV u 15 (uRs1 (fm (findI (u : Int))))) (regV u 20 (uRs2 (fm (findI (u : Int))))) (gathS (fm (findI (u : Int))) u)
theorem lay_pos {k : Nat} (hk : k < 46) (k0 : k ≠ 0) : 0 < (layT (k : Int)).length := by
  have h : ∀ k : Fin 46, k.val ≠ 0 → 0 < (layT (k.val : Int)).length := by decide
  exact h ⟨k, hk⟩ k0
theorem asT_one (a x : List UInt8) : assT a [x] = a ++ [32] ++ x := by simp [assT, Lib.join]
set_option maxRecDepth 100000 in
theorem t_body (u : Nat) (hu : u < 4294967296) (w : World) (ht : TabW w) (hd : DbW w) : Calls Tryz.prog 48 #[.int .u32 (u : Int)] w fun e w' => e = .returned (bts (bodyT u)) ∧ Fr (fun _ => False) w w' := by
  have hb : bodyT u = if findI (u : Int) = 0 then assT [46, 119, 111, 114, 100] [[48, 120] ++ hexT u] else lineT (findI (u : Int)) (regV u 7 (uRd (fm (findI (u : Int))))) (regV u 15 (uRs1 (fm (findI (u : Int))))) (regV u 20 (uRs2 (fm (findI (u : Int))))) (gathS (fm (findI (u : Int))) u) := rfl
  have hlt := find_lt (u : Int)
  have h8 := hexT_len hu
  refine calls_tw Tryz.func48 rfl rfl (Nat.le_of_ble_eq_true rfl) ?_
  refine TW.sreg ?_
  refine WL.op rfl rfl rfl (Go.Proofs.YtlagdgkjpnocfaaGreatDoor.W.quiet_assign rfl rfl) ?_
  refine WL.nil ?_
  by_cases hz : findI (u : Int) = 0
  · rw [if_pos hz] at hb
    refine TW.sreg ?_
    refine WL.op rfl rfl rfl (Go.Proofs.YtlagdgkjpnocfaaGreatDoor.W.quiet_move rfl rfl) ?_
    refine WL.call (hr := c72_none (u : Int) (by omega) (by omega) hz w) rfl rfl rfl rfl rfl (fun W => cf_dcd W _) ?_
    rintro e w1 ⟨rfl, hg⟩
    refine ⟨_, rfl, ?_⟩
    have f1 : Fr (fun _ => False) w w1 := Fr.of_grown hg
    refine WL.op rfl rfl rfl (Go.Proofs.YtlagdgkjpnocfaaGreatDoor.W.quiet_move rfl rfl) ?_
    refine WL.ext rfl rfl rfl rfl rfl rfl ?_
    refine WL.ext rfl rfl rfl rfl rfl rfl ?_
    refine WL.alloc rfl rfl rfl rfl (pal_ins _) ?_
    refine WL.store rfl rfl rfl rfl rfl (pst_ins _ _ _ _ _ _) ?_
    refine WL.op rfl rfl rfl (Go.Proofs.YtlagdgkjpnocfaaGreatDoor.W.quiet_assign rfl rfl) ?_
    refine WL.nil ?_
    have f2 := fr_al f1 (.cells #[.int .i64 0, .int .i64 0, .int .i64 0, .int .i64 0, .int .i64 0] 23)
    generalize w1.alloc (.cells #[.int .i64 0, .int .i64 0, .int .i64 0, .int .i64 0, .int .i64 0] 23) = w2 at *
    refine TW.seq ?_
    refine TW.sreg ?_
    refine WL.op rfl rfl rfl (Go.Proofs.YtlagdgkjpnocfaaGreatDoor.W.quiet_move rfl rfl) ?_
    refine WL.op rfl rfl rfl (Go.Proofs.YtlagdgkjpnocfaaGreatDoor.W.quiet_bin rfl rfl rfl (fun W => bn_neE W _ _ _ _)) ?_
    refine WL.nil ?_
    refine TW.cond rfl (fun _ => ?_) (fun hb => by cases hb)
    refine TW.sreg ?_
    refine WL.op rfl rfl rfl (Go.Proofs.YtlagdgkjpnocfaaGreatDoor.W.quiet_move rfl rfl) ?_
    refine WL.call (hr := t_hex u hu w2 (f2.cell hd id)) rfl rfl rfl rfl rfl (fun W => cf_hex W _) ?_
    rintro e w3 ⟨rfl, f3⟩
    refine ⟨_, rfl, ?_⟩
    refine WL.op rfl rfl rfl (Go.Proofs.YtlagdgkjpnocfaaGreatDoor.W.quiet_bin rfl rfl rfl (fun W => bn_cat W _ _ [48, 120] (hexT u) (by rw [h8]; decide))) ?_
    refine WL.bslice rfl rfl rfl rfl rfl (bs_s _ _) ?_
    have f4 := fr_al (Fr.refl (fun _ => False) w3) (.cells #[bts ([48, 120] ++ hexT u)] 9)
    have hS : StrsAt w3.heap.size (w3.alloc (.cells #[bts ([48, 120] ++ hexT u)] 9)) (.slice (some ⟨w3.heap.size, 0, none⟩) 1 1) [[48, 120] ++ hexT u] := ⟨rfl, .inr ⟨w3.heap.size, 1, _, rfl, Nat.le_refl _, heap_alloc_new _ _, Nat.le_refl _, by unfold maxLen; decide, rfl, rfl⟩⟩
    generalize w3.alloc (.cells #[bts ([48, 120] ++ hexT u)] 9) = w4 at *
    refine WL.call (hr := t_assemble [46, 119, 111, 114, 100] _ _ _ w4 hS (by simp) (by simp) (by simp [Lib.join, h8]) (by decide)) rfl rfl rfl rfl rfl (fun W => cf_ass W _) ?_
    rintro e w5 ⟨rfl, f5⟩
    refine ⟨_, rfl, ?_⟩
    refine WL.op rfl rfl rfl (Go.Proofs.YtlagdgkjpnocfaaGreatDoor.W.quiet_assign rfl rfl) ?_
    refine WL.nil ?_
    refine TW.rt ?_
    repeat (with_reducible first | refine Xw.thn (by simp) ?_ | refine Xw.rblk ?_)
    refine bodyw_ret rfl rfl ?_
    exact ⟨by rw [hb], f2.trans (f3.trans (f4.trans f5))⟩
  rw [if_neg hz] at hb
  obtain ⟨k, hk⟩ : ∃ z, findI (u : Int) = z := ⟨_, rfl⟩
  have KD := c72_some (u : Int) (by omega) (by omega) k hk (by rw [← hk]; exact hz) w
  have g1 := regV_64 (u : Int) 7 (uRd (fm k))
  have g2 := regV_64 (u : Int) 15 (uRs1 (fm k))
  have g3 := regV_64 (u : Int) 20 (uRs2 (fm k))
  have g4 := gathS_64 (fm k) (u : Int)
  have hlp := lay_pos (k := k) (by omega) (by omega)
  rw [hk] at hb
  generalize regV (u : Int) 7 (uRd (fm k)) = A at *
  generalize regV (u : Int) 15 (uRs1 (fm k)) = B at *
  generalize regV (u : Int) 20 (uRs2 (fm k)) = C at *
  generalize gathS (fm k) (u : Int) = D at *
  refine TW.sreg ?_
  refine WL.op rfl rfl rfl (Go.Proofs.YtlagdgkjpnocfaaGreatDoor.W.quiet_move rfl rfl) ?_
  refine WL.call (hr := KD) rfl rfl rfl rfl rfl (fun W => cf_dcd W _) ?_
  rintro e w1 ⟨rfl, hg⟩
  refine ⟨_, rfl, ?_⟩
  have f1 : Fr (fun _ => False) w w1 := Fr.of_grown hg
  refine WL.op rfl rfl rfl (Go.Proofs.YtlagdgkjpnocfaaGreatDoor.W.quiet_move rfl rfl) ?_
  refine WL.ext rfl rfl rfl rfl rfl rfl ?_
  refine WL.ext rfl rfl rfl rfl rfl rfl ?_
  refine WL.alloc rfl rfl rfl rfl (pal_ins _) ?_
  refine WL.store rfl rfl rfl rfl rfl (pst_ins _ _ _ _ _ _) ?_
  refine WL.op rfl rfl rfl (Go.Proofs.YtlagdgkjpnocfaaGreatDoor.W.quiet_assign rfl rfl) ?_
  refine WL.nil ?_
  have f2 := fr_al f1 (.cells #[.int .i64 (k : Int), .int .i64 A, .int .i64 B, .int .i64 C, .int .i64 D] 23)
  have CC := fun j y h => fcell w1 #[.int .i64 (k : Int), .int .i64 A, .int .i64 B, .int .i64 C, .int .i64 D] 23 j y h
  have c0 := CC 0 _ rfl
  have c1 := CC 1 _ rfl
  have c2 := CC 2 _ rfl
  have c3 := CC 3 _ rfl
  have c4 := CC 4 _ rfl
  clear CC
  generalize w1.alloc (.cells #[.int .i64 (k : Int), .int .i64 A, .int .i64 B, .int .i64 C, .int .i64 D] 23) = w2 at *
  generalize w1.heap.size = bx at *
  refine TW.seq ?_
  refine TW.sreg ?_
  refine WL.op rfl rfl rfl (Go.Proofs.YtlagdgkjpnocfaaGreatDoor.W.quiet_move rfl rfl) ?_
  refine WL.op rfl rfl rfl (Go.Proofs.YtlagdgkjpnocfaaGreatDoor.W.quiet_bin rfl rfl rfl (fun W => bn_neE W _ _ _ _)) ?_
  refine WL.nil ?_
  refine TW.cond rfl (fun hb => by cases hb) (fun _ => ?_)
  refine TW.skip ?_
  refine TW.sreg ?_
  refine WL.ld rfl rfl rfl rfl rfl (ldins _ _ _ _ _ _ _ _ c0 (by rw [Nat.zero_add]; exact c1) (by rw [Nat.zero_add]; exact c2) (by rw [Nat.zero_add]; exact c3) (by rw [Nat.zero_add]; exact c4)) ?_
  refine WL.call (hr := t_line (k : Int) A B C D g1 g2 g3 g4 hlp w2 (ht.fr f2 id)) rfl rfl rfl rfl rfl (fun W => cf_ln W _) ?_
  rintro e w3 ⟨rfl, f3⟩
  refine ⟨_, rfl, ?_⟩
  refine WL.op rfl rfl rfl (Go.Proofs.YtlagdgkjpnocfaaGreatDoor.W.quiet_assign rfl rfl) ?_
  refine WL.nil ?_
  refine TW.rt ?_
  repeat (with_reducible first | refine Xw.thn (by simp) ?_ | refine Xw.rblk ?_)
  refine bodyw_ret rfl rfl ?_
  exact ⟨by rw [hb], f2.trans f3⟩
end Go.Proofs.YtlagdgkjpnocfaaGreatDoor
