/-
  Listing (layer 6): the page's examples hold, walked.
-/
import Derived.Test.YtlagdgkjpnocfaaGreatDoorLsR
import Derived.Test.YtlagdgkjpnocfaaGreatDoorWo
namespace Go.Proofs.YtlagdgkjpnocfaaGreatDoor
open Go.RowKit
set_option linter.unusedVariables false
set_option linter.unusedSimpArgs false
theorem qk_listing_Line (w : World) (vs : Array Value) : (callFunc 8 vs).run Tryz.prog w = .ok (.enter 8 vs) w := by simp [go_sem]
theorem qk_listing_Text (w : World) (vs : Array Value) : (callFunc 14 vs).run Tryz.prog w = .ok (.enter 14 vs) w := by simp [go_sem]
theorem qk_listing_Read (w : World) (vs : Array Value) : (callFunc 11 vs).run Tryz.prog w = .ok (.enter 11 vs) w := by simp [go_sem]
theorem qb_eql_api_Errno (w : World) (x y : Operand) (m n : Int) : ((do eqGuard .eql 24 x y (.int .i64 m) (.int .i64 n); binOp .eql 24 (.int .i64 m) (.int .i64 n) : Sem Value)).run Tryz.prog w = .ok (.bool (m == n)) w := by simp [go_sem]
theorem bn_eqst (w : World) (x y : Operand) (a : List UInt8) : (do eqGuard .eql 9 x y (bts a) (bts a); binOp .eql 9 (bts a) (bts a) : Sem Value).run Tryz.prog w = .ok (.bool true) w := by
  rw [bn_eqs]; simp
set_option maxRecDepth 100000 in
theorem t_awake (w : World) (he : ErW w) (hm : MlW w) (ht : TabW w) (hd : DbW w) (hgl : 7 < w.heap.size) : Calls Tryz.prog 10 #[] w fun e w' => e = .returned (.bool true) ∧ Fr (fun _ => False) w w' := by
  have KL := t_Line 18 0 1 2 8 z_64 ⟨by decide, by decide⟩ ⟨by decide, by decide⟩ ⟨by decide, by decide⟩ w ht (fun _ => by decide +kernel)
  rw [ex_fit, if_pos rfl, ex_line] at KL
  refine calls_tw Tryz.func10 rfl rfl (Nat.le_of_ble_eq_true rfl) ?_
  refine TW.sreg ?_
  refine WL.op rfl rfl rfl (Go.Proofs.YtlagdgkjpnocfaaGreatDoor.W.quiet_assign rfl rfl) ?_
  refine WL.nil ?_
  refine TW.sreg ?_
  refine O.bld rfl rfl rfl rfl rfl (bd_l _) ?_
  refine WL.call (hr := KL) rfl rfl rfl rfl rfl (fun W => qk_listing_Line W _) ?_
  rintro e w1 ⟨rfl, f1⟩
  refine ⟨_, rfl, ?_⟩
  refine WL.op rfl rfl rfl (Go.Proofs.YtlagdgkjpnocfaaGreatDoor.W.quiet_move rfl rfl) ?_
  refine O.ext rfl rfl rfl rfl rfl rfl ?_
  refine O.ext rfl rfl rfl rfl rfl rfl ?_
  refine WL.op rfl rfl rfl (Go.Proofs.YtlagdgkjpnocfaaGreatDoor.W.quiet_assign rfl rfl) ?_
  refine WL.op rfl rfl rfl (Go.Proofs.YtlagdgkjpnocfaaGreatDoor.W.quiet_assign rfl rfl) ?_
  refine WL.nil ?_
  refine TW.sreg ?_
  refine O.bsl rfl rfl rfl rfl rfl (bs_w _) ?_
  have f2 := fr_al (Fr.refl (fun _ => False) w1) (.cells #[.int .u32 5243027, .int .u32 0] 40)
  have C := fun j y h => fcell w1 #[.int .u32 5243027, .int .u32 0] 40 j y h
  have c0 := C 0 _ rfl
  have c1 := C 1 _ rfl
  clear C
  replace f1 := f1.trans f2
  clear f2
  generalize w1.alloc (.cells #[.int .u32 5243027, .int .u32 0] 40) = w2 at *
  generalize w1.heap.size = bs at *
  have hat : U32At w2 (some ⟨bs, 0, none⟩) [5243027, 0] := fun k hk => ⟨bs, 0, rfl, by
      match k, hk with
      | 0, _ => exact c0
      | 1, _ => exact c1⟩
  have KT := t_text (some ⟨bs, 0, none⟩) 2 [5243027, 0] (by decide) (fun k hk => by
      match k, hk with
      | 0, _ => decide
      | 1, _ => decide) w2 hat (ht.fr f1 id) (f1.cell hd id) (by have := f1.size; omega)
  rw [show ([5243027, 0] : List Nat).length = 2 from rfl, ex_text] at KT
  -- world w2
  refine WL.call (hr := KT) rfl rfl rfl rfl rfl (fun W => qk_listing_Text W _) ?_
  rintro e w3 ⟨rfl, f3⟩
  refine ⟨_, rfl, ?_⟩
  replace f1 := f1.trans f3
  have KR := t_read [108, 119, 32, 120, 54, 44, 32, 45, 52, 40, 120, 50, 41] (by decide) w3 (he.fr f1 id id) (hm.fr f1 id) (ht.fr f1 id)
  rw [ex_read] at KR
  refine WL.op rfl rfl rfl (Go.Proofs.YtlagdgkjpnocfaaGreatDoor.W.quiet_move rfl rfl) ?_
  refine O.ext rfl rfl rfl rfl rfl rfl ?_
  refine O.ext rfl rfl rfl rfl rfl rfl ?_
  refine WL.op rfl rfl rfl (Go.Proofs.YtlagdgkjpnocfaaGreatDoor.W.quiet_assign rfl rfl) ?_
  refine WL.op rfl rfl rfl (Go.Proofs.YtlagdgkjpnocfaaGreatDoor.W.quiet_assign rfl rfl) ?_
  refine WL.nil ?_
  refine TW.sreg ?_
  refine WL.call (hr := KR) rfl rfl rfl rfl rfl (fun W => qk_listing_Read W _) ?_
  rintro e w4 ⟨rfl, f4⟩
  refine ⟨.tuple #[.agg #[.int .i64 13, .int .i64 6, .int .i64 2, .int .i64 0, .int .i64 (-4)], .int .i64 0], rfl, ?_⟩
  replace f1 := f1.trans f4
  refine WL.op rfl rfl rfl (Go.Proofs.YtlagdgkjpnocfaaGreatDoor.W.quiet_move rfl rfl) ?_
  refine O.ext rfl rfl rfl rfl rfl rfl ?_
  refine O.ext rfl rfl rfl rfl rfl rfl ?_
  refine WL.alloc rfl rfl rfl rfl (pal_ins _) ?_
  have f5 := fr_al (Fr.refl (fun _ => False) w4) (.cells #[.int .i64 0, .int .i64 0, .int .i64 0, .int .i64 0, .int .i64 0] 23)
  have r4 : RwL (w4.alloc (.cells #[.int .i64 0, .int .i64 0, .int .i64 0, .int .i64 0, .int .i64 0] 23)) w4.heap.size #[.int .i64 0, .int .i64 0, .int .i64 0, .int .i64 0, .int .i64 0] 23 := heap_alloc_new w4 _
  generalize w4.alloc (.cells #[.int .i64 0, .int .i64 0, .int .i64 0, .int .i64 0, .int .i64 0] 23) = w5 at *
  obtain ⟨b4, hb4⟩ : ∃ z, w4.heap.size = z := ⟨_, rfl⟩
  rw [hb4] at r4 ⊢
  obtain ⟨w6, s6, q6, f6⟩ := st_ins w5 b4 _ _ _ _ _ 13 6 2 0 (-4) r4
  -- world w6
  refine WL.store rfl rfl rfl rfl rfl s6 ?_
  have ff : Fr (fun _ => False) w w6 := (f1.trans f5).trans' f6 (fun q hq e => by have := f1.size; omega)
  refine WL.op rfl rfl rfl (Go.Proofs.YtlagdgkjpnocfaaGreatDoor.W.quiet_assign rfl rfl) ?_
  refine WL.nil ?_
  refine TW.sreg ?_
  refine WL.op rfl rfl rfl (Go.Proofs.YtlagdgkjpnocfaaGreatDoor.W.quiet_move rfl rfl) ?_
  refine WL.op rfl rfl rfl (Go.Proofs.YtlagdgkjpnocfaaGreatDoor.W.quiet_bin rfl rfl rfl (fun W => qb_eql_api_Errno W _ _ _ _)) ?_
  refine O.split (fun hb => ?_) (fun hb => by exfalso; revert hb; first | (simp; done) | (simp; omega))
  refine WL.op rfl rfl rfl (Go.Proofs.YtlagdgkjpnocfaaGreatDoor.W.quiet_move rfl rfl) ?_
  refine WL.op rfl rfl rfl (Go.Proofs.YtlagdgkjpnocfaaGreatDoor.W.quiet_move rfl rfl) ?_
  refine WL.op rfl rfl rfl (Go.Proofs.YtlagdgkjpnocfaaGreatDoor.W.quiet_bin rfl rfl rfl (fun W => qb_eql_api_Errno W _ _ _ _)) ?_
  refine O.split (fun hb => ?_) (fun hb => by exfalso; revert hb; first | (simp; done) | (simp; omega))
  refine WL.op rfl rfl rfl (Go.Proofs.YtlagdgkjpnocfaaGreatDoor.W.quiet_pick rfl rfl rfl) ?_
  refine WL.op rfl rfl rfl (Go.Proofs.YtlagdgkjpnocfaaGreatDoor.W.quiet_move rfl rfl) ?_
  refine WL.op rfl rfl rfl (Go.Proofs.YtlagdgkjpnocfaaGreatDoor.W.quiet_move rfl rfl) ?_
  refine WL.op rfl rfl rfl (Go.Proofs.YtlagdgkjpnocfaaGreatDoor.W.quiet_bin rfl rfl rfl (fun W => qb_eql_api_Errno W _ _ _ _)) ?_
  refine O.split (fun hb => ?_) (fun hb => by exfalso; revert hb; first | (simp; done) | (simp; omega))
  refine WL.op rfl rfl rfl (Go.Proofs.YtlagdgkjpnocfaaGreatDoor.W.quiet_pick rfl rfl rfl) ?_
  refine WL.op rfl rfl rfl (Go.Proofs.YtlagdgkjpnocfaaGreatDoor.W.quiet_move rfl rfl) ?_
  refine WL.op rfl rfl rfl (Go.Proofs.YtlagdgkjpnocfaaGreatDoor.W.quiet_move rfl rfl) ?_
  refine WL.op rfl rfl rfl (Go.Proofs.YtlagdgkjpnocfaaGreatDoor.W.quiet_bin rfl rfl rfl (fun W => bn_eqst W _ _ _)) ?_
  refine O.split (fun hb => ?_) (fun hb => by exfalso; revert hb; first | (simp; done) | (simp; omega))
  refine WL.op rfl rfl rfl (Go.Proofs.YtlagdgkjpnocfaaGreatDoor.W.quiet_pick rfl rfl rfl) ?_
  refine WL.op rfl rfl rfl (Go.Proofs.YtlagdgkjpnocfaaGreatDoor.W.quiet_move rfl rfl) ?_
  refine WL.op rfl rfl rfl (Go.Proofs.YtlagdgkjpnocfaaGreatDoor.W.quiet_move rfl rfl) ?_
  refine WL.op rfl rfl rfl (Go.Proofs.YtlagdgkjpnocfaaGreatDoor.W.quiet_bin rfl rfl rfl (fun W => bn_eqst W _ _ _)) ?_
  refine O.split (fun hb => ?_) (fun hb => by exfalso; revert hb; first | (simp; done) | (simp; omega))
  refine WL.op rfl rfl rfl (Go.Proofs.YtlagdgkjpnocfaaGreatDoor.W.quiet_pick rfl rfl rfl) ?_
  refine WL.op rfl rfl rfl (Go.Proofs.YtlagdgkjpnocfaaGreatDoor.W.quiet_move rfl rfl) ?_
  refine WL.ld rfl rfl rfl rfl rfl (ldins _ _ _ _ _ _ _ _ (q6.cell (j := 0) rfl) (by rw [Nat.zero_add]; exact q6.cell (j := 1) rfl) (by rw [Nat.zero_add]; exact q6.cell (j := 2) rfl) (by rw [Nat.zero_add]; exact q6.cell (j := 3) rfl) (by rw [Nat.zero_add]; exact q6.cell (j := 4) rfl)) ?_
  refine O.bld rfl rfl rfl rfl rfl (bd_r _) ?_
  refine WL.op rfl rfl rfl (Go.Proofs.YtlagdgkjpnocfaaGreatDoor.W.quiet_bin rfl rfl rfl (fun W => bn_eqI W _ _)) ?_
  refine O.split (fun hb => ?_) (fun hb => by exfalso; revert hb; first | (simp; done) | (simp; omega))
  refine WL.op rfl rfl rfl (Go.Proofs.YtlagdgkjpnocfaaGreatDoor.W.quiet_pick rfl rfl rfl) ?_
  refine WL.op rfl rfl rfl (Go.Proofs.YtlagdgkjpnocfaaGreatDoor.W.quiet_assign rfl rfl) ?_
  refine WL.nil ?_
  refine TW.rt ?_
  refine bodyw_ret rfl rfl ?_
  exact ⟨rfl, ff⟩
end Go.Proofs.YtlagdgkjpnocfaaGreatDoor
