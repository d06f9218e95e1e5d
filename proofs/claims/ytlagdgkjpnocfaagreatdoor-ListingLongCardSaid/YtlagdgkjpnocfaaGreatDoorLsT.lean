/-
  Listing (layer 6): more words, or bytes, than may be are refused, walked.
-/
import Derived.Test.YtlagdgkjpnocfaaGreatDoorLsS
namespace Go.Proofs.YtlagdgkjpnocfaaGreatDoor
open Go.RowKit
set_option linter.unusedVariables false
set_option linter.unusedSimpArgs false
theorem qb_rem_int (w : World) (x y : Operand) (m n : Int) (hn : n ≠ 0) (h0 : -9223372036854775808 ≤ m.tmod n) (h1 : m.tmod n ≤ 9223372036854775807) : ((do eqGuard .rem 3 x y (.int .i64 m) (.int .i64 n); binOp .rem 3 (.int .i64 m) (.int .i64 n) : Sem Value)).run Tryz.prog w = .ok (.int .i64 (m.tmod n)) w := by
  have h : IntKind.i64.wrap (m.tmod n) = m.tmod n := IntWalk.i64_in _ (by omega)
  simp [go_sem, h, hn]
theorem qb_add_int (w : World) (x y : Operand) (m n : Int) (h0 : -9223372036854775808 ≤ m + n) (h1 : m + n ≤ 9223372036854775807) : ((do eqGuard .add 3 x y (.int .i64 m) (.int .i64 n); binOp .add 3 (.int .i64 m) (.int .i64 n) : Sem Value)).run Tryz.prog w = .ok (.int .i64 (m + n)) w := by
  have h : IntKind.i64.wrap (m + n) = m + n := IntWalk.i64_in _ (by omega)
  simp [go_sem, h]
theorem qk_listing_Words (w : World) (vs : Array Value) : (callFunc 15 vs).run Tryz.prog w = .ok (.enter 15 vs) w := by simp [go_sem]
theorem qk_rushlightlaw06_awake (w : World) (vs : Array Value) : (callFunc 10 vs).run Tryz.prog w = .ok (.enter 10 vs) w := by simp [go_sem]
theorem qn_s_uint32 (w : World) (a : Option Addr) (k l : Nat) : (Builtin.len_ #[35] 3 #[.slice a k l]).run Tryz.prog w = .ok (.int .i64 k) w := by simp [go_sem]
theorem qb_eql_int (w : World) (x y : Operand) (m n : Int) : ((do eqGuard .eql 3 x y (.int .i64 m) (.int .i64 n); binOp .eql 3 (.int .i64 m) (.int .i64 n) : Sem Value)).run Tryz.prog w = .ok (.bool (m == n)) w := by simp [go_sem]
theorem infoU32 : (Tryz.prog.info? 40).map (fun i => (i.zero, i.size, i.bytes)) = some (some (.int .u32 0), 1, 4) := by kernel_rfl
theorem infoU8 : (Tryz.prog.info? 5).map (fun i => (i.zero, i.size, i.bytes)) = some (some (.int .u8 0), 1, 1) := by kernel_rfl
theorem mk_u32 (n : Nat) (hn : n ≤ 1000000) (w : World) : (Instr.makeSlice 35 (.int .i64 (n : Int)) (.int .i64 (n : Int))).run Tryz.prog w = .ok (.slice (some ⟨w.heap.size, 0, none⟩) n n) (w.alloc (.cells (madeCells #[.int .u32 0] n) 40)) :=
  run_make_row' 35 40 (.int .u32 0) 4 Tryz.underlying35 infoU32 rfl .i64 .i64 n (by omega) (by omega) w
theorem mk_u8 (n : Nat) (hn : n ≤ 10000000) (w : World) : (Instr.makeSlice 42 (.int .i64 (n : Int)) (.int .i64 (n : Int))).run Tryz.prog w = .ok (.slice (some ⟨w.heap.size, 0, none⟩) n n) (w.alloc (.cells (madeCells #[.int .u8 0] n) 5)) :=
  run_make_row' 42 5 (.int .u8 0) 1 Tryz.underlying42 infoU8 rfl .i64 .i64 n (by omega) (by omega) w
theorem cv_by (n : Nat) (w : World) : ∃ s : List UInt8, s.length = n ∧ (convert 42 9 (.slice (some ⟨w.heap.size, 0, none⟩) n n)).run Tryz.prog (w.alloc (.cells (madeCells #[.int .u8 0] n) 5)) = .ok (bts s) (w.alloc (.cells (madeCells #[.int .u8 0] n) 5)) := by
  refine ⟨(List.replicate n (0 : Int)).map fun n => UInt8.ofNat n.toNat, by simp, ?_⟩
  exact run_convert_bytes_arg _ 42 5 Tryz.underlying42 Tryz.underlying5 w.heap.size 0 n n (List.replicate n 0) (by simp) (fun i hi => by
    have hc := fcell w (madeCells #[.int .u8 0] n) 5 i (.int .u8 0) (by
      rw [← Array.getElem?_toList, toList_madeCells_one]
      simp [hi])
    rw [Nat.zero_add]
    rw [hc]
    simp [List.getD, hi]) 9 Tryz.underlying9
set_option maxRecDepth 100000 in
theorem walk_long (a0 : Int) (w : World) (he : ErW w) (hm' : MlW w) (ht : TabW w) (hd : DbW w) (hgl : 7 < w.heap.size) : Calls Tryz.prog 7 #[.int .i64 a0] w fun e w' => e = .returned (.bool true) ∧ Fr (fun _ => False) w w' := by
  refine calls_tw Tryz.func7 rfl rfl (Nat.le_of_ble_eq_true rfl) ?_
  have t0 : -100 < a0.tmod 100 ∧ a0.tmod 100 < 100 := ⟨by have := Int.lt_tmod_of_pos a0 (b := 100) (by omega); omega, Int.tmod_lt_of_pos a0 (by omega)⟩
  have t1 : (a0.tmod 100 + 100).tmod 100 = (a0.tmod 100 + 100) % 100 := Int.tmod_eq_emod_of_nonneg (by omega)
  obtain ⟨m, hm⟩ : ∃ m : Nat, 1 + (a0.tmod 100 + 100).tmod 100 = (m : Int) := ⟨(1 + (a0.tmod 100 + 100).tmod 100).toNat, by omega⟩
  have m1 : 0 < m := by omega
  have m2 : m ≤ 100 := by omega
  refine TW.sreg ?_
  refine WL.op rfl rfl rfl (Go.Proofs.YtlagdgkjpnocfaaGreatDoor.W.quiet_assign rfl rfl) ?_
  refine WL.nil ?_
  refine TW.sreg ?_
  refine WL.op rfl rfl rfl (Go.Proofs.YtlagdgkjpnocfaaGreatDoor.W.quiet_move rfl rfl) ?_
  refine WL.op rfl rfl rfl (Go.Proofs.YtlagdgkjpnocfaaGreatDoor.W.quiet_bin rfl rfl rfl (fun W => qb_rem_int W _ _ _ _ (by decide) (by omega) (by omega))) ?_
  refine WL.op rfl rfl rfl (Go.Proofs.YtlagdgkjpnocfaaGreatDoor.W.quiet_bin rfl rfl rfl (fun W => qb_add_int W _ _ _ _ (by omega) (by omega))) ?_
  refine WL.op rfl rfl rfl (Go.Proofs.YtlagdgkjpnocfaaGreatDoor.W.quiet_bin rfl rfl rfl (fun W => qb_rem_int W _ _ _ _ (by decide) (by omega) (by omega))) ?_
  refine WL.op rfl rfl rfl (Go.Proofs.YtlagdgkjpnocfaaGreatDoor.W.quiet_bin rfl rfl rfl (fun W => (qb_add_int W _ _ _ _ (by omega) (by omega)).trans (by rw [hm]))) ?_
  refine WL.op rfl rfl rfl (Go.Proofs.YtlagdgkjpnocfaaGreatDoor.W.quiet_assign rfl rfl) ?_
  refine WL.nil ?_
  refine TW.sreg ?_
  refine WL.op rfl rfl rfl (Go.Proofs.YtlagdgkjpnocfaaGreatDoor.W.quiet_move rfl rfl) ?_
  refine WL.op rfl rfl rfl (Go.Proofs.YtlagdgkjpnocfaaGreatDoor.W.quiet_bin rfl rfl rfl (fun W => (qb_add_int W _ _ _ _ (by omega) (by omega)).trans (by rw [show (40000 : Int) + (m : Int) = ((40000 + m : Nat) : Int) by omega]))) ?_
  refine O.mk rfl rfl rfl rfl rfl rfl (mk_u32 (40000 + m) (by omega) w) ?_
  have f1 := fr_al (Fr.refl (fun _ => False) w) (.cells (madeCells #[.int .u32 0] (40000 + m)) 40)
  generalize w.alloc (.cells (madeCells #[.int .u32 0] (40000 + m)) 40) = w1 at *
  -- world w1
  refine WL.call (hr := t_text_long _ _ _ (by omega) w1) rfl rfl rfl rfl rfl (fun W => qk_listing_Text W _) ?_
  rintro e w2 ⟨rfl, rfl⟩
  refine ⟨_, rfl, ?_⟩
  refine WL.op rfl rfl rfl (Go.Proofs.YtlagdgkjpnocfaaGreatDoor.W.quiet_move rfl rfl) ?_
  refine O.ext rfl rfl rfl rfl rfl rfl ?_
  refine O.ext rfl rfl rfl rfl rfl rfl ?_
  refine WL.op rfl rfl rfl (Go.Proofs.YtlagdgkjpnocfaaGreatDoor.W.quiet_assign rfl rfl) ?_
  refine WL.op rfl rfl rfl (Go.Proofs.YtlagdgkjpnocfaaGreatDoor.W.quiet_assign rfl rfl) ?_
  refine WL.nil ?_
  refine TW.sreg ?_
  refine WL.op rfl rfl rfl (Go.Proofs.YtlagdgkjpnocfaaGreatDoor.W.quiet_move rfl rfl) ?_
  refine WL.op rfl rfl rfl (Go.Proofs.YtlagdgkjpnocfaaGreatDoor.W.quiet_bin rfl rfl rfl (fun W => (qb_add_int W _ _ _ _ (by omega) (by omega)).trans (by rw [show (2097152 : Int) + (m : Int) = ((2097152 + m : Nat) : Int) by omega]))) ?_
  refine O.mk rfl rfl rfl rfl rfl rfl (mk_u8 (2097152 + m) (by omega) w1) ?_
  obtain ⟨s, hs, hc⟩ := cv_by (2097152 + m) w1
  have f2 := fr_al f1 (.cells (madeCells #[.int .u8 0] (2097152 + m)) 5)
  generalize w1.alloc (.cells (madeCells #[.int .u8 0] (2097152 + m)) 5) = w2 at *
  generalize w1.heap.size = g2 at *
  -- world w2
  refine O.cv rfl rfl rfl rfl rfl hc ?_
  refine WL.call (hr := t_words_long s (by omega) w2) rfl rfl rfl rfl rfl (fun W => qk_listing_Words W _) ?_
  rintro e w3 ⟨rfl, rfl⟩
  refine ⟨_, rfl, ?_⟩
  refine WL.op rfl rfl rfl (Go.Proofs.YtlagdgkjpnocfaaGreatDoor.W.quiet_move rfl rfl) ?_
  refine O.ext rfl rfl rfl rfl rfl rfl ?_
  refine O.ext rfl rfl rfl rfl rfl rfl ?_
  refine WL.op rfl rfl rfl (Go.Proofs.YtlagdgkjpnocfaaGreatDoor.W.quiet_assign rfl rfl) ?_
  refine WL.op rfl rfl rfl (Go.Proofs.YtlagdgkjpnocfaaGreatDoor.W.quiet_assign rfl rfl) ?_
  refine WL.nil ?_
  refine TW.sreg ?_
  refine WL.call (hr := t_awake w2 (he.fr f2 id id) (hm'.fr f2 id) (ht.fr f2 id) (f2.cell hd id) (by have := f2.size; omega)) rfl rfl rfl rfl rfl (fun W => qk_rushlightlaw06_awake W _) ?_
  rintro e w4 ⟨rfl, f3⟩
  refine ⟨_, rfl, ?_⟩
  refine O.split (fun hb => ?_) (fun hb => by exfalso; revert hb; first | (simp; done) | (simp; omega))
  refine WL.op rfl rfl rfl (Go.Proofs.YtlagdgkjpnocfaaGreatDoor.W.quiet_move rfl rfl) ?_
  refine WL.op rfl rfl rfl (Go.Proofs.YtlagdgkjpnocfaaGreatDoor.W.quiet_move rfl rfl) ?_
  refine WL.op rfl rfl rfl (Go.Proofs.YtlagdgkjpnocfaaGreatDoor.W.quiet_bin rfl rfl rfl (fun W => qb_eql_api_Errno W _ _ _ _)) ?_
  refine O.split (fun hb => ?_) (fun hb => by exfalso; revert hb; first | (simp; done) | (simp; omega))
  refine WL.op rfl rfl rfl (Go.Proofs.YtlagdgkjpnocfaaGreatDoor.W.quiet_pick rfl rfl rfl) ?_
  refine WL.op rfl rfl rfl (Go.Proofs.YtlagdgkjpnocfaaGreatDoor.W.quiet_move rfl rfl) ?_
  refine WL.op rfl rfl rfl (Go.Proofs.YtlagdgkjpnocfaaGreatDoor.W.quiet_move rfl rfl) ?_
  refine WL.op rfl rfl rfl (Go.Proofs.YtlagdgkjpnocfaaGreatDoor.W.quiet_bin rfl rfl rfl (fun W => bn_eqst W _ _ _)) ?_
  refine O.split (fun hb => ?_) (fun hb => by exfalso; revert hb; first | (simp; done) | (simp; omega))
  refine WL.op rfl rfl rfl (Go.Proofs.YtlagdgkjpnocfaaGreatDoor.W.quiet_pick rfl rfl rfl) ?_
  refine WL.op rfl rfl rfl (Go.Proofs.YtlagdgkjpnocfaaGreatDoor.W.quiet_move rfl rfl) ?_
  refine WL.op rfl rfl rfl (Go.Proofs.YtlagdgkjpnocfaaGreatDoor.W.quiet_move rfl rfl) ?_
  refine WL.op rfl rfl rfl (Go.Proofs.YtlagdgkjpnocfaaGreatDoor.W.quiet_bin rfl rfl rfl (fun W => qb_eql_api_Errno W _ _ _ _)) ?_
  refine O.split (fun hb => ?_) (fun hb => by exfalso; revert hb; first | (simp; done) | (simp; omega))
  refine WL.op rfl rfl rfl (Go.Proofs.YtlagdgkjpnocfaaGreatDoor.W.quiet_pick rfl rfl rfl) ?_
  refine WL.op rfl rfl rfl (Go.Proofs.YtlagdgkjpnocfaaGreatDoor.W.quiet_move rfl rfl) ?_
  refine WL.op rfl rfl rfl (Go.Proofs.YtlagdgkjpnocfaaGreatDoor.W.quiet_move rfl rfl) ?_
  refine O.len rfl rfl rfl rfl rfl (qn_s_uint32 _ _ _ _) ?_
  refine WL.op rfl rfl rfl (Go.Proofs.YtlagdgkjpnocfaaGreatDoor.W.quiet_bin rfl rfl rfl (fun W => qb_eql_int W _ _ _ _)) ?_
  refine O.split (fun hb => ?_) (fun hb => by exfalso; revert hb; first | (simp; done) | (simp; omega))
  refine WL.op rfl rfl rfl (Go.Proofs.YtlagdgkjpnocfaaGreatDoor.W.quiet_pick rfl rfl rfl) ?_
  refine WL.op rfl rfl rfl (Go.Proofs.YtlagdgkjpnocfaaGreatDoor.W.quiet_assign rfl rfl) ?_
  refine WL.nil ?_
  refine TW.rt ?_
  refine bodyw_ret rfl rfl ?_
  exact ⟨rfl, f2.trans f3⟩
end Go.Proofs.YtlagdgkjpnocfaaGreatDoor
