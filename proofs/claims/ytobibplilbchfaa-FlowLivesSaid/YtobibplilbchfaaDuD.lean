/-
  What instructions use (layer 13), by the document: the row of any operation.
-/
import Derived.Test.YtobibplilbchfaaDuC
namespace Go.Proofs.Ytobibplilbchfaa
open Go.RowKit
set_option linter.unusedVariables false
set_option linter.unusedSimpArgs false
theorem qv_s_bool_10 (w : World) (u0_p0 : Bool) (u1_p0 : Bool) (u2_p0 : Bool) (u3_p0 : Bool) (u4_p0 : Bool) (u5_p0 : Bool) (u6_p0 : Bool) (u7_p0 : Bool) (u8_p0 : Bool) (u9_p0 : Bool) : (Instr.buildSlice 30 10 #[(0, .bool u0_p0), (1, .bool u1_p0), (2, .bool u2_p0), (3, .bool u3_p0), (4, .bool u4_p0), (5, .bool u5_p0), (6, .bool u6_p0), (7, .bool u7_p0), (8, .bool u8_p0), (9, .bool u9_p0)]).run Try.prog w = .ok (.slice (some ⟨w.heap.size, 0, none⟩) 10 10) (w.alloc (.cells #[.bool u0_p0, .bool u1_p0, .bool u2_p0, .bool u3_p0, .bool u4_p0, .bool u5_p0, .bool u6_p0, .bool u7_p0, .bool u8_p0, .bool u9_p0] 4)) := by simp [go_sem]
theorem qv_s_s_bool_13 (w : World) (u0_p0 : Option Addr) (u0_k0 u0_l0 : Nat) (u1_p0 : Option Addr) (u1_k0 u1_l0 : Nat) (u2_p0 : Option Addr) (u2_k0 u2_l0 : Nat) (u3_p0 : Option Addr) (u3_k0 u3_l0 : Nat) (u4_p0 : Option Addr) (u4_k0 u4_l0 : Nat) (u5_p0 : Option Addr) (u5_k0 u5_l0 : Nat) (u6_p0 : Option Addr) (u6_k0 u6_l0 : Nat) (u7_p0 : Option Addr) (u7_k0 u7_l0 : Nat) (u8_p0 : Option Addr) (u8_k0 u8_l0 : Nat) (u9_p0 : Option Addr) (u9_k0 u9_l0 : Nat) (u10_p0 : Option Addr) (u10_k0 u10_l0 : Nat) (u11_p0 : Option Addr) (u11_k0 u11_l0 : Nat) (u12_p0 : Option Addr) (u12_k0 u12_l0 : Nat) : (Instr.buildSlice 42 13 #[(0, .slice u0_p0 u0_k0 u0_l0), (1, .slice u1_p0 u1_k0 u1_l0), (2, .slice u2_p0 u2_k0 u2_l0), (3, .slice u3_p0 u3_k0 u3_l0), (4, .slice u4_p0 u4_k0 u4_l0), (5, .slice u5_p0 u5_k0 u5_l0), (6, .slice u6_p0 u6_k0 u6_l0), (7, .slice u7_p0 u7_k0 u7_l0), (8, .slice u8_p0 u8_k0 u8_l0), (9, .slice u9_p0 u9_k0 u9_l0), (10, .slice u10_p0 u10_k0 u10_l0), (11, .slice u11_p0 u11_k0 u11_l0), (12, .slice u12_p0 u12_k0 u12_l0)]).run Try.prog w = .ok (.slice (some ⟨w.heap.size, 0, none⟩) 13 13) (w.alloc (.cells #[.slice u0_p0 u0_k0 u0_l0, .slice u1_p0 u1_k0 u1_l0, .slice u2_p0 u2_k0 u2_l0, .slice u3_p0 u3_k0 u3_l0, .slice u4_p0 u4_k0 u4_l0, .slice u5_p0 u5_k0 u5_l0, .slice u6_p0 u6_k0 u6_l0, .slice u7_p0 u7_k0 u7_l0, .slice u8_p0 u8_k0 u8_l0, .slice u9_p0 u9_k0 u9_l0, .slice u10_p0 u10_k0 u10_l0, .slice u11_p0 u11_k0 u11_l0, .slice u12_p0 u12_k0 u12_l0] 30)) := by simp [go_sem]
theorem qi_s_s_bool (w : World) (b o n c j : Nat) (hj : j < n) : (Instr.indexAt 42 (.slice (some ⟨b, o, none⟩) n c) (.int .i64 (j : Int))).run Try.prog w = .ok (.pointer (some ⟨b, o + j, none⟩)) w := by
  have h : (j : Int) < (n : Int) := by omega
  simp [go_sem, h, hj]
theorem ql_s_bool (w : World) (p : Option Addr) (k l : Nat) (d : Addr) (h : w.cell? d = some (.slice p k l)) : (Instr.loadAt 30 (.pointer (some d))).run Try.prog w = .ok (.slice p k l) w := by simp [go_sem, h]
/-- A row of what an operation uses, by the document. -/
def hK (x : Int) : Bool := decide (1 ≤ x) && decide (x ≤ 12)
def RowF (x : Int) (w : World) (e : Ending) (w' : World) : Prop := (hK x = false ∧ e = .returned (.slice none 0 0) ∧ Fr (fun _ => False) w w') ∨ (hK x = true ∧ ∃ g b3 b4 b5 b6 b7 b9, e = .returned (.slice (some ⟨g, 0, none⟩) 10 10) ∧ Bx w' g #[.bool (hD x), .bool (hA x), .bool (hB x), .bool b3, .bool b4, .bool b5, .bool b6, .bool b7, .bool (hR x), .bool b9] 4 ∧ Fr (fun _ => False) w w')
theorem hK_12 {x : Int} (h1 : decide (x < 1) = false) (h2 : decide (12 < x) = false) : hK x = true ∧ (x = 1 ∨ x = 2 ∨ x = 3 ∨ x = 4 ∨ x = 5 ∨ x = 6 ∨ x = 7 ∨ x = 8 ∨ x = 9 ∨ x = 10 ∨ x = 11 ∨ x = 12) := by
  have a := of_decide_eq_false h1
  have b := of_decide_eq_false h2
  refine ⟨by unfold hK; rw [decide_eq_true (show (1 : Int) ≤ x by omega), decide_eq_true (show x ≤ 12 by omega)]; rfl, by omega⟩
theorem hK_no {x : Int} (h : x < 1 ∨ 12 < x) : hK x = false := by
  unfold hK
  rcases h with h | h
  · rw [decide_eq_false (show ¬(1 : Int) ≤ x by omega)]; rfl
  · rw [decide_eq_false (show ¬x ≤ 12 by omega), Bool.and_false]
theorem hA_K {x : Int} (h : hK x = false) : hD x = false ∧ hA x = false ∧ hB x = false ∧ hR x = false := by
  have hx : x < 1 ∨ 12 < x := by
    unfold hK at h
    rw [Bool.and_eq_false_iff] at h
    rcases h with h | h
    · have := of_decide_eq_false h; omega
    · have := of_decide_eq_false h; omega
  have n : ∀ k : Int, 1 ≤ k → k ≤ 12 → (x == k) = false := fun k h1 h2 => by
    have : ¬x = k := by omega
    simpa using this
  refine ⟨?_, ?_, ?_, ?_⟩
  · unfold hD; simp only [n 1 (by decide) (by decide), n 2 (by decide) (by decide), n 3 (by decide) (by decide), n 4 (by decide) (by decide), n 5 (by decide) (by decide), n 7 (by decide) (by decide), n 8 (by decide) (by decide), n 9 (by decide) (by decide), n 11 (by decide) (by decide), Bool.or_false]
  · unfold hA; simp only [n 2 (by decide) (by decide), n 3 (by decide) (by decide), n 4 (by decide) (by decide), n 5 (by decide) (by decide), n 6 (by decide) (by decide), n 10 (by decide) (by decide), Bool.or_false]
  · unfold hB; simp only [n 3 (by decide) (by decide), n 6 (by decide) (by decide), Bool.or_false]
  · exact n 9 (by decide) (by decide)
set_option maxRecDepth 100000 in
theorem r_fields (x : Int) (w : World) : Calls Try.prog 67 #[.int .i64 x] w (RowF x w) := by
  have ff := Fr.refl (fun _ => False) w
  refine calls_tw Try.func67 rfl rfl (Nat.le_of_ble_eq_true rfl) ?_
  refine TW.sreg ?_
  refine WL.op rfl rfl rfl (Go.Proofs.Ytobibplilbchfaa.W.quiet_assign rfl rfl) ?_
  refine WL.nil ?_
  refine TW.sreg ?_
  have lw1 := ff.size
  refine O.bslR rfl rfl rfl rfl rfl (qv_s_bool_10 w _ _ _ _ _ _ _ _ _ _) ?_
  rintro wa1 ⟨fa1, bx1⟩
  replace ff := ff.trans fa1
  have lt2_bx1 := bx1.lt
  have lw2 := ff.size
  refine O.bslR rfl rfl rfl rfl rfl (qv_s_bool_10 wa1 _ _ _ _ _ _ _ _ _ _) ?_
  rintro wa2 ⟨fa2, bx2⟩
  replace bx1 := bx1.fr fa2 id
  replace ff := ff.trans fa2
  have lt3_bx1 := bx1.lt
  have lt3_bx2 := bx2.lt
  have lw3 := ff.size
  refine O.bslR rfl rfl rfl rfl rfl (qv_s_bool_10 wa2 _ _ _ _ _ _ _ _ _ _) ?_
  rintro wa3 ⟨fa3, bx3⟩
  replace bx1 := bx1.fr fa3 id
  replace bx2 := bx2.fr fa3 id
  replace ff := ff.trans fa3
  have lt4_bx1 := bx1.lt
  have lt4_bx2 := bx2.lt
  have lt4_bx3 := bx3.lt
  have lw4 := ff.size
  refine O.bslR rfl rfl rfl rfl rfl (qv_s_bool_10 wa3 _ _ _ _ _ _ _ _ _ _) ?_
  rintro wa4 ⟨fa4, bx4⟩
  replace bx1 := bx1.fr fa4 id
  replace bx2 := bx2.fr fa4 id
  replace bx3 := bx3.fr fa4 id
  replace ff := ff.trans fa4
  have lt5_bx1 := bx1.lt
  have lt5_bx2 := bx2.lt
  have lt5_bx3 := bx3.lt
  have lt5_bx4 := bx4.lt
  have lw5 := ff.size
  refine O.bslR rfl rfl rfl rfl rfl (qv_s_bool_10 wa4 _ _ _ _ _ _ _ _ _ _) ?_
  rintro wa5 ⟨fa5, bx5⟩
  replace bx1 := bx1.fr fa5 id
  replace bx2 := bx2.fr fa5 id
  replace bx3 := bx3.fr fa5 id
  replace bx4 := bx4.fr fa5 id
  replace ff := ff.trans fa5
  have lt6_bx1 := bx1.lt
  have lt6_bx2 := bx2.lt
  have lt6_bx3 := bx3.lt
  have lt6_bx4 := bx4.lt
  have lt6_bx5 := bx5.lt
  have lw6 := ff.size
  refine O.bslR rfl rfl rfl rfl rfl (qv_s_bool_10 wa5 _ _ _ _ _ _ _ _ _ _) ?_
  rintro wa6 ⟨fa6, bx6⟩
  replace bx1 := bx1.fr fa6 id
  replace bx2 := bx2.fr fa6 id
  replace bx3 := bx3.fr fa6 id
  replace bx4 := bx4.fr fa6 id
  replace bx5 := bx5.fr fa6 id
  replace ff := ff.trans fa6
  have lt7_bx1 := bx1.lt
  have lt7_bx2 := bx2.lt
  have lt7_bx3 := bx3.lt
  have lt7_bx4 := bx4.lt
  have lt7_bx5 := bx5.lt
  have lt7_bx6 := bx6.lt
  have lw7 := ff.size
  refine O.bslR rfl rfl rfl rfl rfl (qv_s_bool_10 wa6 _ _ _ _ _ _ _ _ _ _) ?_
  rintro wa7 ⟨fa7, bx7⟩
  replace bx1 := bx1.fr fa7 id
  replace bx2 := bx2.fr fa7 id
  replace bx3 := bx3.fr fa7 id
  replace bx4 := bx4.fr fa7 id
  replace bx5 := bx5.fr fa7 id
  replace bx6 := bx6.fr fa7 id
  replace ff := ff.trans fa7
  have lt8_bx1 := bx1.lt
  have lt8_bx2 := bx2.lt
  have lt8_bx3 := bx3.lt
  have lt8_bx4 := bx4.lt
  have lt8_bx5 := bx5.lt
  have lt8_bx6 := bx6.lt
  have lt8_bx7 := bx7.lt
  have lw8 := ff.size
  refine O.bslR rfl rfl rfl rfl rfl (qv_s_bool_10 wa7 _ _ _ _ _ _ _ _ _ _) ?_
  rintro wa8 ⟨fa8, bx8⟩
  replace bx1 := bx1.fr fa8 id
  replace bx2 := bx2.fr fa8 id
  replace bx3 := bx3.fr fa8 id
  replace bx4 := bx4.fr fa8 id
  replace bx5 := bx5.fr fa8 id
  replace bx6 := bx6.fr fa8 id
  replace bx7 := bx7.fr fa8 id
  replace ff := ff.trans fa8
  have lt9_bx1 := bx1.lt
  have lt9_bx2 := bx2.lt
  have lt9_bx3 := bx3.lt
  have lt9_bx4 := bx4.lt
  have lt9_bx5 := bx5.lt
  have lt9_bx6 := bx6.lt
  have lt9_bx7 := bx7.lt
  have lt9_bx8 := bx8.lt
  have lw9 := ff.size
  refine O.bslR rfl rfl rfl rfl rfl (qv_s_bool_10 wa8 _ _ _ _ _ _ _ _ _ _) ?_
  rintro wa9 ⟨fa9, bx9⟩
  replace bx1 := bx1.fr fa9 id
  replace bx2 := bx2.fr fa9 id
  replace bx3 := bx3.fr fa9 id
  replace bx4 := bx4.fr fa9 id
  replace bx5 := bx5.fr fa9 id
  replace bx6 := bx6.fr fa9 id
  replace bx7 := bx7.fr fa9 id
  replace bx8 := bx8.fr fa9 id
  replace ff := ff.trans fa9
  have lt10_bx1 := bx1.lt
  have lt10_bx2 := bx2.lt
  have lt10_bx3 := bx3.lt
  have lt10_bx4 := bx4.lt
  have lt10_bx5 := bx5.lt
  have lt10_bx6 := bx6.lt
  have lt10_bx7 := bx7.lt
  have lt10_bx8 := bx8.lt
  have lt10_bx9 := bx9.lt
  have lw10 := ff.size
  refine O.bslR rfl rfl rfl rfl rfl (qv_s_bool_10 wa9 _ _ _ _ _ _ _ _ _ _) ?_
  rintro wa10 ⟨fa10, bx10⟩
  replace bx1 := bx1.fr fa10 id
  replace bx2 := bx2.fr fa10 id
  replace bx3 := bx3.fr fa10 id
  replace bx4 := bx4.fr fa10 id
  replace bx5 := bx5.fr fa10 id
  replace bx6 := bx6.fr fa10 id
  replace bx7 := bx7.fr fa10 id
  replace bx8 := bx8.fr fa10 id
  replace bx9 := bx9.fr fa10 id
  replace ff := ff.trans fa10
  have lt11_bx1 := bx1.lt
  have lt11_bx2 := bx2.lt
  have lt11_bx3 := bx3.lt
  have lt11_bx4 := bx4.lt
  have lt11_bx5 := bx5.lt
  have lt11_bx6 := bx6.lt
  have lt11_bx7 := bx7.lt
  have lt11_bx8 := bx8.lt
  have lt11_bx9 := bx9.lt
  have lt11_bx10 := bx10.lt
  have lw11 := ff.size
  refine O.bslR rfl rfl rfl rfl rfl (qv_s_bool_10 wa10 _ _ _ _ _ _ _ _ _ _) ?_
  rintro wa11 ⟨fa11, bx11⟩
  replace bx1 := bx1.fr fa11 id
  replace bx2 := bx2.fr fa11 id
  replace bx3 := bx3.fr fa11 id
  replace bx4 := bx4.fr fa11 id
  replace bx5 := bx5.fr fa11 id
  replace bx6 := bx6.fr fa11 id
  replace bx7 := bx7.fr fa11 id
  replace bx8 := bx8.fr fa11 id
  replace bx9 := bx9.fr fa11 id
  replace bx10 := bx10.fr fa11 id
  replace ff := ff.trans fa11
  have lt12_bx1 := bx1.lt
  have lt12_bx2 := bx2.lt
  have lt12_bx3 := bx3.lt
  have lt12_bx4 := bx4.lt
  have lt12_bx5 := bx5.lt
  have lt12_bx6 := bx6.lt
  have lt12_bx7 := bx7.lt
  have lt12_bx8 := bx8.lt
  have lt12_bx9 := bx9.lt
  have lt12_bx10 := bx10.lt
  have lt12_bx11 := bx11.lt
  have lw12 := ff.size
  refine O.bslR rfl rfl rfl rfl rfl (qv_s_bool_10 wa11 _ _ _ _ _ _ _ _ _ _) ?_
  rintro wa12 ⟨fa12, bx12⟩
  replace bx1 := bx1.fr fa12 id
  replace bx2 := bx2.fr fa12 id
  replace bx3 := bx3.fr fa12 id
  replace bx4 := bx4.fr fa12 id
  replace bx5 := bx5.fr fa12 id
  replace bx6 := bx6.fr fa12 id
  replace bx7 := bx7.fr fa12 id
  replace bx8 := bx8.fr fa12 id
  replace bx9 := bx9.fr fa12 id
  replace bx10 := bx10.fr fa12 id
  replace bx11 := bx11.fr fa12 id
  replace ff := ff.trans fa12
  have lt13_bx1 := bx1.lt
  have lt13_bx2 := bx2.lt
  have lt13_bx3 := bx3.lt
  have lt13_bx4 := bx4.lt
  have lt13_bx5 := bx5.lt
  have lt13_bx6 := bx6.lt
  have lt13_bx7 := bx7.lt
  have lt13_bx8 := bx8.lt
  have lt13_bx9 := bx9.lt
  have lt13_bx10 := bx10.lt
  have lt13_bx11 := bx11.lt
  have lt13_bx12 := bx12.lt
  have lw13 := ff.size
  refine O.bslR rfl rfl rfl rfl rfl (qv_s_s_bool_13 wa12 _ _ _ _ _ _ _ _ _ _ _ _ _ _ _ _ _ _ _ _ _ _ _ _ _ _ _ _ _ _ _ _ _ _ _ _ _ _ _) ?_
  rintro wa13 ⟨fa13, bx13⟩
  replace bx1 := bx1.fr fa13 id
  replace bx2 := bx2.fr fa13 id
  replace bx3 := bx3.fr fa13 id
  replace bx4 := bx4.fr fa13 id
  replace bx5 := bx5.fr fa13 id
  replace bx6 := bx6.fr fa13 id
  replace bx7 := bx7.fr fa13 id
  replace bx8 := bx8.fr fa13 id
  replace bx9 := bx9.fr fa13 id
  replace bx10 := bx10.fr fa13 id
  replace bx11 := bx11.fr fa13 id
  replace bx12 := bx12.fr fa13 id
  replace ff := ff.trans fa13
  refine WL.op rfl rfl rfl (Go.Proofs.Ytobibplilbchfaa.W.quiet_assign rfl rfl) ?_
  refine WL.nil ?_
  refine TW.seq ?_
  refine TW.sreg ?_
  refine WL.op rfl rfl rfl (Go.Proofs.Ytobibplilbchfaa.W.quiet_move rfl rfl) ?_
  refine WL.op rfl rfl rfl (Go.Proofs.Ytobibplilbchfaa.W.quiet_bin rfl rfl rfl (fun W => qb_lss_int W _ _ _ _)) ?_
  refine O.split (fun h1 => ?_) (fun h1 => ?_)
  · skip
    refine WL.op rfl rfl rfl (Go.Proofs.Ytobibplilbchfaa.W.quiet_move rfl rfl) ?_
    refine WL.skip rfl rfl rfl ?_
    refine WL.skip rfl rfl rfl ?_
    refine WL.op rfl rfl rfl (Go.Proofs.Ytobibplilbchfaa.W.quiet_pick rfl rfl rfl) ?_
    refine WL.nil ?_
    refine TW.cond rfl (fun _ => ?_) (fun hb => by cases hb)
    refine TW.sreg ?_
    refine WL.op rfl rfl rfl (Go.Proofs.Ytobibplilbchfaa.W.quiet_assign rfl rfl) ?_
    refine WL.nil ?_
    refine TW.rt ?_
    refine Xw.thn (by simp) ?_
    refine bodyw_ret rfl rfl ?_
    exact .inl ⟨hK_no (.inl (of_decide_eq_true h1)), rfl, ff⟩
  · skip
    refine WL.op rfl rfl rfl (Go.Proofs.Ytobibplilbchfaa.W.quiet_move rfl rfl) ?_
    refine WL.op rfl rfl rfl (Go.Proofs.Ytobibplilbchfaa.W.quiet_move rfl rfl) ?_
    refine WL.op rfl rfl rfl (Go.Proofs.Ytobibplilbchfaa.W.quiet_bin rfl rfl rfl (fun W => qb_gtr_int W _ _ _ _)) ?_
    refine O.split (fun h2 => ?_) (fun h2 => ?_)
    · skip
      refine WL.op rfl rfl rfl (Go.Proofs.Ytobibplilbchfaa.W.quiet_pick rfl rfl rfl) ?_
      refine WL.nil ?_
      refine TW.cond rfl (fun _ => ?_) (fun hb => by cases hb)
      refine TW.sreg ?_
      refine WL.op rfl rfl rfl (Go.Proofs.Ytobibplilbchfaa.W.quiet_assign rfl rfl) ?_
      refine WL.nil ?_
      refine TW.rt ?_
      refine Xw.thn (by simp) ?_
      refine bodyw_ret rfl rfl ?_
      exact .inl ⟨hK_no (.inr (of_decide_eq_true h2)), rfl, ff⟩
    · skip
      obtain ⟨hk, hx⟩ := hK_12 h1 h2
      rcases hx with rfl | rfl | rfl | rfl | rfl | rfl | rfl | rfl | rfl | rfl | rfl | rfl
      · skip
        refine WL.op rfl rfl rfl (Go.Proofs.Ytobibplilbchfaa.W.quiet_pick rfl rfl rfl) ?_
        refine WL.nil ?_
        refine TW.cond rfl (fun hb => by cases hb) (fun _ => ?_)
        refine TW.skip ?_
        refine TW.sreg ?_
        refine WL.op rfl rfl rfl (Go.Proofs.Ytobibplilbchfaa.W.quiet_move rfl rfl) ?_
        refine WL.op rfl rfl rfl (Go.Proofs.Ytobibplilbchfaa.W.quiet_move rfl rfl) ?_
        refine O.ixa rfl rfl rfl rfl rfl rfl (by exact qi_s_s_bool _ _ _ _ _ 1 (by decide)) ?_
        refine WL.ld rfl rfl rfl rfl rfl (ql_s_bool _ _ _ _ _ (bx13.cell (j := 1) rfl)) ?_
        refine WL.op rfl rfl rfl (Go.Proofs.Ytobibplilbchfaa.W.quiet_assign rfl rfl) ?_
        refine WL.nil ?_
        refine TW.rt ?_
        refine bodyw_ret rfl rfl ?_
        exact .inr ⟨hk, _, _, _, _, _, _, _, rfl, bx1, ff⟩
      · skip
        refine WL.op rfl rfl rfl (Go.Proofs.Ytobibplilbchfaa.W.quiet_pick rfl rfl rfl) ?_
        refine WL.nil ?_
        refine TW.cond rfl (fun hb => by cases hb) (fun _ => ?_)
        refine TW.skip ?_
        refine TW.sreg ?_
        refine WL.op rfl rfl rfl (Go.Proofs.Ytobibplilbchfaa.W.quiet_move rfl rfl) ?_
        refine WL.op rfl rfl rfl (Go.Proofs.Ytobibplilbchfaa.W.quiet_move rfl rfl) ?_
        refine O.ixa rfl rfl rfl rfl rfl rfl (by exact qi_s_s_bool _ _ _ _ _ 2 (by decide)) ?_
        refine WL.ld rfl rfl rfl rfl rfl (ql_s_bool _ _ _ _ _ (bx13.cell (j := 2) rfl)) ?_
        refine WL.op rfl rfl rfl (Go.Proofs.Ytobibplilbchfaa.W.quiet_assign rfl rfl) ?_
        refine WL.nil ?_
        refine TW.rt ?_
        refine bodyw_ret rfl rfl ?_
        exact .inr ⟨hk, _, _, _, _, _, _, _, rfl, bx2, ff⟩
      · skip
        refine WL.op rfl rfl rfl (Go.Proofs.Ytobibplilbchfaa.W.quiet_pick rfl rfl rfl) ?_
        refine WL.nil ?_
        refine TW.cond rfl (fun hb => by cases hb) (fun _ => ?_)
        refine TW.skip ?_
        refine TW.sreg ?_
        refine WL.op rfl rfl rfl (Go.Proofs.Ytobibplilbchfaa.W.quiet_move rfl rfl) ?_
        refine WL.op rfl rfl rfl (Go.Proofs.Ytobibplilbchfaa.W.quiet_move rfl rfl) ?_
        refine O.ixa rfl rfl rfl rfl rfl rfl (by exact qi_s_s_bool _ _ _ _ _ 3 (by decide)) ?_
        refine WL.ld rfl rfl rfl rfl rfl (ql_s_bool _ _ _ _ _ (bx13.cell (j := 3) rfl)) ?_
        refine WL.op rfl rfl rfl (Go.Proofs.Ytobibplilbchfaa.W.quiet_assign rfl rfl) ?_
        refine WL.nil ?_
        refine TW.rt ?_
        refine bodyw_ret rfl rfl ?_
        exact .inr ⟨hk, _, _, _, _, _, _, _, rfl, bx3, ff⟩
      · skip
        refine WL.op rfl rfl rfl (Go.Proofs.Ytobibplilbchfaa.W.quiet_pick rfl rfl rfl) ?_
        refine WL.nil ?_
        refine TW.cond rfl (fun hb => by cases hb) (fun _ => ?_)
        refine TW.skip ?_
        refine TW.sreg ?_
        refine WL.op rfl rfl rfl (Go.Proofs.Ytobibplilbchfaa.W.quiet_move rfl rfl) ?_
        refine WL.op rfl rfl rfl (Go.Proofs.Ytobibplilbchfaa.W.quiet_move rfl rfl) ?_
        refine O.ixa rfl rfl rfl rfl rfl rfl (by exact qi_s_s_bool _ _ _ _ _ 4 (by decide)) ?_
        refine WL.ld rfl rfl rfl rfl rfl (ql_s_bool _ _ _ _ _ (bx13.cell (j := 4) rfl)) ?_
        refine WL.op rfl rfl rfl (Go.Proofs.Ytobibplilbchfaa.W.quiet_assign rfl rfl) ?_
        refine WL.nil ?_
        refine TW.rt ?_
        refine bodyw_ret rfl rfl ?_
        exact .inr ⟨hk, _, _, _, _, _, _, _, rfl, bx4, ff⟩
      · skip
        refine WL.op rfl rfl rfl (Go.Proofs.Ytobibplilbchfaa.W.quiet_pick rfl rfl rfl) ?_
        refine WL.nil ?_
        refine TW.cond rfl (fun hb => by cases hb) (fun _ => ?_)
        refine TW.skip ?_
        refine TW.sreg ?_
        refine WL.op rfl rfl rfl (Go.Proofs.Ytobibplilbchfaa.W.quiet_move rfl rfl) ?_
        refine WL.op rfl rfl rfl (Go.Proofs.Ytobibplilbchfaa.W.quiet_move rfl rfl) ?_
        refine O.ixa rfl rfl rfl rfl rfl rfl (by exact qi_s_s_bool _ _ _ _ _ 5 (by decide)) ?_
        refine WL.ld rfl rfl rfl rfl rfl (ql_s_bool _ _ _ _ _ (bx13.cell (j := 5) rfl)) ?_
        refine WL.op rfl rfl rfl (Go.Proofs.Ytobibplilbchfaa.W.quiet_assign rfl rfl) ?_
        refine WL.nil ?_
        refine TW.rt ?_
        refine bodyw_ret rfl rfl ?_
        exact .inr ⟨hk, _, _, _, _, _, _, _, rfl, bx5, ff⟩
      · skip
        refine WL.op rfl rfl rfl (Go.Proofs.Ytobibplilbchfaa.W.quiet_pick rfl rfl rfl) ?_
        refine WL.nil ?_
        refine TW.cond rfl (fun hb => by cases hb) (fun _ => ?_)
        refine TW.skip ?_
        refine TW.sreg ?_
        refine WL.op rfl rfl rfl (Go.Proofs.Ytobibplilbchfaa.W.quiet_move rfl rfl) ?_
        refine WL.op rfl rfl rfl (Go.Proofs.Ytobibplilbchfaa.W.quiet_move rfl rfl) ?_
        refine O.ixa rfl rfl rfl rfl rfl rfl (by exact qi_s_s_bool _ _ _ _ _ 6 (by decide)) ?_
        refine WL.ld rfl rfl rfl rfl rfl (ql_s_bool _ _ _ _ _ (bx13.cell (j := 6) rfl)) ?_
        refine WL.op rfl rfl rfl (Go.Proofs.Ytobibplilbchfaa.W.quiet_assign rfl rfl) ?_
        refine WL.nil ?_
        refine TW.rt ?_
        refine bodyw_ret rfl rfl ?_
        exact .inr ⟨hk, _, _, _, _, _, _, _, rfl, bx6, ff⟩
      · skip
        refine WL.op rfl rfl rfl (Go.Proofs.Ytobibplilbchfaa.W.quiet_pick rfl rfl rfl) ?_
        refine WL.nil ?_
        refine TW.cond rfl (fun hb => by cases hb) (fun _ => ?_)
        refine TW.skip ?_
        refine TW.sreg ?_
        refine WL.op rfl rfl rfl (Go.Proofs.Ytobibplilbchfaa.W.quiet_move rfl rfl) ?_
        refine WL.op rfl rfl rfl (Go.Proofs.Ytobibplilbchfaa.W.quiet_move rfl rfl) ?_
        refine O.ixa rfl rfl rfl rfl rfl rfl (by exact qi_s_s_bool _ _ _ _ _ 7 (by decide)) ?_
        refine WL.ld rfl rfl rfl rfl rfl (ql_s_bool _ _ _ _ _ (bx13.cell (j := 7) rfl)) ?_
        refine WL.op rfl rfl rfl (Go.Proofs.Ytobibplilbchfaa.W.quiet_assign rfl rfl) ?_
        refine WL.nil ?_
        refine TW.rt ?_
        refine bodyw_ret rfl rfl ?_
        exact .inr ⟨hk, _, _, _, _, _, _, _, rfl, bx7, ff⟩
      · skip
        refine WL.op rfl rfl rfl (Go.Proofs.Ytobibplilbchfaa.W.quiet_pick rfl rfl rfl) ?_
        refine WL.nil ?_
        refine TW.cond rfl (fun hb => by cases hb) (fun _ => ?_)
        refine TW.skip ?_
        refine TW.sreg ?_
        refine WL.op rfl rfl rfl (Go.Proofs.Ytobibplilbchfaa.W.quiet_move rfl rfl) ?_
        refine WL.op rfl rfl rfl (Go.Proofs.Ytobibplilbchfaa.W.quiet_move rfl rfl) ?_
        refine O.ixa rfl rfl rfl rfl rfl rfl (by exact qi_s_s_bool _ _ _ _ _ 8 (by decide)) ?_
        refine WL.ld rfl rfl rfl rfl rfl (ql_s_bool _ _ _ _ _ (bx13.cell (j := 8) rfl)) ?_
        refine WL.op rfl rfl rfl (Go.Proofs.Ytobibplilbchfaa.W.quiet_assign rfl rfl) ?_
        refine WL.nil ?_
        refine TW.rt ?_
        refine bodyw_ret rfl rfl ?_
        exact .inr ⟨hk, _, _, _, _, _, _, _, rfl, bx8, ff⟩
      · skip
        refine WL.op rfl rfl rfl (Go.Proofs.Ytobibplilbchfaa.W.quiet_pick rfl rfl rfl) ?_
        refine WL.nil ?_
        refine TW.cond rfl (fun hb => by cases hb) (fun _ => ?_)
        refine TW.skip ?_
        refine TW.sreg ?_
        refine WL.op rfl rfl rfl (Go.Proofs.Ytobibplilbchfaa.W.quiet_move rfl rfl) ?_
        refine WL.op rfl rfl rfl (Go.Proofs.Ytobibplilbchfaa.W.quiet_move rfl rfl) ?_
        refine O.ixa rfl rfl rfl rfl rfl rfl (by exact qi_s_s_bool _ _ _ _ _ 9 (by decide)) ?_
        refine WL.ld rfl rfl rfl rfl rfl (ql_s_bool _ _ _ _ _ (bx13.cell (j := 9) rfl)) ?_
        refine WL.op rfl rfl rfl (Go.Proofs.Ytobibplilbchfaa.W.quiet_assign rfl rfl) ?_
        refine WL.nil ?_
        refine TW.rt ?_
        refine bodyw_ret rfl rfl ?_
        exact .inr ⟨hk, _, _, _, _, _, _, _, rfl, bx9, ff⟩
      · skip
        refine WL.op rfl rfl rfl (Go.Proofs.Ytobibplilbchfaa.W.quiet_pick rfl rfl rfl) ?_
        refine WL.nil ?_
        refine TW.cond rfl (fun hb => by cases hb) (fun _ => ?_)
        refine TW.skip ?_
        refine TW.sreg ?_
        refine WL.op rfl rfl rfl (Go.Proofs.Ytobibplilbchfaa.W.quiet_move rfl rfl) ?_
        refine WL.op rfl rfl rfl (Go.Proofs.Ytobibplilbchfaa.W.quiet_move rfl rfl) ?_
        refine O.ixa rfl rfl rfl rfl rfl rfl (by exact qi_s_s_bool _ _ _ _ _ 10 (by decide)) ?_
        refine WL.ld rfl rfl rfl rfl rfl (ql_s_bool _ _ _ _ _ (bx13.cell (j := 10) rfl)) ?_
        refine WL.op rfl rfl rfl (Go.Proofs.Ytobibplilbchfaa.W.quiet_assign rfl rfl) ?_
        refine WL.nil ?_
        refine TW.rt ?_
        refine bodyw_ret rfl rfl ?_
        exact .inr ⟨hk, _, _, _, _, _, _, _, rfl, bx10, ff⟩
      · skip
        refine WL.op rfl rfl rfl (Go.Proofs.Ytobibplilbchfaa.W.quiet_pick rfl rfl rfl) ?_
        refine WL.nil ?_
        refine TW.cond rfl (fun hb => by cases hb) (fun _ => ?_)
        refine TW.skip ?_
        refine TW.sreg ?_
        refine WL.op rfl rfl rfl (Go.Proofs.Ytobibplilbchfaa.W.quiet_move rfl rfl) ?_
        refine WL.op rfl rfl rfl (Go.Proofs.Ytobibplilbchfaa.W.quiet_move rfl rfl) ?_
        refine O.ixa rfl rfl rfl rfl rfl rfl (by exact qi_s_s_bool _ _ _ _ _ 11 (by decide)) ?_
        refine WL.ld rfl rfl rfl rfl rfl (ql_s_bool _ _ _ _ _ (bx13.cell (j := 11) rfl)) ?_
        refine WL.op rfl rfl rfl (Go.Proofs.Ytobibplilbchfaa.W.quiet_assign rfl rfl) ?_
        refine WL.nil ?_
        refine TW.rt ?_
        refine bodyw_ret rfl rfl ?_
        exact .inr ⟨hk, _, _, _, _, _, _, _, rfl, bx11, ff⟩
      · skip
        refine WL.op rfl rfl rfl (Go.Proofs.Ytobibplilbchfaa.W.quiet_pick rfl rfl rfl) ?_
        refine WL.nil ?_
        refine TW.cond rfl (fun hb => by cases hb) (fun _ => ?_)
        refine TW.skip ?_
        refine TW.sreg ?_
        refine WL.op rfl rfl rfl (Go.Proofs.Ytobibplilbchfaa.W.quiet_move rfl rfl) ?_
        refine WL.op rfl rfl rfl (Go.Proofs.Ytobibplilbchfaa.W.quiet_move rfl rfl) ?_
        refine O.ixa rfl rfl rfl rfl rfl rfl (by exact qi_s_s_bool _ _ _ _ _ 12 (by decide)) ?_
        refine WL.ld rfl rfl rfl rfl rfl (ql_s_bool _ _ _ _ _ (bx13.cell (j := 12) rfl)) ?_
        refine WL.op rfl rfl rfl (Go.Proofs.Ytobibplilbchfaa.W.quiet_assign rfl rfl) ?_
        refine WL.nil ?_
        refine TW.rt ?_
        refine bodyw_ret rfl rfl ?_
        exact .inr ⟨hk, _, _, _, _, _, _, _, rfl, bx12, ff⟩
end Go.Proofs.Ytobibplilbchfaa
