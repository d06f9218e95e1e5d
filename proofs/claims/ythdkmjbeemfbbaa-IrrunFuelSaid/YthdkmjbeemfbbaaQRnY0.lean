/-
  Runs (layer 14): the page's example, plainly. Runs (layer 14): the page's example runs.
-/
import Derived.Test.YthdkmjbeemfbbaaQRnX
import Derived.KernelRfl
namespace Go.Proofs.Ythdkmjbeemfbbaa
open Go.RowKit
set_option linter.unusedVariables false
set_option linter.unusedSimpArgs false
def inA : Inn := ⟨11, 0, -1, -1, 0, 0, 0, 0, 0, [], false⟩
def inB : Inn := ⟨10, -1, 0, -1, 0, 0, 0, 0, 0, [], false⟩
def m14 : Mdl := ⟨[], [], [⟨⟨#[]⟩, false, 0, 1, [], [⟨[inA, inB], 3, 0, 0, 0⟩]⟩], 0⟩
theorem inA_ok : InsP 1 0 0 1 0 false inA := by unfold InsP inA RgP ArgP; simp
theorem inB_ok : InsP 1 0 0 1 0 false inB := by unfold InsP inB RgP ArgP; simp
def rOutc (x : RSt) : List Int × Int × Int × Int := (x.out, x.ins, x.ex, x.e)
theorem run14 (me : Nat → Int) : rOutc (rRun m14 [300] 10 (rEnter m14 ⟨me, fun _ => ⟨fun _ => 0, 0, 0, 0, 0, -1⟩, 0, [], 0, 0, 0⟩ 0 [] (-1))) = ([300], 1, 44, 0) := by kernel_rfl
theorem few14 : m14.few := by
  have hl : ∀ x ∈ [(11 : Int), 10, 0, -1], Lo x := by
    intro x hx
    simp only [List.mem_cons, List.not_mem_nil, or_false] at hx
    rcases hx with rfl | rfl | rfl | rfl <;> (unfold Lo; omega)
  have fi : ∀ i : Inn, i.args = [] → (∀ x ∈ i.l8, Lo x) → i.l8.length = 8 → FI i := fun i h1 h2 h3 => ⟨by rw [h1]; decide, fun k hk => h2 _ (by rw [List.getD_eq_getElem?_getD, List.getElem?_eq_getElem (by omega)]; exact List.getElem_mem _), fun k hk => by rw [h1] at hk; cases hk⟩
  refine ⟨by decide, by decide, by decide, fun k hk => ?_⟩
  have hk : k < 1 := hk
  obtain rfl : k = 0 := by omega
  refine ⟨by decide, by decide, fun q hq => ?_⟩
  have hq : q < 1 := hq
  obtain rfl : q = 0 := by omega
  refine ⟨by decide, fun j hj => ?_⟩
  have hj : j < 2 := hj
  have hA : FI inA := fi inA rfl (by intro x hx; apply hl; simp [Inn.l8, inA] at hx; simp; omega) rfl
  have hB : FI inB := fi inB rfl (by intro x hx; apply hl; simp [Inn.l8, inB] at hx; simp; omega) rfl
  by_cases e : j = 0
  · subst e; exact hA
  · obtain rfl : j = 1 := by omega
    exact hB
theorem wide14 : m14.wide := by
  refine ⟨by decide, by decide, by decide, fun y hy => ?_⟩
  obtain rfl := List.mem_singleton.1 hy
  refine ⟨by show 0 ≤ maxLen; unfold maxLen; omega, by show 1 ≤ maxLen; unfold maxLen; omega, fun b hb => ?_⟩
  obtain rfl := List.mem_singleton.1 hb
  have wi : ∀ i : Inn, i.args = [] → (∀ x ∈ i.l8, InR x) → i.u = 0 → i.wide := fun i h1 h2 h3 => ⟨by rw [h1]; show 0 ≤ maxLen; unfold maxLen; omega, h2, fun x hx => (by rw [h1] at hx; cases hx), by omega, by omega⟩
  refine ⟨by show 2 ≤ maxLen; unfold maxLen; omega, fun i hi => ?_, fun x hx => ?_⟩
  · simp only [List.mem_cons, List.not_mem_nil, or_false] at hi
    rcases hi with rfl | rfl
    · exact wi _ rfl (by intro x hx; simp [Inn.l8, inA] at hx; unfold InR; omega) rfl
    · exact wi _ rfl (by intro x hx; simp [Inn.l8, inB] at hx; unfold InR; omega) rfl
  · simp at hx; unfold InR; omega
theorem right14 : MdlF m14 := by
  refine ⟨⟨rfl, by decide, ⟨by decide, by decide⟩, rfl, rfl, fun k hk => absurd hk (Nat.not_lt_zero _), fun k hk => absurd hk (Nat.not_lt_zero _)⟩, fun k hk => ?_⟩
  have hk : k < 1 := hk
  obtain rfl : k = 0 := by omega
  refine ⟨⟨⟨by decide, by decide⟩, ⟨by decide, by decide⟩, fun k hk => absurd hk (Nat.not_lt_zero _), by decide⟩, fun q hq => ?_⟩
  have hq : q < 1 := hq
  obtain rfl : q = 0 := by omega
  refine ⟨.inr (.inr ⟨rfl, fun h => (by cases h), fun _ => ⟨by decide, by decide⟩, rfl, rfl⟩), fun j hj => ?_⟩
  have hj : j < 2 := hj
  by_cases e : j = 0
  · subst e; exact inA_ok
  · obtain rfl : j = 1 := by omega
    exact inB_ok
theorem qd_api_Ins_0_2_3 (w : World) (p0_m0 : Int) (p2_m0 : Int) (p3_m0 : Int) : (Instr.build 48 #[(0, .int .i64 p0_m0), (2, .int .i64 p2_m0), (3, .int .i64 p3_m0)]).run Try.prog w = .ok (.agg #[.int .i64 p0_m0, .int .i64 0, .int .i64 p2_m0, .int .i64 p3_m0, .int .i64 0, .int .i64 0, .int .i64 0, .int .i64 0, .int .u32 0, .slice none 0 0, .bool false]) w := by simp [go_sem]
theorem qd_api_Ins_0_1_3 (w : World) (p0_m0 : Int) (p1_m0 : Int) (p3_m0 : Int) : (Instr.build 48 #[(0, .int .i64 p0_m0), (1, .int .i64 p1_m0), (3, .int .i64 p3_m0)]).run Try.prog w = .ok (.agg #[.int .i64 p0_m0, .int .i64 p1_m0, .int .i64 0, .int .i64 p3_m0, .int .i64 0, .int .i64 0, .int .i64 0, .int .i64 0, .int .u32 0, .slice none 0 0, .bool false]) w := by simp [go_sem]
theorem qv_s_api_Ins_2 (w : World) (u0_m0 : Int) (u0_m1 : Int) (u0_m2 : Int) (u0_m3 : Int) (u0_m4 : Int) (u0_m5 : Int) (u0_m6 : Int) (u0_m7 : Int) (u0_m8 : Int) (u0_p9 : Option Addr) (u0_k9 u0_l9 : Nat) (u0_p10 : Bool) (u1_m0 : Int) (u1_m1 : Int) (u1_m2 : Int) (u1_m3 : Int) (u1_m4 : Int) (u1_m5 : Int) (u1_m6 : Int) (u1_m7 : Int) (u1_m8 : Int) (u1_p9 : Option Addr) (u1_k9 u1_l9 : Nat) (u1_p10 : Bool) : (Instr.buildSlice 42 2 #[(0, .agg #[.int .i64 u0_m0, .int .i64 u0_m1, .int .i64 u0_m2, .int .i64 u0_m3, .int .i64 u0_m4, .int .i64 u0_m5, .int .i64 u0_m6, .int .i64 u0_m7, .int .u32 u0_m8, .slice u0_p9 u0_k9 u0_l9, .bool u0_p10]), (1, .agg #[.int .i64 u1_m0, .int .i64 u1_m1, .int .i64 u1_m2, .int .i64 u1_m3, .int .i64 u1_m4, .int .i64 u1_m5, .int .i64 u1_m6, .int .i64 u1_m7, .int .u32 u1_m8, .slice u1_p9 u1_k9 u1_l9, .bool u1_p10])]).run Try.prog w = .ok (.slice (some ⟨w.heap.size, 0, none⟩) 2 2) (w.alloc (.cells #[.int .i64 u0_m0, .int .i64 u0_m1, .int .i64 u0_m2, .int .i64 u0_m3, .int .i64 u0_m4, .int .i64 u0_m5, .int .i64 u0_m6, .int .i64 u0_m7, .int .u32 u0_m8, .slice u0_p9 u0_k9 u0_l9, .bool u0_p10, .int .i64 u1_m0, .int .i64 u1_m1, .int .i64 u1_m2, .int .i64 u1_m3, .int .i64 u1_m4, .int .i64 u1_m5, .int .i64 u1_m6, .int .i64 u1_m7, .int .u32 u1_m8, .slice u1_p9 u1_k9 u1_l9, .bool u1_p10] 48)) := by simp [go_sem]
theorem qd_api_Block_0_1 (w : World) (p0_p0 : Option Addr) (p0_k0 p0_l0 : Nat) (p1_m0 : Int) : (Instr.build 44 #[(0, .slice p0_p0 p0_k0 p0_l0), (1, .int .i64 p1_m0)]).run Try.prog w = .ok (.agg #[.slice p0_p0 p0_k0 p0_l0, .int .i64 p1_m0, .int .i64 0, .int .i64 0, .int .i64 0]) w := by simp [go_sem]
theorem qv_s_api_Block_1 (w : World) (u0_p0 : Option Addr) (u0_k0 u0_l0 : Nat) (u0_m1 : Int) (u0_m2 : Int) (u0_m3 : Int) (u0_m4 : Int) : (Instr.buildSlice 39 1 #[(0, .agg #[.slice u0_p0 u0_k0 u0_l0, .int .i64 u0_m1, .int .i64 u0_m2, .int .i64 u0_m3, .int .i64 u0_m4])]).run Try.prog w = .ok (.slice (some ⟨w.heap.size, 0, none⟩) 1 1) (w.alloc (.cells #[.slice u0_p0 u0_k0 u0_l0, .int .i64 u0_m1, .int .i64 u0_m2, .int .i64 u0_m3, .int .i64 u0_m4] 44)) := by simp [go_sem]
theorem qd_api_Proc_3_5 (w : World) (p3_m0 : Int) (p5_p0 : Option Addr) (p5_k0 p5_l0 : Nat) : (Instr.build 41 #[(3, .int .i64 p3_m0), (5, .slice p5_p0 p5_k0 p5_l0)]).run Try.prog w = .ok (.agg #[.string ⟨#[]⟩, .bool false, .int .i64 0, .int .i64 p3_m0, .slice none 0 0, .slice p5_p0 p5_k0 p5_l0]) w := by simp [go_sem]
theorem qlB_api_Proc (w : World) (g : Nat) (up0 : ByteArray) (up1 : Bool) (um2 : Int) (um3 : Int) (up4 : Option Addr) (uk4 ul4 : Nat) (up5 : Option Addr) (uk5 ul5 : Nat) (tt : TypeId) (h : Bx w g #[.string up0, .bool up1, .int .i64 um2, .int .i64 um3, .slice up4 uk4 ul4, .slice up5 uk5 ul5] tt) : (Instr.loadAt 41 (.pointer (some ⟨g, 0, none⟩))).run Try.prog w = .ok (.agg #[.string up0, .bool up1, .int .i64 um2, .int .i64 um3, .slice up4 uk4 ul4, .slice up5 uk5 ul5]) w := by
  have c0 := h.cell (j := 0) rfl
  have c1 := h.cell (j := 1) rfl
  have c2 := h.cell (j := 2) rfl
  have c3 := h.cell (j := 3) rfl
  have c4 := h.cell (j := 4) rfl
  have c5 := h.cell (j := 5) rfl
  simp [go_sem, c0, c1, c2, c3, c4, c5]
theorem qv_s_api_Proc_1 (w : World) (u0_p0 : ByteArray) (u0_p1 : Bool) (u0_m2 : Int) (u0_m3 : Int) (u0_p4 : Option Addr) (u0_k4 u0_l4 : Nat) (u0_p5 : Option Addr) (u0_k5 u0_l5 : Nat) : (Instr.buildSlice 24 1 #[(0, .agg #[.string u0_p0, .bool u0_p1, .int .i64 u0_m2, .int .i64 u0_m3, .slice u0_p4 u0_k4 u0_l4, .slice u0_p5 u0_k5 u0_l5])]).run Try.prog w = .ok (.slice (some ⟨w.heap.size, 0, none⟩) 1 1) (w.alloc (.cells #[.string u0_p0, .bool u0_p1, .int .i64 u0_m2, .int .i64 u0_m3, .slice u0_p4 u0_k4 u0_l4, .slice u0_p5 u0_k5 u0_l5] 41)) := by simp [go_sem]
theorem qd_api_Module_2 (w : World) (p2_p0 : Option Addr) (p2_k0 p2_l0 : Nat) : (Instr.build 26 #[(2, .slice p2_p0 p2_k0 p2_l0)]).run Try.prog w = .ok (.agg #[.slice none 0 0, .slice none 0 0, .slice p2_p0 p2_k0 p2_l0, .int .i64 0]) w := by simp [go_sem]
theorem qk_irrun_Run (w : World) (vs : Array Value) : (callFunc 6 vs).run Try.prog w = .ok (.enter 6 vs) w := by simp [go_sem]
theorem mdl14 {w : World} {b1 b2 b4 : Nat} {t1 t2 t4 : TypeId} (h1 : Bx w b1 #[.int .i64 11, .int .i64 0, .int .i64 (-1), .int .i64 (-1), .int .i64 0, .int .i64 0, .int .i64 0, .int .i64 0, .int .u32 0, .slice none 0 0, .bool false, .int .i64 10, .int .i64 (-1), .int .i64 0, .int .i64 (-1), .int .i64 0, .int .i64 0, .int .i64 0, .int .i64 0, .int .u32 0, .slice none 0 0, .bool false] t1) (h2 : Bx w b2 #[.slice (some ⟨b1, 0, none⟩) 2 2, .int .i64 3, .int .i64 0, .int .i64 0, .int .i64 0] t2) (h4 : Bx w b4 #[.string ⟨#[]⟩, .bool false, .int .i64 0, .int .i64 1, .slice none 0 0, .slice (some ⟨b2, 0, none⟩) 1 1] t4) : MdlAt w none none (some ⟨b4, 0, none⟩) m14 := by
  have z1 : InsL w (some ⟨b1, 0, none⟩) [inA, inB] := fun k hk => by
    have hk : k < 2 := hk
    by_cases e : k = 0
    · subst e
      exact ⟨b1, 0, rfl, ⟨h1.cell (j := 0) rfl, h1.cell (j := 1) rfl, h1.cell (j := 2) rfl, h1.cell (j := 3) rfl, h1.cell (j := 4) rfl, h1.cell (j := 5) rfl, h1.cell (j := 6) rfl, h1.cell (j := 7) rfl, h1.cell (j := 8) rfl, ⟨none, 0, h1.cell (j := 9) rfl, fun k hk => absurd hk (Nat.not_lt_zero _)⟩, h1.cell (j := 10) rfl⟩⟩
    · obtain rfl : k = 1 := by omega
      exact ⟨b1, 0, rfl, ⟨h1.cell (j := 11) rfl, h1.cell (j := 12) rfl, h1.cell (j := 13) rfl, h1.cell (j := 14) rfl, h1.cell (j := 15) rfl, h1.cell (j := 16) rfl, h1.cell (j := 17) rfl, h1.cell (j := 18) rfl, h1.cell (j := 19) rfl, ⟨none, 0, h1.cell (j := 20) rfl, fun k hk => absurd hk (Nat.not_lt_zero _)⟩, h1.cell (j := 21) rfl⟩⟩
  have z2 : BkL w (some ⟨b2, 0, none⟩) [⟨[inA, inB], 3, 0, 0, 0⟩] := fun k hk => by
    have hk : k < 1 := hk
    obtain rfl : k = 0 := by omega
    exact ⟨b2, 0, rfl, ⟨_, 2, h2.cell (j := 0) rfl, z1⟩, h2.cell (j := 1) rfl, h2.cell (j := 2) rfl, h2.cell (j := 3) rfl, h2.cell (j := 4) rfl⟩
  refine ⟨fun k hk => absurd hk (Nat.not_lt_zero _), fun k hk => absurd hk (Nat.not_lt_zero _), fun k hk => ?_⟩
  have hk : k < 1 := hk
  obtain rfl : k = 0 := by omega
  exact ⟨b4, 0, rfl, h4.cell (j := 0) rfl, h4.cell (j := 1) rfl, h4.cell (j := 2) rfl, h4.cell (j := 3) rfl, ⟨none, 0, h4.cell (j := 4) rfl, fun k hk => absurd hk (Nat.not_lt_zero _)⟩, ⟨_, 1, h4.cell (j := 5) rfl, z2⟩⟩
theorem qi0_u32 (w : World) (b o n c : Nat) (h : 0 < n) : (Instr.indexAt 27 (.slice (some ⟨b, o, none⟩) n c) (.int .i64 0)).run Try.prog w = .ok (.pointer (some ⟨b, o, none⟩)) w := by
  have := qi_s_uint32 w b o n c 0 h
  simpa using this
theorem t_run14 (pa ia : Option Addr) (w : World) (hm : MdlAt w none none pa m14) (hin : InpAt w ia [300]) : Calls Try.prog 6 #[.agg #[.slice none 0 0, .slice none 0 0, .slice pa 1 1, .int .i64 0], .slice ia 1 1, .int .i64 10] w fun e w' => ∃ oa oc, e = .returned (.agg #[.slice oa 1 oc, .int .i64 1, .int .u32 44, .int .i64 0]) ∧ InpAt w' oa [300] ∧ Fr (fun _ => False) w w' :=
  (t_Run m14 [] [300] none none pa ia 0 0 1 1 10 10 (by decide) (by decide) few14 wide14 (fun y hy => by cases hy) rfl (fun k hk => absurd hk (Nat.not_lt_zero _)) (fun y hy => by rw [List.mem_singleton.1 hy]; exact ⟨by decide, by decide⟩) (by decide) (fun k j => by simp) w hm (fun k hk => absurd hk (Nat.not_lt_zero _)) hin).mono fun e w' h => by
    obtain ⟨oa, oc, he, hr, hf⟩ := h
    have hfin := rFin_small (m := m14) (dat := []) (inp := [300]) (f := 10) right14 (by decide)
    have h14 := run14 (rMe (slS m14.gl) [] (fun _ => 0) m14.gl.length)
    rw [show m14.mn.toNat = 0 from rfl] at hfin
    rw [← hfin] at h14
    generalize rFin m14 [] [300] 10 = y at *
    unfold rOutc at h14
    simp only [Prod.mk.injEq] at h14
    obtain ⟨h1, h2, h3, h4⟩ := h14
    rw [h1, h2, h3, h4] at he
    rw [h1] at hr
    exact ⟨oa, oc, he, Row.inp hr, hf⟩
set_option maxRecDepth 100000 in
theorem t_awake (w : World) : Calls Try.prog 5 #[] w fun e w' => e = .returned (.bool true) ∧ Fr (fun _ => False) w w' := by
  have ff := Fr.refl (fun _ => False) w
  refine calls_tw Try.func5 rfl rfl (Nat.le_of_ble_eq_true rfl) ?_
  refine TW.sreg ?_
  refine WL.op rfl rfl rfl (Go.Proofs.Ythdkmjbeemfbbaa.W.quiet_assign rfl rfl) ?_
  refine WL.nil ?_
  refine TW.sreg ?_
  refine O.bld rfl rfl rfl rfl rfl (qd_api_Ins_0_2_3 _ _ _ _) ?_
  refine O.bld rfl rfl rfl rfl rfl (qd_api_Ins_0_1_3 _ _ _ _) ?_
  have lw1 := ff.size
  refine O.bslR rfl rfl rfl rfl rfl (qv_s_api_Ins_2 w _ _ _ _ _ _ _ _ _ _ _ _ _ _ _ _ _ _ _ _ _ _ _ _ _ _) ?_
  rintro wa1 ⟨fa1, bx1⟩
  replace ff := ff.trans fa1
  refine O.bld rfl rfl rfl rfl rfl (qd_api_Block_0_1 _ _ _ _ _) ?_
  have lt2_bx1 := bx1.lt
  have lw2 := ff.size
  refine O.bslR rfl rfl rfl rfl rfl (qv_s_api_Block_1 wa1 _ _ _ _ _ _ _) ?_
  rintro wa2 ⟨fa2, bx2⟩
  replace bx1 := bx1.fr fa2 id
  replace ff := ff.trans fa2
  refine O.bld rfl rfl rfl rfl rfl (qd_api_Proc_3_5 _ _ _ _ _) ?_
  have lt3_bx1 := bx1.lt
  have lt3_bx2 := bx2.lt
  have lw3 := ff.size
  refine O.allocR rfl rfl rfl rfl (qzR_api_Proc wa2) ?_
  rintro wa3 ⟨fa3, bx3⟩
  replace bx1 := bx1.fr fa3 id
  replace bx2 := bx2.fr fa3 id
  replace ff := ff.trans fa3
  refine O.storeR rfl rfl rfl rfl rfl (qsA_api_Proc wa3 _ _ _ _ _ _ _ _ _ _ _ _ _ _ _ _ _ bx3) ?_
  rintro wa4 ⟨fa4, bx3x⟩
  replace bx1 := bx1.fr fa4 (fun e => by omega)
  replace bx2 := bx2.fr fa4 (fun e => by omega)
  replace ff := ff.trans' fa4 (fun q hq e => by omega)
  clear bx3
  have bx3 := bx3x
  clear bx3x
  refine WL.nil ?_
  refine TW.sreg ?_
  refine WL.ld rfl rfl rfl rfl rfl (qlB_api_Proc _ _ _ _ _ _ _ _ _ _ _ _ _ bx3) ?_
  have lt4_bx1 := bx1.lt
  have lt4_bx2 := bx2.lt
  have lt4_bx3 := bx3.lt
  have lw4 := ff.size
  refine O.bslR rfl rfl rfl rfl rfl (qv_s_api_Proc_1 wa4 _ _ _ _ _ _ _ _ _ _) ?_
  rintro wa5 ⟨fa5, bx4⟩
  replace bx1 := bx1.fr fa5 id
  replace bx2 := bx2.fr fa5 id
  replace bx3 := bx3.fr fa5 id
  replace ff := ff.trans fa5
  refine O.bld rfl rfl rfl rfl rfl (qd_api_Module_2 _ _ _ _) ?_
  have lt5_bx1 := bx1.lt
  have lt5_bx2 := bx2.lt
  have lt5_bx3 := bx3.lt
  have lt5_bx4 := bx4.lt
  have lw5 := ff.size
  refine O.bslR rfl rfl rfl rfl rfl (qv_s_uint32_1 wa5 _) ?_
  rintro wa6 ⟨fa6, bx5⟩
  replace bx1 := bx1.fr fa6 id
  replace bx2 := bx2.fr fa6 id
  replace bx3 := bx3.fr fa6 id
  replace bx4 := bx4.fr fa6 id
  replace ff := ff.trans fa6
  have hm14 := mdl14 bx1 bx2 bx4
  have hin14 : InpAt wa6 (some ⟨wa5.heap.size, 0, none⟩) [300] := fun k hk => by
    have hk : k < 1 := hk
    obtain rfl : k = 0 := by omega
    exact ⟨_, 0, rfl, bx5.cell (j := 0) rfl⟩
  refine WL.call (hr := (t_run14 _ _ _ hm14 hin14)) rfl rfl rfl rfl rfl (fun W => qk_irrun_Run W _) ?_
  rintro e wr ⟨oa, oc, rfl, ho, f1⟩
  refine ⟨_, rfl, ?_⟩
  replace bx1 := bx1.fr f1 id
  replace bx2 := bx2.fr f1 id
  replace bx3 := bx3.fr f1 id
  replace bx4 := bx4.fr f1 id
  replace bx5 := bx5.fr f1 id
  replace ff := ff.trans f1
  obtain ⟨g9, o9, rfl, hc9⟩ := ho 0 (by decide)
  have hg9l : g9 < wr.heap.size := World.block_lt_of_cell? wr _ hc9
  have lt6_bx1 := bx1.lt
  have lt6_bx2 := bx2.lt
  have lt6_bx3 := bx3.lt
  have lt6_bx4 := bx4.lt
  have lt6_bx5 := bx5.lt
  have lw6 := ff.size
  refine O.allocR rfl rfl rfl rfl (qzR_api_Outcome wr) ?_
  rintro wa7 ⟨fa7, bx6⟩
  replace bx1 := bx1.fr fa7 id
  replace bx2 := bx2.fr fa7 id
  replace bx3 := bx3.fr fa7 id
  replace bx4 := bx4.fr fa7 id
  replace bx5 := bx5.fr fa7 id
  replace hc9 := fa7.cell hc9 id
  replace ff := ff.trans fa7
  refine O.storeR rfl rfl rfl rfl rfl (qsA_api_Outcome wa7 _ _ _ _ _ _ _ _ _ _ _ bx6) ?_
  rintro wa8 ⟨fa8, bx6x⟩
  replace bx1 := bx1.fr fa8 (fun e => by omega)
  replace bx2 := bx2.fr fa8 (fun e => by omega)
  replace bx3 := bx3.fr fa8 (fun e => by omega)
  replace bx4 := bx4.fr fa8 (fun e => by omega)
  replace bx5 := bx5.fr fa8 (fun e => by omega)
  replace hc9 := fa8.cell hc9 (fun e => by have e : g9 = _ := e; omega)
  replace ff := ff.trans' fa8 (fun q hq e => by omega)
  clear bx6
  have bx6 := bx6x
  clear bx6x
  refine WL.nil ?_
  refine TW.sreg ?_
  refine WL.op rfl rfl rfl (Go.Proofs.Ythdkmjbeemfbbaa.W.quiet_field rfl rfl (fun W => (qa_api_Outcome_3 W _ _))) ?_
  refine WL.ld rfl rfl rfl rfl rfl (ql_api_Errno _ _ _ (bx6.cell (j := 3) rfl)) ?_
  refine WL.op rfl rfl rfl (Go.Proofs.Ythdkmjbeemfbbaa.W.quiet_bin rfl rfl rfl (fun W => qb_eql_api_Errno W _ _ _ _)) ?_
  refine O.split (fun hb => ?_) (fun hb => by exfalso; revert hb; simp)
  refine WL.op rfl rfl rfl (Go.Proofs.Ythdkmjbeemfbbaa.W.quiet_move rfl rfl) ?_
  refine WL.op rfl rfl rfl (Go.Proofs.Ythdkmjbeemfbbaa.W.quiet_field rfl rfl (fun W => (qa_api_Outcome_0 W _ _))) ?_
  refine WL.ld rfl rfl rfl rfl rfl (ql_s_uint32 _ _ _ _ _ (bx6.cell (j := 0) rfl)) ?_
  refine O.len rfl rfl rfl rfl rfl (qn_s_uint32 _ _ _ _) ?_
  refine WL.op rfl rfl rfl (Go.Proofs.Ythdkmjbeemfbbaa.W.quiet_bin rfl rfl rfl (fun W => qb_eql_int W _ _ _ _)) ?_
  refine O.split (fun hb => ?_) (fun hb => by exfalso; revert hb; simp)
  refine WL.op rfl rfl rfl (Go.Proofs.Ythdkmjbeemfbbaa.W.quiet_pick rfl rfl rfl) ?_
  refine WL.op rfl rfl rfl (Go.Proofs.Ythdkmjbeemfbbaa.W.quiet_move rfl rfl) ?_
  refine WL.op rfl rfl rfl (Go.Proofs.Ythdkmjbeemfbbaa.W.quiet_field rfl rfl (fun W => (qa_api_Outcome_0 W _ _))) ?_
  refine WL.ld rfl rfl rfl rfl rfl (ql_s_uint32 _ _ _ _ _ (bx6.cell (j := 0) rfl)) ?_
  refine O.ixa rfl rfl rfl rfl rfl rfl (qi0_u32 _ _ _ _ _ (by decide)) ?_
  refine WL.ld rfl rfl rfl rfl rfl (ql_uint32 _ _ _ hc9) ?_
  refine WL.op rfl rfl rfl (Go.Proofs.Ythdkmjbeemfbbaa.W.quiet_bin rfl rfl rfl (fun W => qb_eql_uint32 W _ _ _ _)) ?_
  refine O.split (fun hb => ?_) (fun hb => by exfalso; revert hb; simp)
  refine WL.op rfl rfl rfl (Go.Proofs.Ythdkmjbeemfbbaa.W.quiet_pick rfl rfl rfl) ?_
  refine WL.op rfl rfl rfl (Go.Proofs.Ythdkmjbeemfbbaa.W.quiet_move rfl rfl) ?_
  refine WL.op rfl rfl rfl (Go.Proofs.Ythdkmjbeemfbbaa.W.quiet_field rfl rfl (fun W => (qa_api_Outcome_2 W _ _))) ?_
  refine WL.ld rfl rfl rfl rfl rfl (ql_uint32 _ _ _ (bx6.cell (j := 2) rfl)) ?_
  refine WL.op rfl rfl rfl (Go.Proofs.Ythdkmjbeemfbbaa.W.quiet_bin rfl rfl rfl (fun W => qb_eql_uint32 W _ _ _ _)) ?_
  refine O.split (fun hb => ?_) (fun hb => by exfalso; revert hb; simp)
  refine WL.op rfl rfl rfl (Go.Proofs.Ythdkmjbeemfbbaa.W.quiet_pick rfl rfl rfl) ?_
  refine WL.op rfl rfl rfl (Go.Proofs.Ythdkmjbeemfbbaa.W.quiet_move rfl rfl) ?_
  refine WL.op rfl rfl rfl (Go.Proofs.Ythdkmjbeemfbbaa.W.quiet_field rfl rfl (fun W => (qa_api_Outcome_1 W _ _))) ?_
  refine WL.ld rfl rfl rfl rfl rfl (ql_int _ _ _ (bx6.cell (j := 1) rfl)) ?_
  refine WL.op rfl rfl rfl (Go.Proofs.Ythdkmjbeemfbbaa.W.quiet_bin rfl rfl rfl (fun W => qb_eql_int W _ _ _ _)) ?_
  refine O.split (fun hb => ?_) (fun hb => by exfalso; revert hb; simp)
  refine WL.op rfl rfl rfl (Go.Proofs.Ythdkmjbeemfbbaa.W.quiet_pick rfl rfl rfl) ?_
  refine WL.op rfl rfl rfl (Go.Proofs.Ythdkmjbeemfbbaa.W.quiet_assign rfl rfl) ?_
  refine WL.nil ?_
  refine TW.rt ?_
  refine bodyw_ret rfl rfl ?_
  exact ⟨rfl, ff⟩
end Go.Proofs.Ythdkmjbeemfbbaa
