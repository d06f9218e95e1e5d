/-
  Pack (layer 32): what the laws ask for, and the page's examples.
-/
import Derived.Test.YtcombjhkbjbncaaPkM
namespace Go.Proofs.Ytcombjhkbjbncaa
open Go.RowKit
set_option linter.unusedVariables false
set_option linter.unusedSimpArgs false
set_option linter.unnecessarySimpa false
theorem qb_neq_uint32 (w : World) (x y : Operand) (m n : Int) : ((do eqGuard .neq 40 x y (.int .u32 m) (.int .u32 n); binOp .neq 40 (.int .u32 m) (.int .u32 n) : Sem Value)).run Try.prog w = .ok (.bool (m != n)) w := by simp [go_sem]
theorem qv_s_uint8_5 (w : World) (u0_m0 : Int) (u1_m0 : Int) (u2_m0 : Int) (u3_m0 : Int) (u4_m0 : Int) : (Instr.buildSlice 23 5 #[(0, .int .u8 u0_m0), (1, .int .u8 u1_m0), (2, .int .u8 u2_m0), (3, .int .u8 u3_m0), (4, .int .u8 u4_m0)]).run Try.prog w = .ok (.slice (some ⟨w.heap.size, 0, none⟩) 5 5) (w.alloc (.cells #[.int .u8 u0_m0, .int .u8 u1_m0, .int .u8 u2_m0, .int .u8 u3_m0, .int .u8 u4_m0] 5)) := by simp [go_sem]
theorem qd_api_Image_0_1_2 (w : World) (p0_p0 : Option Addr) (p0_k0 p0_l0 : Nat) (p1_p0 : Option Addr) (p1_k0 p1_l0 : Nat) (p2_m0 : Int) : (Instr.build 25 #[(0, .slice p0_p0 p0_k0 p0_l0), (1, .slice p1_p0 p1_k0 p1_l0), (2, .int .i64 p2_m0)]).run Try.prog w = .ok (.agg #[.slice p0_p0 p0_k0 p0_l0, .slice p1_p0 p1_k0 p1_l0, .int .i64 p2_m0, .int .i64 0]) w := by simp [go_sem]
theorem qb_eql_api_Errno (w : World) (x y : Operand) (m n : Int) : ((do eqGuard .eql 28 x y (.int .i64 m) (.int .i64 n); binOp .eql 28 (.int .i64 m) (.int .i64 n) : Sem Value)).run Try.prog w = .ok (.bool (m == n)) w := by simp [go_sem]
def ex1 : Img := ⟨[1], [5, 0, 0, 0, 0], 268435456, 0⟩
def ex2 : Img := ⟨[1], [0, 0, 7, 8], 268435456, 0⟩
theorem ex1_ok : ex1.ok := ⟨by decide, by decide, by decide, by decide, by decide, by decide, by decide, by decide⟩
theorem ex2_ok : ex2.ok := ⟨by decide, by decide, by decide, by decide, by decide, by decide, by decide, by decide⟩
theorem ex1_wf : ex1.wf := ⟨fun x hx => by rw [List.mem_singleton.1 hx]; decide, Byt.cons (by decide) (Byt.cons (by decide) (Byt.cons (by decide) (Byt.cons (by decide) (Byt.cons (by decide) Byt.nil))))⟩
theorem ex2_wf : ex2.wf := ⟨fun x hx => by rw [List.mem_singleton.1 hx]; decide, Byt.cons (by decide) (Byt.cons (by decide) (Byt.cons (by decide) (Byt.cons (by decide) Byt.nil)))⟩
theorem ex1_enc : u8s (enc ex1) = [82, 83, 72, 1, 1, 0, 0, 0, 5, 0, 0, 0, 0, 0, 0, 0, 0, 0, 0, 0, 1, 0, 0, 0, 1, 5, 131] := by decide
theorem ex2_len : (enc ex2).length = 29 := by decide
theorem ex2_at : (enc ex2).getD 24 0 = 4 := by decide
set_option maxRecDepth 100000 in
theorem t_few (ca da : Option Addr) (cc dc : Nat) (g : Img) (w : World) : Calls Try.prog 6 #[.agg #[.slice ca g.code.length cc, .slice da g.data.length dc, .int .i64 g.lim, .int .i64 g.notes]] w fun e w' => ∃ b : Bool, e = .returned (.bool b) ∧ (b = true → (g.code.length ≤ 300 ∨ 32768 < g.code.length) ∧ (g.data.length ≤ 3000 ∨ 65536 < g.data.length)) ∧ Fr (fun _ => False) w w' := by
  have ff := Fr.refl (fun _ => False) w
  refine calls_tw Try.func6 rfl rfl (Nat.le_of_ble_eq_true rfl) ?_
  refine TW.sreg ?_
  have lw1 := ff.size
  refine O.boxR rfl rfl rfl rfl rfl (qxR_api_Image w _ _ _ _ _ _ _ _) ?_
  rintro wa1 ⟨fa1, bx1⟩
  replace ff := ff.trans fa1
  refine WL.op rfl rfl rfl (Go.Proofs.Ytcombjhkbjbncaa.W.quiet_assign rfl rfl) ?_
  refine WL.nil ?_
  refine TW.sreg ?_
  refine WL.op rfl rfl rfl (Go.Proofs.Ytcombjhkbjbncaa.W.quiet_field rfl rfl (fun W => (qa_api_Image_0 W _ _))) ?_
  refine WL.ld rfl rfl rfl rfl rfl (ql_s_uint32 _ _ _ _ _ (bx1.cell (j := 0) rfl)) ?_
  refine O.len rfl rfl rfl rfl rfl (qn_s_uint32 _ _ _ _) ?_
  refine WL.op rfl rfl rfl (Go.Proofs.Ytcombjhkbjbncaa.W.quiet_bin rfl rfl rfl (fun W => qb_leq_int W _ _ _ _)) ?_
  refine O.split (fun h1 => ?_) (fun h1 => ?_)
  · skip
    refine WL.op rfl rfl rfl (Go.Proofs.Ytcombjhkbjbncaa.W.quiet_move rfl rfl) ?_
    refine WL.skip rfl rfl rfl ?_
    refine WL.skip rfl rfl rfl ?_
    refine WL.skip rfl rfl rfl ?_
    refine WL.skip rfl rfl rfl ?_
    refine WL.skip rfl rfl rfl ?_
    refine WL.skip rfl rfl rfl ?_
    refine WL.skip rfl rfl rfl ?_
    refine WL.skip rfl rfl rfl ?_
    refine WL.skip rfl rfl rfl ?_
    refine WL.skip rfl rfl rfl ?_
    refine WL.op rfl rfl rfl (Go.Proofs.Ytcombjhkbjbncaa.W.quiet_pick rfl rfl rfl) ?_
    refine WL.op rfl rfl rfl (Go.Proofs.Ytcombjhkbjbncaa.W.quiet_move rfl rfl) ?_
    refine WL.op rfl rfl rfl (Go.Proofs.Ytcombjhkbjbncaa.W.quiet_field rfl rfl (fun W => (qa_api_Image_1 W _ _))) ?_
    refine WL.ld rfl rfl rfl rfl rfl (ql_s_uint8 _ _ _ _ _ (bx1.cell (j := 1) rfl)) ?_
    refine O.len rfl rfl rfl rfl rfl (qn_s_uint8 _ _ _ _) ?_
    refine WL.op rfl rfl rfl (Go.Proofs.Ytcombjhkbjbncaa.W.quiet_bin rfl rfl rfl (fun W => qb_leq_int W _ _ _ _)) ?_
    refine O.split (fun d1 => ?_) (fun d1 => ?_)
    · skip
      refine WL.op rfl rfl rfl (Go.Proofs.Ytcombjhkbjbncaa.W.quiet_move rfl rfl) ?_
      refine WL.skip rfl rfl rfl ?_
      refine WL.skip rfl rfl rfl ?_
      refine WL.skip rfl rfl rfl ?_
      refine WL.skip rfl rfl rfl ?_
      refine WL.skip rfl rfl rfl ?_
      refine WL.skip rfl rfl rfl ?_
      refine WL.skip rfl rfl rfl ?_
      refine WL.skip rfl rfl rfl ?_
      refine WL.skip rfl rfl rfl ?_
      refine WL.skip rfl rfl rfl ?_
      refine WL.op rfl rfl rfl (Go.Proofs.Ytcombjhkbjbncaa.W.quiet_pick rfl rfl rfl) ?_
      refine WL.op rfl rfl rfl (Go.Proofs.Ytcombjhkbjbncaa.W.quiet_pick rfl rfl rfl) ?_
      refine WL.op rfl rfl rfl (Go.Proofs.Ytcombjhkbjbncaa.W.quiet_assign rfl rfl) ?_
      refine WL.nil ?_
      refine TW.rt ?_
      refine bodyw_ret rfl rfl ?_
      exact ⟨_, rfl, fun _ => ⟨.inl (by have := of_decide_eq_true h1; omega), .inl (by have := of_decide_eq_true d1; omega)⟩, ff⟩
    · skip
      refine WL.op rfl rfl rfl (Go.Proofs.Ytcombjhkbjbncaa.W.quiet_move rfl rfl) ?_
      refine WL.op rfl rfl rfl (Go.Proofs.Ytcombjhkbjbncaa.W.quiet_field rfl rfl (fun W => (qa_api_Image_1 W _ _))) ?_
      refine WL.ld rfl rfl rfl rfl rfl (ql_s_uint8 _ _ _ _ _ (bx1.cell (j := 1) rfl)) ?_
      refine O.len rfl rfl rfl rfl rfl (qn_s_uint8 _ _ _ _) ?_
      refine WL.op rfl rfl rfl (Go.Proofs.Ytcombjhkbjbncaa.W.quiet_bin rfl rfl rfl (fun W => qb_gtr_int W _ _ _ _)) ?_
      refine O.split (fun d2 => ?_) (fun d2 => ?_)
      · skip
        refine WL.op rfl rfl rfl (Go.Proofs.Ytcombjhkbjbncaa.W.quiet_move rfl rfl) ?_
        refine WL.op rfl rfl rfl (Go.Proofs.Ytcombjhkbjbncaa.W.quiet_field rfl rfl (fun W => (qa_api_Image_1 W _ _))) ?_
        refine WL.ld rfl rfl rfl rfl rfl (ql_s_uint8 _ _ _ _ _ (bx1.cell (j := 1) rfl)) ?_
        refine O.len rfl rfl rfl rfl rfl (qn_s_uint8 _ _ _ _) ?_
        refine WL.op rfl rfl rfl (Go.Proofs.Ytcombjhkbjbncaa.W.quiet_bin rfl rfl rfl (fun W => qb_leq_int W _ _ _ _)) ?_
        refine WL.op rfl rfl rfl (Go.Proofs.Ytcombjhkbjbncaa.W.quiet_pick rfl rfl rfl) ?_
        refine WL.op rfl rfl rfl (Go.Proofs.Ytcombjhkbjbncaa.W.quiet_pick rfl rfl rfl) ?_
        refine WL.op rfl rfl rfl (Go.Proofs.Ytcombjhkbjbncaa.W.quiet_pick rfl rfl rfl) ?_
        refine WL.op rfl rfl rfl (Go.Proofs.Ytcombjhkbjbncaa.W.quiet_assign rfl rfl) ?_
        refine WL.nil ?_
        refine TW.rt ?_
        refine bodyw_ret rfl rfl ?_
        exact ⟨_, rfl, fun _ => ⟨.inl (by have := of_decide_eq_true h1; omega), .inr (by have := of_decide_eq_true d2; omega)⟩, ff⟩
      · skip
        refine WL.op rfl rfl rfl (Go.Proofs.Ytcombjhkbjbncaa.W.quiet_move rfl rfl) ?_
        refine WL.skip rfl rfl rfl ?_
        refine WL.skip rfl rfl rfl ?_
        refine WL.skip rfl rfl rfl ?_
        refine WL.skip rfl rfl rfl ?_
        refine WL.op rfl rfl rfl (Go.Proofs.Ytcombjhkbjbncaa.W.quiet_pick rfl rfl rfl) ?_
        refine WL.op rfl rfl rfl (Go.Proofs.Ytcombjhkbjbncaa.W.quiet_pick rfl rfl rfl) ?_
        refine WL.op rfl rfl rfl (Go.Proofs.Ytcombjhkbjbncaa.W.quiet_pick rfl rfl rfl) ?_
        refine WL.op rfl rfl rfl (Go.Proofs.Ytcombjhkbjbncaa.W.quiet_assign rfl rfl) ?_
        refine WL.nil ?_
        refine TW.rt ?_
        refine bodyw_ret rfl rfl ?_
        exact ⟨_, rfl, (fun h => by cases h), ff⟩
  · skip
    refine WL.op rfl rfl rfl (Go.Proofs.Ytcombjhkbjbncaa.W.quiet_move rfl rfl) ?_
    refine WL.op rfl rfl rfl (Go.Proofs.Ytcombjhkbjbncaa.W.quiet_field rfl rfl (fun W => (qa_api_Image_0 W _ _))) ?_
    refine WL.ld rfl rfl rfl rfl rfl (ql_s_uint32 _ _ _ _ _ (bx1.cell (j := 0) rfl)) ?_
    refine O.len rfl rfl rfl rfl rfl (qn_s_uint32 _ _ _ _) ?_
    refine WL.op rfl rfl rfl (Go.Proofs.Ytcombjhkbjbncaa.W.quiet_bin rfl rfl rfl (fun W => qb_gtr_int W _ _ _ _)) ?_
    refine O.split (fun h2 => ?_) (fun h2 => ?_)
    · skip
      refine WL.op rfl rfl rfl (Go.Proofs.Ytcombjhkbjbncaa.W.quiet_move rfl rfl) ?_
      refine WL.op rfl rfl rfl (Go.Proofs.Ytcombjhkbjbncaa.W.quiet_field rfl rfl (fun W => (qa_api_Image_0 W _ _))) ?_
      refine WL.ld rfl rfl rfl rfl rfl (ql_s_uint32 _ _ _ _ _ (bx1.cell (j := 0) rfl)) ?_
      refine O.len rfl rfl rfl rfl rfl (qn_s_uint32 _ _ _ _) ?_
      refine WL.op rfl rfl rfl (Go.Proofs.Ytcombjhkbjbncaa.W.quiet_bin rfl rfl rfl (fun W => qb_leq_int W _ _ _ _)) ?_
      refine O.split (fun h3 => ?_) (fun h3 => ?_)
      · skip
        refine WL.op rfl rfl rfl (Go.Proofs.Ytcombjhkbjbncaa.W.quiet_pick rfl rfl rfl) ?_
        refine WL.op rfl rfl rfl (Go.Proofs.Ytcombjhkbjbncaa.W.quiet_pick rfl rfl rfl) ?_
        refine WL.op rfl rfl rfl (Go.Proofs.Ytcombjhkbjbncaa.W.quiet_move rfl rfl) ?_
        refine WL.op rfl rfl rfl (Go.Proofs.Ytcombjhkbjbncaa.W.quiet_field rfl rfl (fun W => (qa_api_Image_1 W _ _))) ?_
        refine WL.ld rfl rfl rfl rfl rfl (ql_s_uint8 _ _ _ _ _ (bx1.cell (j := 1) rfl)) ?_
        refine O.len rfl rfl rfl rfl rfl (qn_s_uint8 _ _ _ _) ?_
        refine WL.op rfl rfl rfl (Go.Proofs.Ytcombjhkbjbncaa.W.quiet_bin rfl rfl rfl (fun W => qb_leq_int W _ _ _ _)) ?_
        refine O.split (fun d1 => ?_) (fun d1 => ?_)
        · skip
          refine WL.op rfl rfl rfl (Go.Proofs.Ytcombjhkbjbncaa.W.quiet_move rfl rfl) ?_
          refine WL.skip rfl rfl rfl ?_
          refine WL.skip rfl rfl rfl ?_
          refine WL.skip rfl rfl rfl ?_
          refine WL.skip rfl rfl rfl ?_
          refine WL.skip rfl rfl rfl ?_
          refine WL.skip rfl rfl rfl ?_
          refine WL.skip rfl rfl rfl ?_
          refine WL.skip rfl rfl rfl ?_
          refine WL.skip rfl rfl rfl ?_
          refine WL.skip rfl rfl rfl ?_
          refine WL.op rfl rfl rfl (Go.Proofs.Ytcombjhkbjbncaa.W.quiet_pick rfl rfl rfl) ?_
          refine WL.op rfl rfl rfl (Go.Proofs.Ytcombjhkbjbncaa.W.quiet_pick rfl rfl rfl) ?_
          refine WL.op rfl rfl rfl (Go.Proofs.Ytcombjhkbjbncaa.W.quiet_assign rfl rfl) ?_
          refine WL.nil ?_
          refine TW.rt ?_
          refine bodyw_ret rfl rfl ?_
          exact ⟨_, rfl, fun _ => ⟨.inr (by have := of_decide_eq_true h2; omega), .inl (by have := of_decide_eq_true d1; omega)⟩, ff⟩
        · skip
          refine WL.op rfl rfl rfl (Go.Proofs.Ytcombjhkbjbncaa.W.quiet_move rfl rfl) ?_
          refine WL.op rfl rfl rfl (Go.Proofs.Ytcombjhkbjbncaa.W.quiet_field rfl rfl (fun W => (qa_api_Image_1 W _ _))) ?_
          refine WL.ld rfl rfl rfl rfl rfl (ql_s_uint8 _ _ _ _ _ (bx1.cell (j := 1) rfl)) ?_
          refine O.len rfl rfl rfl rfl rfl (qn_s_uint8 _ _ _ _) ?_
          refine WL.op rfl rfl rfl (Go.Proofs.Ytcombjhkbjbncaa.W.quiet_bin rfl rfl rfl (fun W => qb_gtr_int W _ _ _ _)) ?_
          refine O.split (fun d2 => ?_) (fun d2 => ?_)
          · skip
            refine WL.op rfl rfl rfl (Go.Proofs.Ytcombjhkbjbncaa.W.quiet_move rfl rfl) ?_
            refine WL.op rfl rfl rfl (Go.Proofs.Ytcombjhkbjbncaa.W.quiet_field rfl rfl (fun W => (qa_api_Image_1 W _ _))) ?_
            refine WL.ld rfl rfl rfl rfl rfl (ql_s_uint8 _ _ _ _ _ (bx1.cell (j := 1) rfl)) ?_
            refine O.len rfl rfl rfl rfl rfl (qn_s_uint8 _ _ _ _) ?_
            refine WL.op rfl rfl rfl (Go.Proofs.Ytcombjhkbjbncaa.W.quiet_bin rfl rfl rfl (fun W => qb_leq_int W _ _ _ _)) ?_
            refine WL.op rfl rfl rfl (Go.Proofs.Ytcombjhkbjbncaa.W.quiet_pick rfl rfl rfl) ?_
            refine WL.op rfl rfl rfl (Go.Proofs.Ytcombjhkbjbncaa.W.quiet_pick rfl rfl rfl) ?_
            refine WL.op rfl rfl rfl (Go.Proofs.Ytcombjhkbjbncaa.W.quiet_pick rfl rfl rfl) ?_
            refine WL.op rfl rfl rfl (Go.Proofs.Ytcombjhkbjbncaa.W.quiet_assign rfl rfl) ?_
            refine WL.nil ?_
            refine TW.rt ?_
            refine bodyw_ret rfl rfl ?_
            exact ⟨_, rfl, fun _ => ⟨.inr (by have := of_decide_eq_true h2; omega), .inr (by have := of_decide_eq_true d2; omega)⟩, ff⟩
          · skip
            refine WL.op rfl rfl rfl (Go.Proofs.Ytcombjhkbjbncaa.W.quiet_move rfl rfl) ?_
            refine WL.skip rfl rfl rfl ?_
            refine WL.skip rfl rfl rfl ?_
            refine WL.skip rfl rfl rfl ?_
            refine WL.skip rfl rfl rfl ?_
            refine WL.op rfl rfl rfl (Go.Proofs.Ytcombjhkbjbncaa.W.quiet_pick rfl rfl rfl) ?_
            refine WL.op rfl rfl rfl (Go.Proofs.Ytcombjhkbjbncaa.W.quiet_pick rfl rfl rfl) ?_
            refine WL.op rfl rfl rfl (Go.Proofs.Ytcombjhkbjbncaa.W.quiet_pick rfl rfl rfl) ?_
            refine WL.op rfl rfl rfl (Go.Proofs.Ytcombjhkbjbncaa.W.quiet_assign rfl rfl) ?_
            refine WL.nil ?_
            refine TW.rt ?_
            refine bodyw_ret rfl rfl ?_
            exact ⟨_, rfl, (fun h => by cases h), ff⟩
      · skip
        refine WL.op rfl rfl rfl (Go.Proofs.Ytcombjhkbjbncaa.W.quiet_pick rfl rfl rfl) ?_
        refine WL.op rfl rfl rfl (Go.Proofs.Ytcombjhkbjbncaa.W.quiet_pick rfl rfl rfl) ?_
        refine WL.op rfl rfl rfl (Go.Proofs.Ytcombjhkbjbncaa.W.quiet_move rfl rfl) ?_
        refine WL.skip rfl rfl rfl ?_
        refine WL.skip rfl rfl rfl ?_
        refine WL.skip rfl rfl rfl ?_
        refine WL.skip rfl rfl rfl ?_
        refine WL.skip rfl rfl rfl ?_
        refine WL.skip rfl rfl rfl ?_
        refine WL.skip rfl rfl rfl ?_
        refine WL.skip rfl rfl rfl ?_
        refine WL.skip rfl rfl rfl ?_
        refine WL.skip rfl rfl rfl ?_
        refine WL.skip rfl rfl rfl ?_
        refine WL.skip rfl rfl rfl ?_
        refine WL.skip rfl rfl rfl ?_
        refine WL.skip rfl rfl rfl ?_
        refine WL.skip rfl rfl rfl ?_
        refine WL.skip rfl rfl rfl ?_
        refine WL.op rfl rfl rfl (Go.Proofs.Ytcombjhkbjbncaa.W.quiet_pick rfl rfl rfl) ?_
        refine WL.op rfl rfl rfl (Go.Proofs.Ytcombjhkbjbncaa.W.quiet_assign rfl rfl) ?_
        refine WL.nil ?_
        refine TW.rt ?_
        refine bodyw_ret rfl rfl ?_
        exact ⟨_, rfl, (fun h => by cases h), ff⟩
    · skip
      refine WL.op rfl rfl rfl (Go.Proofs.Ytcombjhkbjbncaa.W.quiet_move rfl rfl) ?_
      refine WL.skip rfl rfl rfl ?_
      refine WL.skip rfl rfl rfl ?_
      refine WL.skip rfl rfl rfl ?_
      refine WL.skip rfl rfl rfl ?_
      refine WL.op rfl rfl rfl (Go.Proofs.Ytcombjhkbjbncaa.W.quiet_pick rfl rfl rfl) ?_
      refine WL.op rfl rfl rfl (Go.Proofs.Ytcombjhkbjbncaa.W.quiet_pick rfl rfl rfl) ?_
      refine WL.op rfl rfl rfl (Go.Proofs.Ytcombjhkbjbncaa.W.quiet_move rfl rfl) ?_
      refine WL.skip rfl rfl rfl ?_
      refine WL.skip rfl rfl rfl ?_
      refine WL.skip rfl rfl rfl ?_
      refine WL.skip rfl rfl rfl ?_
      refine WL.skip rfl rfl rfl ?_
      refine WL.skip rfl rfl rfl ?_
      refine WL.skip rfl rfl rfl ?_
      refine WL.skip rfl rfl rfl ?_
      refine WL.skip rfl rfl rfl ?_
      refine WL.skip rfl rfl rfl ?_
      refine WL.skip rfl rfl rfl ?_
      refine WL.skip rfl rfl rfl ?_
      refine WL.skip rfl rfl rfl ?_
      refine WL.skip rfl rfl rfl ?_
      refine WL.skip rfl rfl rfl ?_
      refine WL.skip rfl rfl rfl ?_
      refine WL.op rfl rfl rfl (Go.Proofs.Ytcombjhkbjbncaa.W.quiet_pick rfl rfl rfl) ?_
      refine WL.op rfl rfl rfl (Go.Proofs.Ytcombjhkbjbncaa.W.quiet_assign rfl rfl) ?_
      refine WL.nil ?_
      refine TW.rt ?_
      refine bodyw_ret rfl rfl ?_
      exact ⟨_, rfl, (fun h => by cases h), ff⟩
set_option maxRecDepth 100000 in
theorem t_same (Z1 Z2 Z3 Z4 : Nat) (ca da ca2 da2 : Option Addr) (cc dc cc2 dc2 : Nat) (g : Img) (hcl : g.code.length ≤ 1000000) (w : World) (hca : NumAt .u32 Z1 w ca g.code) (hda : NumAt .u8 Z2 w da g.data) (hca2 : NumAt .u32 Z3 w ca2 g.code) (hda2 : NumAt .u8 Z4 w da2 g.data) : Calls Try.prog 12 #[.agg #[.slice ca g.code.length cc, .slice da g.data.length dc, .int .i64 g.lim, .int .i64 g.notes], .agg #[.slice ca2 g.code.length cc2, .slice da2 g.data.length dc2, .int .i64 g.lim, .int .i64 g.notes]] w fun e w' => e = .returned (.bool true) ∧ Fr (fun _ => False) w w' := by
  have ff := Fr.refl (fun _ => False) w
  refine calls_tw Try.func12 rfl rfl (Nat.le_of_ble_eq_true rfl) ?_
  refine TW.sreg ?_
  have lw1 := ff.size
  refine O.boxR rfl rfl rfl rfl rfl (qxR_api_Image w _ _ _ _ _ _ _ _) ?_
  rintro wa1 ⟨fa1, bx1⟩
  replace hca := hca.fr fa1
  replace hda := hda.fr fa1
  replace hca2 := hca2.fr fa1
  replace hda2 := hda2.fr fa1
  replace ff := ff.trans fa1
  have lt2_bx1 := bx1.lt
  have lw2 := ff.size
  refine O.boxR rfl rfl rfl rfl rfl (qxR_api_Image wa1 _ _ _ _ _ _ _ _) ?_
  rintro wa2 ⟨fa2, bx2⟩
  replace bx1 := bx1.fr fa2 id
  replace hca := hca.fr fa2
  replace hda := hda.fr fa2
  replace hca2 := hca2.fr fa2
  replace hda2 := hda2.fr fa2
  replace ff := ff.trans fa2
  obtain ⟨gB, hgB⟩ : ∃ gB, gB = wa1.heap.size := ⟨_, rfl⟩
  rw [← hgB] at bx2
  rw [← hgB]
  refine WL.op rfl rfl rfl (Go.Proofs.Ytcombjhkbjbncaa.W.quiet_assign rfl rfl) ?_
  refine WL.nil ?_
  refine TW.seq ?_
  refine TW.sreg ?_
  refine WL.op rfl rfl rfl (Go.Proofs.Ytcombjhkbjbncaa.W.quiet_field rfl rfl (fun W => (qa_api_Image_0 W _ _))) ?_
  refine WL.ld rfl rfl rfl rfl rfl (ql_s_uint32 _ _ _ _ _ (bx1.cell (j := 0) rfl)) ?_
  refine O.len rfl rfl rfl rfl rfl (qn_s_uint32 _ _ _ _) ?_
  refine WL.op rfl rfl rfl (Go.Proofs.Ytcombjhkbjbncaa.W.quiet_field rfl rfl (fun W => (qa_api_Image_0 W _ _))) ?_
  refine WL.ld rfl rfl rfl rfl rfl (ql_s_uint32 _ _ _ _ _ (bx2.cell (j := 0) rfl)) ?_
  refine O.len rfl rfl rfl rfl rfl (qn_s_uint32 _ _ _ _) ?_
  refine WL.op rfl rfl rfl (Go.Proofs.Ytcombjhkbjbncaa.W.quiet_bin rfl rfl rfl (fun W => qb_neq_int W _ _ _ _)) ?_
  refine O.split (fun hb => by exfalso; revert hb; first | (simp; done) | (simp; omega)) (fun hb => ?_)
  refine WL.op rfl rfl rfl (Go.Proofs.Ytcombjhkbjbncaa.W.quiet_move rfl rfl) ?_
  refine WL.op rfl rfl rfl (Go.Proofs.Ytcombjhkbjbncaa.W.quiet_field rfl rfl (fun W => (qa_api_Image_1 W _ _))) ?_
  refine WL.ld rfl rfl rfl rfl rfl (ql_s_uint8 _ _ _ _ _ (bx1.cell (j := 1) rfl)) ?_
  refine O.cv rfl rfl rfl rfl rfl (str_of hda) ?_
  refine WL.op rfl rfl rfl (Go.Proofs.Ytcombjhkbjbncaa.W.quiet_field rfl rfl (fun W => (qa_api_Image_1 W _ _))) ?_
  refine WL.ld rfl rfl rfl rfl rfl (ql_s_uint8 _ _ _ _ _ (bx2.cell (j := 1) rfl)) ?_
  refine O.cv rfl rfl rfl rfl rfl (str_of hda2) ?_
  refine WL.op rfl rfl rfl (Go.Proofs.Ytcombjhkbjbncaa.W.quiet_bin rfl rfl rfl (fun W => bn_nes W _ _ (u8s g.data) (u8s g.data))) ?_
  refine O.split (fun hb => by exfalso; revert hb; first | (simp; done) | (simp; omega)) (fun hb => ?_)
  refine WL.op rfl rfl rfl (Go.Proofs.Ytcombjhkbjbncaa.W.quiet_pick rfl rfl rfl) ?_
  refine WL.op rfl rfl rfl (Go.Proofs.Ytcombjhkbjbncaa.W.quiet_move rfl rfl) ?_
  refine WL.op rfl rfl rfl (Go.Proofs.Ytcombjhkbjbncaa.W.quiet_field rfl rfl (fun W => (qa_api_Image_2 W _ _))) ?_
  refine WL.ld rfl rfl rfl rfl rfl (ql_int _ _ _ (bx1.cell (j := 2) rfl)) ?_
  refine WL.op rfl rfl rfl (Go.Proofs.Ytcombjhkbjbncaa.W.quiet_field rfl rfl (fun W => (qa_api_Image_2 W _ _))) ?_
  refine WL.ld rfl rfl rfl rfl rfl (ql_int _ _ _ (bx2.cell (j := 2) rfl)) ?_
  refine WL.op rfl rfl rfl (Go.Proofs.Ytcombjhkbjbncaa.W.quiet_bin rfl rfl rfl (fun W => qb_neq_int W _ _ _ _)) ?_
  refine O.split (fun hb => by exfalso; revert hb; first | (simp; done) | (simp; omega)) (fun hb => ?_)
  refine WL.op rfl rfl rfl (Go.Proofs.Ytcombjhkbjbncaa.W.quiet_pick rfl rfl rfl) ?_
  refine WL.op rfl rfl rfl (Go.Proofs.Ytcombjhkbjbncaa.W.quiet_move rfl rfl) ?_
  refine WL.op rfl rfl rfl (Go.Proofs.Ytcombjhkbjbncaa.W.quiet_field rfl rfl (fun W => (qa_api_Image_3 W _ _))) ?_
  refine WL.ld rfl rfl rfl rfl rfl (ql_int _ _ _ (bx1.cell (j := 3) rfl)) ?_
  refine WL.op rfl rfl rfl (Go.Proofs.Ytcombjhkbjbncaa.W.quiet_field rfl rfl (fun W => (qa_api_Image_3 W _ _))) ?_
  refine WL.ld rfl rfl rfl rfl rfl (ql_int _ _ _ (bx2.cell (j := 3) rfl)) ?_
  refine WL.op rfl rfl rfl (Go.Proofs.Ytcombjhkbjbncaa.W.quiet_bin rfl rfl rfl (fun W => qb_neq_int W _ _ _ _)) ?_
  refine O.split (fun hb => by exfalso; revert hb; first | (simp; done) | (simp; omega)) (fun hb => ?_)
  refine WL.op rfl rfl rfl (Go.Proofs.Ytcombjhkbjbncaa.W.quiet_pick rfl rfl rfl) ?_
  refine WL.nil ?_
  refine TW.cond rfl (fun hb => by cases hb) (fun _ => ?_)
  refine TW.skip ?_
  refine TW.seq ?_
  refine TW.sreg ?_
  refine WL.op rfl rfl rfl (Go.Proofs.Ytcombjhkbjbncaa.W.quiet_assign rfl rfl) ?_
  refine WL.nil ?_
  refine TW.block ?_
  refine O.loopG (n := g.code.length) (fun a _ => (intOf (a.tmps.getD 5 undef)).toNat) (fun j a W => Kn Try.f12.ntmps [(2, .pointer (some ⟨w.heap.size, 0, none⟩)), (3, .pointer (some ⟨gB, 0, none⟩)), (5, .int .i64 (j : Int))] a ∧ Fr (fun _ => False) w W ∧ Bx W w.heap.size #[.slice ca g.code.length cc, .slice da g.data.length dc, .int .i64 g.lim, .int .i64 g.notes] 25 ∧ Bx W gB #[.slice ca2 g.code.length cc2, .slice da2 g.data.length dc2, .int .i64 g.lim, .int .i64 g.notes] 25 ∧ NumAt .u32 Z1 W ca g.code ∧ NumAt .u32 Z3 W ca2 g.code) (fun j a W h => O.slotv h.1 rfl) 0 (Nat.zero_le _) (fun a k => ⟨(by (repeat (refine Kn.cons k rfl ?_)); exact k.base), ff, bx1, bx2, hca, hca2⟩) ?_
  rintro j a wl hj ⟨k, ff, bx1, bx2, hca, hca2⟩
  refine TW.app (s := [(2, .pointer (some ⟨w.heap.size, 0, none⟩)), (3, .pointer (some ⟨gB, 0, none⟩)), (5, .int .i64 (j : Int))]) ?_ k
  refine TW.seq ?_
  refine TW.sreg ?_
  refine WL.op rfl rfl rfl (Go.Proofs.Ytcombjhkbjbncaa.W.quiet_move rfl rfl) ?_
  refine WL.op rfl rfl rfl (Go.Proofs.Ytcombjhkbjbncaa.W.quiet_field rfl rfl (fun W => (qa_api_Image_0 W _ _))) ?_
  refine WL.ld rfl rfl rfl rfl rfl (ql_s_uint32 _ _ _ _ _ (bx1.cell (j := 0) rfl)) ?_
  refine O.len rfl rfl rfl rfl rfl (qn_s_uint32 _ _ _ _) ?_
  refine WL.op rfl rfl rfl (Go.Proofs.Ytcombjhkbjbncaa.W.quiet_bin rfl rfl rfl (fun W => qb_lss_int W _ _ _ _)) ?_
  refine O.split (fun b1 => ?_) (fun b1 => ?_)
  · skip
    have hj2 : j < g.code.length := by have := of_decide_eq_true b1; omega
    obtain ⟨g1, o1, rfl, _, hc1⟩ := hca j hj2
    obtain ⟨g2, o2, rfl, _, hc2⟩ := hca2 j hj2
    refine WL.nil ?_
    refine TW.cond rfl (fun _ => ?_) (fun hb => by cases hb)
    refine TW.skip ?_
    refine TW.seq ?_
    refine TW.block ?_
    refine Q.sreg (C := fun W => Fr (fun _ => False) wl W) (by kernel_rfl) (by kernel_rfl) (fun W h => h.drewN 1) (Fr.refl _ _) ?_
    refine W.op rfl rfl rfl (Go.Proofs.Ytcombjhkbjbncaa.W.quiet_field rfl rfl (fun W => (qa_api_Image_0 W _ _))) ?_
    refine W.op rfl rfl rfl (Go.Proofs.Ytcombjhkbjbncaa.W.quiet_load rfl rfl (fun W hW => (ql_s_uint32 _ _ _ _ _ ((bx1.fr hW id).cell (j := 0) rfl)))) ?_
    refine W.op rfl rfl rfl (Go.Proofs.Ytcombjhkbjbncaa.W.quiet_move rfl rfl) ?_
    refine W.op rfl rfl rfl (Go.Proofs.Ytcombjhkbjbncaa.W.quiet_index rfl rfl rfl (fun W => (qi_s_uint32 _ _ _ _ _ _ (by omega)))) ?_
    refine W.op rfl rfl rfl (Go.Proofs.Ytcombjhkbjbncaa.W.quiet_load rfl rfl (fun W hW => (ql_uint32 _ _ _ (hW.cell hc1 id)))) ?_
    refine W.op rfl rfl rfl (Go.Proofs.Ytcombjhkbjbncaa.W.quiet_field rfl rfl (fun W => (qa_api_Image_0 W _ _))) ?_
    refine W.op rfl rfl rfl (Go.Proofs.Ytcombjhkbjbncaa.W.quiet_load rfl rfl (fun W hW => (ql_s_uint32 _ _ _ _ _ ((bx2.fr hW id).cell (j := 0) rfl)))) ?_
    refine W.op rfl rfl rfl (Go.Proofs.Ytcombjhkbjbncaa.W.quiet_move rfl rfl) ?_
    refine W.op rfl rfl rfl (Go.Proofs.Ytcombjhkbjbncaa.W.quiet_index rfl rfl rfl (fun W => (qi_s_uint32 _ _ _ _ _ _ (by omega)))) ?_
    refine W.op rfl rfl rfl (Go.Proofs.Ytcombjhkbjbncaa.W.quiet_load rfl rfl (fun W hW => (ql_uint32 _ _ _ (hW.cell hc2 id)))) ?_
    refine W.op rfl rfl rfl (Go.Proofs.Ytcombjhkbjbncaa.W.quiet_bin rfl rfl rfl (fun W => qb_neq_uint32 W _ _ _ _)) ?_
    refine Q.split (fun hb => by exfalso; revert hb; first | (simp; done) | (simp; omega)) (fun hb => ?_)
    refine Q.nil (T.tw fun wq1 fq1 => ?_)
    replace bx1 := bx1.fr fq1 id
    replace bx2 := bx2.fr fq1 id
    replace hca := hca.fr fq1
    replace hca2 := hca2.fr fq1
    replace ff := ff.trans fq1
    refine TW.cond rfl (fun hb => by cases hb) (fun _ => ?_)
    refine TW.skipx ?_
    refine Xw.nblk ?_
    refine Xw.nrm ?_
    refine TW.reg ?_
    refine WL.op rfl rfl rfl (Go.Proofs.Ytcombjhkbjbncaa.W.quiet_move rfl rfl) ?_
    refine WL.op rfl rfl rfl (Go.Proofs.Ytcombjhkbjbncaa.W.quiet_bin rfl rfl rfl (fun W => qb_add_int W _ _ _ _ (by omega) (by omega))) ?_
    refine WL.op rfl rfl rfl (Go.Proofs.Ytcombjhkbjbncaa.W.quiet_assign rfl rfl) ?_
    refine WL.end ?_
    refine Xw.any (fun a k => ?_)
    exact ⟨j + 1, by omega, by omega, (by (repeat (refine Kn.cons k rfl ?_)); exact k.base), ff, bx1, bx2, hca, hca2⟩
  · skip
    refine WL.nil ?_
    refine TW.cond rfl (fun hb => by cases hb) (fun _ => ?_)
    refine TW.exit ?_
    refine Xw.thn (by simp) ?_
    refine Xw.thn (by simp) ?_
    refine Xw.hit ?_
    refine Xw.nrm ?_
    refine TW.sreg ?_
    refine WL.op rfl rfl rfl (Go.Proofs.Ytcombjhkbjbncaa.W.quiet_assign rfl rfl) ?_
    refine WL.nil ?_
    refine TW.rt ?_
    refine bodyw_ret rfl rfl ?_
    exact ⟨rfl, ff⟩
set_option maxRecDepth 100000 in
theorem t_awake (w : World) : Calls Try.prog 7 #[] w fun e w' => e = .returned (.bool true) ∧ Fr (fun _ => False) w w' := by
  have ff := Fr.refl (fun _ => False) w
  refine calls_tw Try.func7 rfl rfl (Nat.le_of_ble_eq_true rfl) ?_
  refine TW.sreg ?_
  refine WL.op rfl rfl rfl (Go.Proofs.Ytcombjhkbjbncaa.W.quiet_assign rfl rfl) ?_
  refine WL.nil ?_
  refine TW.sreg ?_
  have lw1 := ff.size
  refine O.bslR rfl rfl rfl rfl rfl (qv_s_uint32_1 w _) ?_
  rintro wa1 ⟨fa1, bx1⟩
  replace ff := ff.trans fa1
  have lt2_bx1 := bx1.lt
  have lw2 := ff.size
  refine O.bslR rfl rfl rfl rfl rfl (qv_s_uint8_5 wa1 _ _ _ _ _) ?_
  rintro wa2 ⟨fa2, bx2⟩
  replace bx1 := bx1.fr fa2 id
  replace ff := ff.trans fa2
  refine O.bld rfl rfl rfl rfl rfl (qd_api_Image_0_1_2 _ _ _ _ _ _ _ _) ?_
  refine WL.call (hr := (t_encode (some ⟨w.heap.size, 0, none⟩) (some ⟨wa1.heap.size, 0, none⟩) 1 5 ex1 ex1_wf (Nat.le_refl _) _ (bx_num [1] bx1) (bx_num [5, 0, 0, 0, 0] bx2) ex1_ok)) rfl rfl rfl rfl rfl (fun W => qk_pack_Encode W _) ?_
  rintro e w1 ⟨vE1, rfl, hv1, f1⟩
  refine ⟨_, rfl, ?_⟩
  replace bx1 := bx1.fr f1 id
  replace bx2 := bx2.fr f1 id
  replace ff := ff.trans f1
  obtain ⟨va1, vc1, rfl⟩ := Row.form hv1
  refine WL.op rfl rfl rfl (Go.Proofs.Ytcombjhkbjbncaa.W.quiet_move rfl rfl) ?_
  refine O.ext rfl rfl rfl rfl rfl rfl ?_
  refine O.ext rfl rfl rfl rfl rfl rfl ?_
  refine WL.op rfl rfl rfl (Go.Proofs.Ytcombjhkbjbncaa.W.quiet_assign rfl rfl) ?_
  refine WL.op rfl rfl rfl (Go.Proofs.Ytcombjhkbjbncaa.W.quiet_assign rfl rfl) ?_
  refine WL.nil ?_
  refine TW.sreg ?_
  have lw3 := ff.size
  refine O.bslR rfl rfl rfl rfl rfl (qv_s_uint32_1 w1 _) ?_
  rintro wa3 ⟨fa3, bx3⟩
  replace hv1 := Row.fr hv1 fa3 (fun _ _ => id)
  replace ff := ff.trans fa3
  have lt4_bx3 := bx3.lt
  have lw4 := ff.size
  refine O.bslR rfl rfl rfl rfl rfl (qv_s_uint8_4 wa3 _ _ _ _) ?_
  rintro wa4 ⟨fa4, bx4⟩
  replace bx3 := bx3.fr fa4 id
  replace hv1 := Row.fr hv1 fa4 (fun _ _ => id)
  replace ff := ff.trans fa4
  refine O.bld rfl rfl rfl rfl rfl (qd_api_Image_0_1_2 _ _ _ _ _ _ _ _) ?_
  refine WL.call (hr := (t_encode (some ⟨w1.heap.size, 0, none⟩) (some ⟨wa3.heap.size, 0, none⟩) 1 4 ex2 ex2_wf (Nat.le_refl _) _ (bx_num [1] bx3) (bx_num [0, 0, 7, 8] bx4) ex2_ok)) rfl rfl rfl rfl rfl (fun W => qk_pack_Encode W _) ?_
  rintro e w2 ⟨vE2, rfl, hv2, f2⟩
  refine ⟨_, rfl, ?_⟩
  replace bx3 := bx3.fr f2 id
  replace bx4 := bx4.fr f2 id
  replace hv1 := Row.fr hv1 f2 (fun _ _ => id)
  replace ff := ff.trans f2
  obtain ⟨va2, vc2, rfl⟩ := Row.form hv2
  obtain ⟨g9, o9, rfl, _, hc9⟩ := (Row.num hv2) 24 (by rw [ex2_len]; decide)
  rw [ex2_at] at hc9
  refine WL.op rfl rfl rfl (Go.Proofs.Ytcombjhkbjbncaa.W.quiet_move rfl rfl) ?_
  refine O.ext rfl rfl rfl rfl rfl rfl ?_
  refine O.ext rfl rfl rfl rfl rfl rfl ?_
  refine WL.op rfl rfl rfl (Go.Proofs.Ytcombjhkbjbncaa.W.quiet_assign rfl rfl) ?_
  refine WL.op rfl rfl rfl (Go.Proofs.Ytcombjhkbjbncaa.W.quiet_assign rfl rfl) ?_
  refine WL.nil ?_
  refine TW.sreg ?_
  refine WL.op rfl rfl rfl (Go.Proofs.Ytcombjhkbjbncaa.W.quiet_move rfl rfl) ?_
  refine WL.op rfl rfl rfl (Go.Proofs.Ytcombjhkbjbncaa.W.quiet_bin rfl rfl rfl (fun W => qb_eql_api_Errno W _ _ _ _)) ?_
  refine O.split (fun hb => ?_) (fun hb => by exfalso; revert hb; first | (simp; done) | (simp; omega))
  refine WL.op rfl rfl rfl (Go.Proofs.Ytcombjhkbjbncaa.W.quiet_move rfl rfl) ?_
  refine WL.op rfl rfl rfl (Go.Proofs.Ytcombjhkbjbncaa.W.quiet_move rfl rfl) ?_
  refine WL.op rfl rfl rfl (Go.Proofs.Ytcombjhkbjbncaa.W.quiet_bin rfl rfl rfl (fun W => qb_eql_api_Errno W _ _ _ _)) ?_
  refine O.split (fun hb => ?_) (fun hb => by exfalso; revert hb; first | (simp; done) | (simp; omega))
  refine WL.op rfl rfl rfl (Go.Proofs.Ytcombjhkbjbncaa.W.quiet_pick rfl rfl rfl) ?_
  refine WL.op rfl rfl rfl (Go.Proofs.Ytcombjhkbjbncaa.W.quiet_move rfl rfl) ?_
  refine WL.op rfl rfl rfl (Go.Proofs.Ytcombjhkbjbncaa.W.quiet_move rfl rfl) ?_
  refine O.cv rfl rfl rfl rfl rfl (str_of (Row.num hv1)) ?_
  refine WL.op rfl rfl rfl (Go.Proofs.Ytcombjhkbjbncaa.W.quiet_bin rfl rfl rfl (fun W => bn_eqs W _ _ (u8s (enc ex1)) [82, 83, 72, 1, 1, 0, 0, 0, 5, 0, 0, 0, 0, 0, 0, 0, 0, 0, 0, 0, 1, 0, 0, 0, 1, 5, 131])) ?_
  refine O.split (fun hb => ?_) (fun hb => absurd ex1_enc (of_decide_eq_false hb))
  refine WL.op rfl rfl rfl (Go.Proofs.Ytcombjhkbjbncaa.W.quiet_pick rfl rfl rfl) ?_
  refine WL.op rfl rfl rfl (Go.Proofs.Ytcombjhkbjbncaa.W.quiet_move rfl rfl) ?_
  refine WL.op rfl rfl rfl (Go.Proofs.Ytcombjhkbjbncaa.W.quiet_move rfl rfl) ?_
  refine O.len rfl rfl rfl rfl rfl (qn_s_uint8 _ _ _ _) ?_
  refine WL.op rfl rfl rfl (Go.Proofs.Ytcombjhkbjbncaa.W.quiet_bin rfl rfl rfl (fun W => qb_eql_int W _ _ _ _)) ?_
  refine O.split (fun hb => ?_) (fun hb => absurd hb (by rw [ex2_len]; decide))
  refine WL.op rfl rfl rfl (Go.Proofs.Ytcombjhkbjbncaa.W.quiet_pick rfl rfl rfl) ?_
  refine WL.op rfl rfl rfl (Go.Proofs.Ytcombjhkbjbncaa.W.quiet_move rfl rfl) ?_
  refine WL.op rfl rfl rfl (Go.Proofs.Ytcombjhkbjbncaa.W.quiet_move rfl rfl) ?_
  refine O.ixa rfl rfl rfl rfl rfl rfl (qi_s_uint8 _ _ _ _ _ 24 (by rw [ex2_len]; decide)) ?_
  refine WL.ld rfl rfl rfl rfl rfl (ql_uint8 _ _ _ hc9) ?_
  refine WL.op rfl rfl rfl (Go.Proofs.Ytcombjhkbjbncaa.W.quiet_bin rfl rfl rfl (fun W => qb_eql_uint8 W _ _ _ _)) ?_
  refine O.split (fun hb => ?_) (fun hb => by exfalso; revert hb; first | (simp; done) | (simp; omega))
  refine WL.op rfl rfl rfl (Go.Proofs.Ytcombjhkbjbncaa.W.quiet_pick rfl rfl rfl) ?_
  refine WL.op rfl rfl rfl (Go.Proofs.Ytcombjhkbjbncaa.W.quiet_assign rfl rfl) ?_
  refine WL.nil ?_
  refine TW.rt ?_
  refine bodyw_ret rfl rfl ?_
  exact ⟨rfl, ff⟩
end Go.Proofs.Ytcombjhkbjbncaa
