/-
  Pack (layer 32): which bytes are an image's, by the document.
-/
import Derived.Test.YtcombjhkbjbncaaPkG
namespace Go.Proofs.Ytcombjhkbjbncaa
open Go.RowKit
set_option linter.unusedVariables false
set_option linter.unusedSimpArgs false
set_option linter.unnecessarySimpa false
theorem qzR_rushlightref32_Read (w : World) : ∃ w', (Instr.alloc 36 true (.tuple #[])).run Try.prog w = .ok (.pointer (some ⟨w.heap.size, 0, none⟩)) w' ∧ (Fr (fun _ => False) w w' ∧ Bx w' w.heap.size #[.slice none 0 0, .slice none 0 0, .int .i64 0, .int .i64 0, .bool false] 36) := ⟨w.alloc (.cells #[.slice none 0 0, .slice none 0 0, .int .i64 0, .int .i64 0, .bool false] 36), by simp [go_sem], fr_al (Fr.refl _ _) _, Bx.new _ _ _⟩
theorem qd_rushlightref32_Read_ (w : World)  : (Instr.build 36 #[]).run Try.prog w = .ok (.agg #[.slice none 0 0, .slice none 0 0, .int .i64 0, .int .i64 0, .bool false]) w := by simp [go_sem]
theorem qsA_rushlightref32_Read (w : World) (g : Nat) (z0 z1 z2 z3 z4 : Value) (up0 : Option Addr) (uk0 ul0 : Nat) (up1 : Option Addr) (uk1 ul1 : Nat) (um2 : Int) (um3 : Int) (up4 : Bool) (h : Bx w g #[z0, z1, z2, z3, z4] 36) : ∃ w', (Instr.storeAt 36 (.pointer (some ⟨g, 0, none⟩)) (.agg #[.slice up0 uk0 ul0, .slice up1 uk1 ul1, .int .i64 um2, .int .i64 um3, .bool up4])).run Try.prog w = .ok () w' ∧ (Fr (fun q => q = g) w w' ∧ Bx w' g #[.slice up0 uk0 ul0, .slice up1 uk1 ul1, .int .i64 um2, .int .i64 um3, .bool up4] 36) := h.store 36 #[.slice up0 uk0 ul0, .slice up1 uk1 ul1, .int .i64 um2, .int .i64 um3, .bool up4] (by kernel_rfl) rfl (by simp [Value.oneCell'])
theorem qk_rushlightref32_at (w : World) (vs : Array Value) : (callFunc 24 vs).run Try.prog w = .ok (.enter 24 vs) w := by simp [go_sem]
theorem qd_api_Image_2_3 (w : World) (p2_m0 : Int) (p3_m0 : Int) : (Instr.build 25 #[(2, .int .i64 p2_m0), (3, .int .i64 p3_m0)]).run Try.prog w = .ok (.agg #[.slice none 0 0, .slice none 0 0, .int .i64 p2_m0, .int .i64 p3_m0]) w := by simp [go_sem]
theorem qzR_api_Image (w : World) : ∃ w', (Instr.alloc 25 true (.tuple #[])).run Try.prog w = .ok (.pointer (some ⟨w.heap.size, 0, none⟩)) w' ∧ (Fr (fun _ => False) w w' ∧ Bx w' w.heap.size #[.slice none 0 0, .slice none 0 0, .int .i64 0, .int .i64 0] 25) := ⟨w.alloc (.cells #[.slice none 0 0, .slice none 0 0, .int .i64 0, .int .i64 0] 25), by simp [go_sem], fr_al (Fr.refl _ _) _, Bx.new _ _ _⟩
theorem qsA_api_Image (w : World) (g : Nat) (z0 z1 z2 z3 : Value) (up0 : Option Addr) (uk0 ul0 : Nat) (up1 : Option Addr) (uk1 ul1 : Nat) (um2 : Int) (um3 : Int) (h : Bx w g #[z0, z1, z2, z3] 25) : ∃ w', (Instr.storeAt 25 (.pointer (some ⟨g, 0, none⟩)) (.agg #[.slice up0 uk0 ul0, .slice up1 uk1 ul1, .int .i64 um2, .int .i64 um3])).run Try.prog w = .ok () w' ∧ (Fr (fun q => q = g) w w' ∧ Bx w' g #[.slice up0 uk0 ul0, .slice up1 uk1 ul1, .int .i64 um2, .int .i64 um3] 25) := h.store 25 #[.slice up0 uk0 ul0, .slice up1 uk1 ul1, .int .i64 um2, .int .i64 um3] (by kernel_rfl) rfl (by simp [Value.oneCell'])
theorem qv_s_uint32_1 (w : World) (u0_m0 : Int) : (Instr.buildSlice 22 1 #[(0, .int .u32 u0_m0)]).run Try.prog w = .ok (.slice (some ⟨w.heap.size, 0, none⟩) 1 1) (w.alloc (.cells #[.int .u32 u0_m0] 40)) := by simp [go_sem]
theorem qsF_s_uint32 (w : World) (g j : Nat) (z : Array Value) (tt : TypeId) (y : Value) (up0 : Option Addr) (uk0 ul0 : Nat) (h : Bx w g z tt) (hj : z[j]? = some y) : ∃ w', (Instr.storeAt 22 (.pointer (some ⟨g, j, none⟩)) (.slice up0 uk0 ul0)).run Try.prog w = .ok () w' ∧ (Fr (fun q => q = g) w w' ∧ Bx w' g (z.setIfInBounds j (.slice up0 uk0 ul0)) tt) := by
  have c0 := h.cell hj
  have e0 := h.free j
  exact ⟨w.setCell ⟨g, j, none⟩ (.slice up0 uk0 ul0), by simp [go_sem, c0, e0], Fr.setCell _ _ _ rfl, h.set j _⟩
theorem qsF_s_uint8 (w : World) (g j : Nat) (z : Array Value) (tt : TypeId) (y : Value) (up0 : Option Addr) (uk0 ul0 : Nat) (h : Bx w g z tt) (hj : z[j]? = some y) : ∃ w', (Instr.storeAt 23 (.pointer (some ⟨g, j, none⟩)) (.slice up0 uk0 ul0)).run Try.prog w = .ok () w' ∧ (Fr (fun q => q = g) w w' ∧ Bx w' g (z.setIfInBounds j (.slice up0 uk0 ul0)) tt) := by
  have c0 := h.cell hj
  have e0 := h.free j
  exact ⟨w.setCell ⟨g, j, none⟩ (.slice up0 uk0 ul0), by simp [go_sem, c0, e0], Fr.setCell _ _ _ rfl, h.set j _⟩
theorem qk_rushlightref32_Right (w : World) (vs : Array Value) : (callFunc 9 vs).run Try.prog w = .ok (.enter 9 vs) w := by simp [go_sem]
theorem qk_rushlightref32_Encode (w : World) (vs : Array Value) : (callFunc 11 vs).run Try.prog w = .ok (.enter 11 vs) w := by simp [go_sem]
theorem qb_neq_int (w : World) (x y : Operand) (m n : Int) : ((do eqGuard .neq 3 x y (.int .i64 m) (.int .i64 n); binOp .neq 3 (.int .i64 m) (.int .i64 n) : Sem Value)).run Try.prog w = .ok (.bool (m != n)) w := by simp [go_sem]
theorem qb_neq_uint8 (w : World) (x y : Operand) (m n : Int) : ((do eqGuard .neq 5 x y (.int .u8 m) (.int .u8 n); binOp .neq 5 (.int .u8 m) (.int .u8 n) : Sem Value)).run Try.prog w = .ok (.bool (m != n)) w := by simp [go_sem]
theorem qd_rushlightref32_Read_0_1 (w : World) (p0_p0 : Option Addr) (p0_k0 p0_l0 : Nat) (p0_p1 : Option Addr) (p0_k1 p0_l1 : Nat) (p0_m2 : Int) (p0_m3 : Int) (p1_p0 : Bool) : (Instr.build 36 #[(0, .agg #[.slice p0_p0 p0_k0 p0_l0, .slice p0_p1 p0_k1 p0_l1, .int .i64 p0_m2, .int .i64 p0_m3]), (1, .bool p1_p0)]).run Try.prog w = .ok (.agg #[.slice p0_p0 p0_k0 p0_l0, .slice p0_p1 p0_k1 p0_l1, .int .i64 p0_m2, .int .i64 p0_m3, .bool p1_p0]) w := by simp [go_sem]
theorem rrF_done {f size : Nat} {acc l : List Int} (h : size ≤ acc.length ∨ l = []) : rrF f size acc l = acc := by
  cases f with
  | zero => rfl
  | succ f =>
    unfold rrF
    by_cases hs : size ≤ acc.length
    · rw [if_pos hs]
    · rw [if_neg hs]
      rcases h with h | h
      · exact absurd h hs
      · rw [h]
theorem rrF_step {f size : Nat} {acc l : List Int} (hs : ¬size ≤ acc.length) (hl : 0 < l.length) (hf : l.length ≤ f) : ∃ f', (127 < l.getD 0 0 → (l.drop 1).length ≤ f' ∧ rrF f size acc l = rrF f' size (acc ++ List.replicate (l.getD 0 0 - 127).toNat 0) (l.drop 1)) ∧ (¬127 < l.getD 0 0 → (l.drop (1 + (l.getD 0 0).toNat)).length ≤ f' ∧ rrF f size acc l = rrF f' size (acc ++ (l.drop 1).take (l.getD 0 0).toNat) (l.drop (1 + (l.getD 0 0).toNat))) := by
  cases l with
  | nil => simp at hl
  | cons n r =>
    cases f with
    | zero => simp at hf
    | succ f =>
      refine ⟨f, fun h => ?_, fun h => ?_⟩
      · have h' : 127 < n := by simpa using h
        refine ⟨by simpa using hf, ?_⟩
        conv => lhs; unfold rrF
        rw [if_neg hs]
        simp only []
        rw [if_pos h']
        simp
      · have h' : ¬127 < n := by simpa using h
        refine ⟨by simp only [List.length_drop, List.length_cons]; simp at hf; omega, ?_⟩
        conv => lhs; unfold rrF
        rw [if_neg hs]
        simp only []
        rw [if_neg h', Nat.add_comm 1]
        simp
theorem cv_w (w : World) (m : Int) (h0 : 0 ≤ m) (h1 : m ≤ 4294967295) : (convert 3 40 (.int .i64 m)).run Try.prog w = .ok (.int .u32 m) w := qc_int_uint32 w m h0 h1
theorem one_num32 {x : Int} {T : TypeId} {w : World} {g : Nat} (h : Bx w g #[.int .u32 x] T) : NumAt .u32 w.heap.size w (some ⟨g, 0, none⟩) [x] := bx_num [x] h
theorem R8.app1 {B : Nat} {W : World} {v : Value} {xs : List Int} (x : Int) (ty : TypeId) (h : R8 B W v xs) (hB : B ≤ W.heap.size) (hl : xs.length ≤ 1000000) : ∃ v' w', (Builtin.append_ #[23, 23] ty #[v, .slice (some ⟨W.heap.size, 0, none⟩) 1 1]).run Try.prog (W.alloc (.cells #[.int .u8 x] 5)) = .ok v' w' ∧ (R8 B w' v' (xs ++ [x]) ∧ Fr (fun q => v.ownBlock = some q) W w' ∧ ∀ k, v'.ownBlock = some k → v.ownBlock = some k ∨ W.heap.size ≤ k) :=
  Row.app 23 ty Try.underlying23 info8 rfl (by decide) (by decide) (nC_len _) (nC_one _) x h hB hl rfl
theorem R32.app1 {B : Nat} {W : World} {v : Value} {xs : List Int} (x : Int) (ty : TypeId) (h : R32 B W v xs) (hB : B ≤ W.heap.size) (hl : xs.length ≤ 1000000) : ∃ v' w', (Builtin.append_ #[22, 22] ty #[v, .slice (some ⟨W.heap.size, 0, none⟩) 1 1]).run Try.prog (W.alloc (.cells #[.int .u32 x] 40)) = .ok v' w' ∧ (R32 B w' v' (xs ++ [x]) ∧ Fr (fun q => v.ownBlock = some q) W w' ∧ ∀ k, v'.ownBlock = some k → v.ownBlock = some k ∨ W.heap.size ≤ k) :=
  Row.app 22 ty Try.underlying22 info32 rfl (by decide) (by decide) (nC_len _) (nC_one _) x h hB hl rfl
theorem rows_ne {B : Nat} {w : World} {v v' : Value} {xs ys : List Int} (h : R8 B w v xs) (h' : R32 B w v' ys) : ∀ k, v.ownBlock = some k → v'.ownBlock ≠ some k := fun k hk hk' => by
  obtain ⟨c1, h1⟩ := Row.typ h k hk
  obtain ⟨c2, h2⟩ := Row.typ h' k hk'
  rw [h1] at h2
  have := Option.some.inj h2
  injection this with _ e _
  exact absurd e (by decide)
set_option maxRecDepth 100000 in
set_option maxHeartbeats 1000000 in
theorem t_rdecode (ba : Option Addr) (bc : Nat) (l : List Int) (hbyt : Byt l) (hll : l.length ≤ 5000) (w : World) (hb0 : NumAt .u8 w.heap.size w ba l) : Calls Try.prog 13 #[.slice ba l.length bc] w fun e w' => (∃ g, Is l g ∧ ∃ (ca da : Option Addr) (cc dc : Nat), e = .returned (.agg #[.slice ca g.code.length cc, .slice da g.data.length dc, .int .i64 g.lim, .int .i64 g.notes, .bool true]) ∧ NumAt .u32 w'.heap.size w' ca g.code ∧ NumAt .u8 w'.heap.size w' da g.data ∧ g.data.length ≤ dc ∧ Fr (fun _ => False) w w') ∨ ((∀ g, ¬Is l g) ∧ e = .returned (.agg #[.slice none 0 0, .slice none 0 0, .int .i64 0, .int .i64 0, .bool false]) ∧ Fr (fun _ => False) w w') := by
  have ff := Fr.refl (fun _ => False) w
  refine calls_tw Try.func13 rfl rfl (Nat.le_of_ble_eq_true rfl) ?_
  refine TW.sreg ?_
  have lw1 := ff.size
  refine O.allocR rfl rfl rfl rfl (qzR_rushlightref32_Read w) ?_
  rintro wa1 ⟨fa1, bx1⟩
  replace ff := ff.trans fa1
  have hzb := bx1.lt
  skip
  refine WL.nil ?_
  refine TW.seq ?_
  refine TW.sreg ?_
  refine WL.op rfl rfl rfl (Go.Proofs.Ytcombjhkbjbncaa.W.quiet_move rfl rfl) ?_
  refine O.len rfl rfl rfl rfl rfl (qn_s_uint8 _ _ _ _) ?_
  refine WL.op rfl rfl rfl (Go.Proofs.Ytcombjhkbjbncaa.W.quiet_bin rfl rfl rfl (fun W => qb_lss_int W _ _ _ _)) ?_
  refine O.split (fun a1 => ?_) (fun a1 => ?_)
  · skip
    have hb := hb0
    refine WL.nil ?_
    refine TW.cond rfl (fun _ => ?_) (fun hb => by cases hb)
    refine TW.sreg ?_
    refine O.bld rfl rfl rfl rfl rfl (qd_rushlightref32_Read_ _) ?_
    refine O.storeR rfl rfl rfl rfl rfl (qsA_rushlightref32_Read wa1 _ _ _ _ _ _ _ _ _ _ _ _ _ _ _ bx1) ?_
    rintro wa2 ⟨fa2, bx1x⟩
    replace ff := ff.trans' fa2 (fun q hq e => by omega)
    clear bx1
    have bx1 := bx1x
    clear bx1x
    refine WL.nil ?_
    refine TW.rt ?_
    refine Xw.thn (by simp) ?_
    refine O.retc1 rfl rfl (run_loadVar_row _ _ _ 36 _ _ _ bx1 Try.underlying36 rfl (by kernel_rfl)) ?_
    exact .inr ⟨fun g h => ((isR_iff hbyt g).1 h).1 (.inl (by have := of_decide_eq_true a1; omega)), rfl, ff⟩
  · skip
    have hl20 : 20 ≤ l.length := by have := of_decide_eq_false a1; omega
    have hb := hb0.fr ff
    have h4 := atL_in hbyt 4
    have h8 := atL_in hbyt 8
    have h12 := atL_in hbyt 12
    have h16 := atL_in hbyt 16
    refine WL.nil ?_
    refine TW.cond rfl (fun hb => by cases hb) (fun _ => ?_)
    refine TW.skip ?_
    refine TW.sreg ?_
    refine WL.op rfl rfl rfl (Go.Proofs.Ytcombjhkbjbncaa.W.quiet_move rfl rfl) ?_
    refine WL.call (hr := (t_at w.heap.size ba bc l hbyt (by omega) 4 (by omega) _ hb)) rfl rfl rfl rfl rfl (fun W => qk_rushlightref32_at W _) ?_
    rintro e w4 ⟨rfl, f4⟩
    refine ⟨_, rfl, ?_⟩
    replace bx1 := bx1.fr f4 id
    replace hb := hb.fr f4
    replace ff := ff.trans f4
    refine WL.op rfl rfl rfl (Go.Proofs.Ytcombjhkbjbncaa.W.quiet_move rfl rfl) ?_
    refine WL.call (hr := (t_at w.heap.size ba bc l hbyt (by omega) 8 (by omega) _ hb)) rfl rfl rfl rfl rfl (fun W => qk_rushlightref32_at W _) ?_
    rintro e w8 ⟨rfl, f8⟩
    refine ⟨_, rfl, ?_⟩
    replace bx1 := bx1.fr f8 id
    replace hb := hb.fr f8
    replace ff := ff.trans f8
    refine WL.op rfl rfl rfl (Go.Proofs.Ytcombjhkbjbncaa.W.quiet_assign rfl rfl) ?_
    refine WL.op rfl rfl rfl (Go.Proofs.Ytcombjhkbjbncaa.W.quiet_assign rfl rfl) ?_
    refine WL.nil ?_
    refine TW.seq ?_
    refine TW.sreg ?_
    refine WL.op rfl rfl rfl (Go.Proofs.Ytcombjhkbjbncaa.W.quiet_move rfl rfl) ?_
    refine WL.op rfl rfl rfl (Go.Proofs.Ytcombjhkbjbncaa.W.quiet_bin rfl rfl rfl (fun W => qb_gtr_int W _ _ _ _)) ?_
    refine O.split (fun a2 => ?_) (fun a2 => ?_)
    · skip
      refine WL.op rfl rfl rfl (Go.Proofs.Ytcombjhkbjbncaa.W.quiet_move rfl rfl) ?_
      refine WL.skip rfl rfl rfl ?_
      refine WL.skip rfl rfl rfl ?_
      refine WL.op rfl rfl rfl (Go.Proofs.Ytcombjhkbjbncaa.W.quiet_pick rfl rfl rfl) ?_
      refine WL.op rfl rfl rfl (Go.Proofs.Ytcombjhkbjbncaa.W.quiet_move rfl rfl) ?_
      refine WL.skip rfl rfl rfl ?_
      refine WL.skip rfl rfl rfl ?_
      refine WL.skip rfl rfl rfl ?_
      refine WL.skip rfl rfl rfl ?_
      refine WL.skip rfl rfl rfl ?_
      refine WL.skip rfl rfl rfl ?_
      refine WL.op rfl rfl rfl (Go.Proofs.Ytcombjhkbjbncaa.W.quiet_pick rfl rfl rfl) ?_
      refine WL.op rfl rfl rfl (Go.Proofs.Ytcombjhkbjbncaa.W.quiet_move rfl rfl) ?_
      refine WL.skip rfl rfl rfl ?_
      refine WL.skip rfl rfl rfl ?_
      refine WL.skip rfl rfl rfl ?_
      refine WL.op rfl rfl rfl (Go.Proofs.Ytcombjhkbjbncaa.W.quiet_pick rfl rfl rfl) ?_
      refine WL.op rfl rfl rfl (Go.Proofs.Ytcombjhkbjbncaa.W.quiet_move rfl rfl) ?_
      refine WL.skip rfl rfl rfl ?_
      refine WL.skip rfl rfl rfl ?_
      refine WL.skip rfl rfl rfl ?_
      refine WL.op rfl rfl rfl (Go.Proofs.Ytcombjhkbjbncaa.W.quiet_pick rfl rfl rfl) ?_
      refine WL.nil ?_
      refine TW.cond rfl (fun _ => ?_) (fun hb => by cases hb)
      refine TW.sreg ?_
      refine O.bld rfl rfl rfl rfl rfl (qd_rushlightref32_Read_ _) ?_
      refine O.storeR rfl rfl rfl rfl rfl (qsA_rushlightref32_Read w8 _ _ _ _ _ _ _ _ _ _ _ _ _ _ _ bx1) ?_
      rintro wa3 ⟨fa3, bx1x⟩
      replace hb := hb.frZ fa3 (fun q hq e => by omega)
      replace ff := ff.trans' fa3 (fun q hq e => by omega)
      clear bx1
      have bx1 := bx1x
      clear bx1x
      refine WL.nil ?_
      refine TW.rt ?_
      refine Xw.thn (by simp) ?_
      refine O.retc1 rfl rfl (run_loadVar_row _ _ _ 36 _ _ _ bx1 Try.underlying36 rfl (by kernel_rfl)) ?_
      exact .inr ⟨fun g h => ((isR_iff hbyt g).1 h).1 (.inr (.inl (of_decide_eq_true a2))), rfl, ff⟩
    · skip
      refine WL.op rfl rfl rfl (Go.Proofs.Ytcombjhkbjbncaa.W.quiet_move rfl rfl) ?_
      refine WL.op rfl rfl rfl (Go.Proofs.Ytcombjhkbjbncaa.W.quiet_move rfl rfl) ?_
      refine WL.op rfl rfl rfl (Go.Proofs.Ytcombjhkbjbncaa.W.quiet_bin rfl rfl rfl (fun W => qb_gtr_int W _ _ _ _)) ?_
      refine O.split (fun a3 => ?_) (fun a3 => ?_)
      · skip
        refine WL.op rfl rfl rfl (Go.Proofs.Ytcombjhkbjbncaa.W.quiet_pick rfl rfl rfl) ?_
        refine WL.op rfl rfl rfl (Go.Proofs.Ytcombjhkbjbncaa.W.quiet_move rfl rfl) ?_
        refine WL.skip rfl rfl rfl ?_
        refine WL.skip rfl rfl rfl ?_
        refine WL.skip rfl rfl rfl ?_
        refine WL.skip rfl rfl rfl ?_
        refine WL.skip rfl rfl rfl ?_
        refine WL.skip rfl rfl rfl ?_
        refine WL.op rfl rfl rfl (Go.Proofs.Ytcombjhkbjbncaa.W.quiet_pick rfl rfl rfl) ?_
        refine WL.op rfl rfl rfl (Go.Proofs.Ytcombjhkbjbncaa.W.quiet_move rfl rfl) ?_
        refine WL.skip rfl rfl rfl ?_
        refine WL.skip rfl rfl rfl ?_
        refine WL.skip rfl rfl rfl ?_
        refine WL.op rfl rfl rfl (Go.Proofs.Ytcombjhkbjbncaa.W.quiet_pick rfl rfl rfl) ?_
        refine WL.op rfl rfl rfl (Go.Proofs.Ytcombjhkbjbncaa.W.quiet_move rfl rfl) ?_
        refine WL.skip rfl rfl rfl ?_
        refine WL.skip rfl rfl rfl ?_
        refine WL.skip rfl rfl rfl ?_
        refine WL.op rfl rfl rfl (Go.Proofs.Ytcombjhkbjbncaa.W.quiet_pick rfl rfl rfl) ?_
        refine WL.nil ?_
        refine TW.cond rfl (fun _ => ?_) (fun hb => by cases hb)
        refine TW.sreg ?_
        refine O.bld rfl rfl rfl rfl rfl (qd_rushlightref32_Read_ _) ?_
        refine O.storeR rfl rfl rfl rfl rfl (qsA_rushlightref32_Read w8 _ _ _ _ _ _ _ _ _ _ _ _ _ _ _ bx1) ?_
        rintro wa4 ⟨fa4, bx1x⟩
        replace hb := hb.frZ fa4 (fun q hq e => by omega)
        replace ff := ff.trans' fa4 (fun q hq e => by omega)
        clear bx1
        have bx1 := bx1x
        clear bx1x
        refine WL.nil ?_
        refine TW.rt ?_
        refine Xw.thn (by simp) ?_
        refine O.retc1 rfl rfl (run_loadVar_row _ _ _ 36 _ _ _ bx1 Try.underlying36 rfl (by kernel_rfl)) ?_
        exact .inr ⟨fun g h => ((isR_iff hbyt g).1 h).1 (.inr (.inr (.inl (of_decide_eq_true a3)))), rfl, ff⟩
      · skip
        refine WL.op rfl rfl rfl (Go.Proofs.Ytcombjhkbjbncaa.W.quiet_pick rfl rfl rfl) ?_
        refine WL.op rfl rfl rfl (Go.Proofs.Ytcombjhkbjbncaa.W.quiet_move rfl rfl) ?_
        refine WL.op rfl rfl rfl (Go.Proofs.Ytcombjhkbjbncaa.W.quiet_move rfl rfl) ?_
        refine O.len rfl rfl rfl rfl rfl (qn_s_uint8 _ _ _ _) ?_
        refine WL.op rfl rfl rfl (Go.Proofs.Ytcombjhkbjbncaa.W.quiet_move rfl rfl) ?_
        refine WL.op rfl rfl rfl (Go.Proofs.Ytcombjhkbjbncaa.W.quiet_bin rfl rfl rfl (fun W => qb_mul_int W _ _ _ _ (by omega) (by omega))) ?_
        refine WL.op rfl rfl rfl (Go.Proofs.Ytcombjhkbjbncaa.W.quiet_bin rfl rfl rfl (fun W => qb_add_int W _ _ _ _ (by omega) (by omega))) ?_
        refine WL.op rfl rfl rfl (Go.Proofs.Ytcombjhkbjbncaa.W.quiet_bin rfl rfl rfl (fun W => qb_lss_int W _ _ _ _)) ?_
        refine O.split (fun a4 => ?_) (fun a4 => ?_)
        · skip
          refine WL.op rfl rfl rfl (Go.Proofs.Ytcombjhkbjbncaa.W.quiet_pick rfl rfl rfl) ?_
          refine WL.op rfl rfl rfl (Go.Proofs.Ytcombjhkbjbncaa.W.quiet_move rfl rfl) ?_
          refine WL.skip rfl rfl rfl ?_
          refine WL.skip rfl rfl rfl ?_
          refine WL.skip rfl rfl rfl ?_
          refine WL.op rfl rfl rfl (Go.Proofs.Ytcombjhkbjbncaa.W.quiet_pick rfl rfl rfl) ?_
          refine WL.op rfl rfl rfl (Go.Proofs.Ytcombjhkbjbncaa.W.quiet_move rfl rfl) ?_
          refine WL.skip rfl rfl rfl ?_
          refine WL.skip rfl rfl rfl ?_
          refine WL.skip rfl rfl rfl ?_
          refine WL.op rfl rfl rfl (Go.Proofs.Ytcombjhkbjbncaa.W.quiet_pick rfl rfl rfl) ?_
          refine WL.nil ?_
          refine TW.cond rfl (fun _ => ?_) (fun hb => by cases hb)
          refine TW.sreg ?_
          refine O.bld rfl rfl rfl rfl rfl (qd_rushlightref32_Read_ _) ?_
          refine O.storeR rfl rfl rfl rfl rfl (qsA_rushlightref32_Read w8 _ _ _ _ _ _ _ _ _ _ _ _ _ _ _ bx1) ?_
          rintro wa5 ⟨fa5, bx1x⟩
          replace hb := hb.frZ fa5 (fun q hq e => by omega)
          replace ff := ff.trans' fa5 (fun q hq e => by omega)
          clear bx1
          have bx1 := bx1x
          clear bx1x
          refine WL.nil ?_
          refine TW.rt ?_
          refine Xw.thn (by simp) ?_
          refine O.retc1 rfl rfl (run_loadVar_row _ _ _ 36 _ _ _ bx1 Try.underlying36 rfl (by kernel_rfl)) ?_
          exact .inr ⟨fun g h => ((isR_iff hbyt g).1 h).1 (.inr (.inr (.inr (.inl (of_decide_eq_true a4))))), rfl, ff⟩
        · skip
          refine WL.op rfl rfl rfl (Go.Proofs.Ytcombjhkbjbncaa.W.quiet_pick rfl rfl rfl) ?_
          refine WL.op rfl rfl rfl (Go.Proofs.Ytcombjhkbjbncaa.W.quiet_move rfl rfl) ?_
          refine WL.op rfl rfl rfl (Go.Proofs.Ytcombjhkbjbncaa.W.quiet_move rfl rfl) ?_
          refine WL.call (hr := (t_at w.heap.size ba bc l hbyt (by omega) 12 (by omega) _ hb)) rfl rfl rfl rfl rfl (fun W => qk_rushlightref32_at W _) ?_
          rintro e w12 ⟨rfl, f12⟩
          refine ⟨_, rfl, ?_⟩
          replace bx1 := bx1.fr f12 id
          replace hb := hb.fr f12
          replace ff := ff.trans f12
          refine WL.op rfl rfl rfl (Go.Proofs.Ytcombjhkbjbncaa.W.quiet_bin rfl rfl rfl (fun W => qb_gtr_int W _ _ _ _)) ?_
          refine O.split (fun a5 => ?_) (fun a5 => ?_)
          · skip
            refine WL.op rfl rfl rfl (Go.Proofs.Ytcombjhkbjbncaa.W.quiet_pick rfl rfl rfl) ?_
            refine WL.op rfl rfl rfl (Go.Proofs.Ytcombjhkbjbncaa.W.quiet_move rfl rfl) ?_
            refine WL.skip rfl rfl rfl ?_
            refine WL.skip rfl rfl rfl ?_
            refine WL.skip rfl rfl rfl ?_
            refine WL.op rfl rfl rfl (Go.Proofs.Ytcombjhkbjbncaa.W.quiet_pick rfl rfl rfl) ?_
            refine WL.nil ?_
            refine TW.cond rfl (fun _ => ?_) (fun hb => by cases hb)
            refine TW.sreg ?_
            refine O.bld rfl rfl rfl rfl rfl (qd_rushlightref32_Read_ _) ?_
            refine O.storeR rfl rfl rfl rfl rfl (qsA_rushlightref32_Read w12 _ _ _ _ _ _ _ _ _ _ _ _ _ _ _ bx1) ?_
            rintro wa6 ⟨fa6, bx1x⟩
            replace hb := hb.frZ fa6 (fun q hq e => by omega)
            replace ff := ff.trans' fa6 (fun q hq e => by omega)
            clear bx1
            have bx1 := bx1x
            clear bx1x
            refine WL.nil ?_
            refine TW.rt ?_
            refine Xw.thn (by simp) ?_
            refine O.retc1 rfl rfl (run_loadVar_row _ _ _ 36 _ _ _ bx1 Try.underlying36 rfl (by kernel_rfl)) ?_
            exact .inr ⟨fun g h => ((isR_iff hbyt g).1 h).1 (.inr (.inr (.inr (.inr (.inl (of_decide_eq_true a5)))))), rfl, ff⟩
          · skip
            refine WL.op rfl rfl rfl (Go.Proofs.Ytcombjhkbjbncaa.W.quiet_pick rfl rfl rfl) ?_
            refine WL.op rfl rfl rfl (Go.Proofs.Ytcombjhkbjbncaa.W.quiet_move rfl rfl) ?_
            refine WL.op rfl rfl rfl (Go.Proofs.Ytcombjhkbjbncaa.W.quiet_move rfl rfl) ?_
            refine WL.call (hr := (t_at w.heap.size ba bc l hbyt (by omega) 16 (by omega) _ hb)) rfl rfl rfl rfl rfl (fun W => qk_rushlightref32_at W _) ?_
            rintro e w16 ⟨rfl, f16⟩
            refine ⟨_, rfl, ?_⟩
            replace bx1 := bx1.fr f16 id
            replace hb := hb.fr f16
            replace ff := ff.trans f16
            refine WL.op rfl rfl rfl (Go.Proofs.Ytcombjhkbjbncaa.W.quiet_bin rfl rfl rfl (fun W => qb_gtr_int W _ _ _ _)) ?_
            refine O.split (fun a6 => ?_) (fun a6 => ?_)
            · skip
              refine WL.op rfl rfl rfl (Go.Proofs.Ytcombjhkbjbncaa.W.quiet_pick rfl rfl rfl) ?_
              refine WL.nil ?_
              refine TW.cond rfl (fun _ => ?_) (fun hb => by cases hb)
              refine TW.sreg ?_
              refine O.bld rfl rfl rfl rfl rfl (qd_rushlightref32_Read_ _) ?_
              refine O.storeR rfl rfl rfl rfl rfl (qsA_rushlightref32_Read w16 _ _ _ _ _ _ _ _ _ _ _ _ _ _ _ bx1) ?_
              rintro wa7 ⟨fa7, bx1x⟩
              replace hb := hb.frZ fa7 (fun q hq e => by omega)
              replace ff := ff.trans' fa7 (fun q hq e => by omega)
              clear bx1
              have bx1 := bx1x
              clear bx1x
              refine WL.nil ?_
              refine TW.rt ?_
              refine Xw.thn (by simp) ?_
              refine O.retc1 rfl rfl (run_loadVar_row _ _ _ 36 _ _ _ bx1 Try.underlying36 rfl (by kernel_rfl)) ?_
              exact .inr ⟨fun g h => ((isR_iff hbyt g).1 h).1 (.inr (.inr (.inr (.inr (.inr (of_decide_eq_true a6)))))), rfl, ff⟩
            · skip
              have hne : ¬early l := fun h => by
                have := of_decide_eq_false a2
                have := of_decide_eq_false a3
                have := of_decide_eq_false a4
                have := of_decide_eq_false a5
                have := of_decide_eq_false a6
                unfold early at h
                omega
              have q2 := of_decide_eq_false a2
              have q3 := of_decide_eq_false a3
              have q4 := of_decide_eq_false a4
              refine WL.op rfl rfl rfl (Go.Proofs.Ytcombjhkbjbncaa.W.quiet_pick rfl rfl rfl) ?_
              refine WL.nil ?_
              refine TW.cond rfl (fun hb => by cases hb) (fun _ => ?_)
              refine TW.skip ?_
              refine TW.sreg ?_
              refine WL.op rfl rfl rfl (Go.Proofs.Ytcombjhkbjbncaa.W.quiet_move rfl rfl) ?_
              refine WL.call (hr := (t_at w.heap.size ba bc l hbyt (by omega) 12 (by omega) _ hb)) rfl rfl rfl rfl rfl (fun W => qk_rushlightref32_at W _) ?_
              rintro e v12 ⟨rfl, g12⟩
              refine ⟨_, rfl, ?_⟩
              replace bx1 := bx1.fr g12 id
              replace hb := hb.fr g12
              replace ff := ff.trans g12
              refine WL.op rfl rfl rfl (Go.Proofs.Ytcombjhkbjbncaa.W.quiet_bin rfl rfl rfl (fun W => qb_add_int W _ _ _ _ (by omega) (by omega))) ?_
              refine WL.op rfl rfl rfl (Go.Proofs.Ytcombjhkbjbncaa.W.quiet_move rfl rfl) ?_
              refine WL.call (hr := (t_at w.heap.size ba bc l hbyt (by omega) 16 (by omega) _ hb)) rfl rfl rfl rfl rfl (fun W => qk_rushlightref32_at W _) ?_
              rintro e v16 ⟨rfl, g16⟩
              refine ⟨_, rfl, ?_⟩
              replace bx1 := bx1.fr g16 id
              replace hb := hb.fr g16
              replace ff := ff.trans g16
              refine O.bld rfl rfl rfl rfl rfl (qd_api_Image_2_3 _ _ _) ?_
              have lt2_bx1 := bx1.lt
              have lw2 := ff.size
              refine O.allocR rfl rfl rfl rfl (qzR_api_Image v16) ?_
              rintro wa8 ⟨fa8, bx2⟩
              replace bx1 := bx1.fr fa8 id
              replace hb := hb.fr fa8
              replace ff := ff.trans fa8
              obtain ⟨gI, hgI⟩ : ∃ gI, gI = v16.heap.size := ⟨_, rfl⟩
              rw [← hgI] at bx2
              rw [← hgI]
              have hzI := ff.size
              have hwI : w.heap.size < gI := by omega
              refine O.storeR rfl rfl rfl rfl rfl (qsA_api_Image wa8 _ _ _ _ _ _ _ _ _ _ _ _ _ bx2) ?_
              rintro wa9 ⟨fa9, bx2x⟩
              replace bx1 := bx1.fr fa9 (fun e => by omega)
              replace hb := hb.frZ fa9 (fun q hq e => by omega)
              replace ff := ff.trans' fa9 (fun q hq e => by omega)
              clear bx2
              have bx2 := bx2x
              clear bx2x
              have bxI := bx2
              obtain ⟨B, hBB⟩ : ∃ B, B = gI + 1 := ⟨_, rfl⟩
              have hB := Nat.succ_le_of_lt bxI.lt
              rw [Nat.succ_eq_add_one, ← hBB] at hB
              have hIB : gI < B := by omega
              refine WL.nil ?_
              refine TW.seq ?_
              refine TW.sreg ?_
              refine WL.op rfl rfl rfl (Go.Proofs.Ytcombjhkbjbncaa.W.quiet_assign rfl rfl) ?_
              refine WL.nil ?_
              refine TW.block ?_
              refine O.loopG (n := (atL l 4).toNat) (fun a _ => (intOf (a.tmps.getD 6 undef)).toNat) (fun j a W => ∃ (ca da : Option Addr) (cc dc : Nat), Kn Try.f13.ntmps [(0, .slice ba l.length bc), (2, .pointer (some ⟨w.heap.size, 0, none⟩)), (3, .int .i64 (atL l 4)), (4, .int .i64 (atL l 8)), (5, .pointer (some ⟨gI, 0, none⟩)), (6, .int .i64 (j : Int))] a ∧ Fr (fun _ => False) w W ∧ Bx W w.heap.size #[.slice none 0 0, .slice none 0 0, .int .i64 0, .int .i64 0, .bool false] 36 ∧ Bx W gI #[.slice ca (wordsL l j).length cc, .slice da (([] : List Int)).length dc, .int .i64 (268435456 + atL l 12), .int .i64 (atL l 16)] 25 ∧ R32 B W (.slice ca (wordsL l j).length cc) (wordsL l j) ∧ R8 B W (.slice da (([] : List Int)).length dc) (([] : List Int)) ∧ NumAt .u8 w.heap.size W ba l ∧ B ≤ W.heap.size) (fun j a W h => by obtain ⟨_, _, _, _, h⟩ := h; exact O.slotv h.1 rfl) 0 (Nat.zero_le _) (fun a k => ⟨none, none, 0, 0, (by (repeat (refine Kn.cons k rfl ?_)); exact k.base), ff, bx1, bxI, Row.nil _ _ _ _ _, Row.nil _ _ _ _ _, hb, hB⟩) ?_
              rintro j a wl hj ⟨ca, da, cc, dc, k, ff, bx1, bxI, hrc, hrd, hb, hB⟩
              refine TW.app (s := [(0, .slice ba l.length bc), (2, .pointer (some ⟨w.heap.size, 0, none⟩)), (3, .int .i64 (atL l 4)), (4, .int .i64 (atL l 8)), (5, .pointer (some ⟨gI, 0, none⟩)), (6, .int .i64 (j : Int))]) ?_ k
              refine TW.seq ?_
              refine TW.sreg ?_
              refine WL.op rfl rfl rfl (Go.Proofs.Ytcombjhkbjbncaa.W.quiet_move rfl rfl) ?_
              refine WL.op rfl rfl rfl (Go.Proofs.Ytcombjhkbjbncaa.W.quiet_move rfl rfl) ?_
              refine WL.op rfl rfl rfl (Go.Proofs.Ytcombjhkbjbncaa.W.quiet_bin rfl rfl rfl (fun W => qb_lss_int W _ _ _ _)) ?_
              refine O.split (fun b1 => ?_) (fun b1 => ?_)
              · skip
                have hj2 : (j : Int) < atL l 4 := of_decide_eq_true b1
                have hjl : 20 + 4 * j + 3 < l.length := by omega
                have hzw := ff.size
                refine WL.nil ?_
                refine TW.cond rfl (fun _ => ?_) (fun hb => by cases hb)
                refine TW.skip ?_
                refine TW.seq ?_
                refine TW.block ?_
                have hj4 : (20 : Int) + 4 * (j : Int) = ((20 + 4 * j : Nat) : Int) := by omega
                have RD32 : ∀ k, (Value.slice da ([] : List Int).length dc).ownBlock = some k → (Value.slice ca (wordsL l j).length cc).ownBlock ≠ some k := rows_ne hrd hrc
                refine TW.regH (fun W => Fr (fun q => q = gI ∨ (Value.slice ca (wordsL l j).length cc).ownBlock = some q) wl W) (by kernel_rfl) ?_
                have fd : Fr (fun _ => False) wl wl.drew := (Fr.refl _ _).drewN 1
                have HW : Fr (fun q => q = gI ∨ (Value.slice ca (wordsL l j).length cc).ownBlock = some q) wl wl.drew := (Fr.refl _ _).drewN 1
                replace bx1 := bx1.fr fd id
                replace bxI := bxI.fr fd id
                replace hrc := Row.fr hrc fd (fun _ _ => id)
                replace hrd := Row.fr hrd fd (fun _ _ => id)
                replace hb := hb.fr fd
                replace hB := Nat.le_trans hB fd.size
                replace ff := ff.trans fd
                generalize hV : wl.drew = V1 at *
                clear hV
                refine WH.take 0 rfl (by kernel_rfl) (by kernel_rfl) (by kernel_rfl) (fun _ _ _ _ _ h => h) rfl rfl rfl HW (RH.field rfl rfl (fun W => qa_api_Image_0 W _ _)) ?_
                refine WH.take 2 rfl (by kernel_rfl) (by kernel_rfl) (by kernel_rfl) (fun _ _ _ _ _ h => h) rfl rfl rfl HW (RH.move rfl rfl) ?_
                refine WH.take 3 rfl (by kernel_rfl) (by kernel_rfl) (by kernel_rfl) (fun _ _ _ _ _ h => h) rfl rfl rfl HW (RH.move rfl rfl) ?_
                refine WH.take 4 rfl (by kernel_rfl) (by kernel_rfl) (by kernel_rfl) (fun _ _ _ _ _ h => h) rfl rfl rfl HW (RH.bin rfl rfl rfl (fun W => qb_mul_int W _ _ _ _ (by omega) (by omega))) ?_
                refine WH.take 5 rfl (by kernel_rfl) (by kernel_rfl) (by kernel_rfl) (fun _ _ _ _ _ h => h) rfl rfl rfl HW (RH.bin rfl rfl rfl (fun W => qb_add_int W _ _ _ _ (by omega) (by omega))) ?_
                refine WH.two 1 6 (by kernel_rfl) rfl rfl ?_ ?_ 
                · skip
                  refine WL.ld rfl rfl rfl rfl rfl (ql_s_uint32 _ _ _ _ _ (bxI.cell (j := 0) rfl)) ?_
                  refine WL.fin HW ?_
                  refine WH.one 6 (by kernel_rfl) rfl ?_ 
                  rw [hj4]
                  refine WL.call (hr := (t_at w.heap.size ba bc l hbyt (by omega) (20 + 4 * j) (by omega) _ hb)) rfl rfl rfl rfl rfl (fun W => qk_rushlightref32_at W _) ?_
                  rintro e wA ⟨rfl, fA⟩
                  refine ⟨_, rfl, ?_⟩
                  replace bx1 := bx1.fr fA id
                  replace bxI := bxI.fr fA id
                  replace hrc := Row.fr hrc fA (fun _ _ => id)
                  replace hrd := Row.fr hrd fA (fun _ _ => id)
                  replace hb := hb.fr fA
                  replace hB := Nat.le_trans hB fA.size
                  replace HW := HW.trans' fA (fun q hq e => e.elim)
                  replace ff := ff.trans fA
                  refine WL.fin HW ?_
                  refine WH.one 7 (by kernel_rfl) rfl ?_ 
                  refine O.cv rfl rfl rfl rfl rfl (cv_w _ _ (atL_in hbyt _).1 (atL_in hbyt _).2) ?_
                  refine WL.fin HW ?_
                  refine WH.one 8 (by kernel_rfl) rfl ?_ 
                  refine O.bsl rfl rfl rfl rfl rfl (qv_s_uint32_1 _ _) ?_
                  refine WL.fin (fr_al HW _) ?_
                  refine WH.one 9 (by kernel_rfl) rfl ?_ 
                  refine WL.append rfl rfl rfl rfl rfl rfl (R32.app1 (atL l (20 + 4 * j)) _ hrc (by omega) (by rw [wordsL_len]; omega)) ?_
                  rintro v3 w3 ⟨hv3, hF3, ho3⟩
                  have hvk := fun k hk => (Row.lt hrc k hk).1
                  replace HW := HW.trans' hF3 (fun q hq e => .inr e)
                  replace ff := ff.trans' hF3 (fun q hq e => by have := hvk q e; omega)
                  replace bx1 := bx1.fr hF3 (fun e => by have := hvk _ e; omega)
                  have neI := Row.apart_typ hrc bxI (by decide)
                  replace bxI := Bx.fr bxI hF3 neI
                  replace hrd := Row.fr hrd hF3 (fun k hk e => RD32 k hk e)
                  replace hb := hb.frZ hF3 (fun q hq e => by have := hvk q e; omega)
                  replace hB := Nat.le_trans hB hF3.size
                  have hrc0 := hrc
                  clear hrc
                  have hrc := hv3
                  obtain ⟨ca3, cc3, rfl⟩ := Row.form hrc
                  -- world w3
                  refine WL.fin HW ?_
                  refine WH.take 10 rfl (by kernel_rfl) (by kernel_rfl) (by kernel_rfl) (fun _ _ _ _ _ h => h) rfl rfl rfl HW (RH.field rfl rfl (fun W => qa_api_Image_0 W _ _)) ?_
                  refine WH.one 11 (by kernel_rfl) rfl ?_ 
                  refine O.storeR rfl rfl rfl rfl rfl (qsF_s_uint32 w3 _ 0 _ _ _ _ _ _ bxI rfl) ?_
                  rintro wa10 ⟨fa10, bxIx⟩
                  replace bx1 := bx1.fr fa10 (fun e => by omega)
                  replace hrc := Row.fr hrc fa10 (fun k hk e => Row.apart_typ hrc bxI (by decide) (hk.trans (congrArg some e)))
                  replace hrd := Row.fr hrd fa10 (fun k hk e => Row.apart_typ hrd bxI (by decide) (hk.trans (congrArg some e)))
                  replace hb := hb.frZ fa10 (fun q hq e => by omega)
                  replace hB := Nat.le_trans hB fa10.size
                  replace HW := HW.trans' fa10 (fun q hq e => .inl e)
                  replace ff := ff.trans' fa10 (fun q hq e => by omega)
                  clear bxI
                  have bxI := bxIx
                  clear bxIx
                  refine WL.fin HW ?_
                  refine WH.end (by kernel_rfl) ?_
                  refine Xw.nblk ?_
                  refine Xw.nrm ?_
                  refine TW.reg ?_
                  refine WL.op rfl rfl rfl (Go.Proofs.Ytcombjhkbjbncaa.W.quiet_move rfl rfl) ?_
                  refine WL.op rfl rfl rfl (Go.Proofs.Ytcombjhkbjbncaa.W.quiet_bin rfl rfl rfl (fun W => qb_add_int W _ _ _ _ (by omega) (by omega))) ?_
                  refine WL.op rfl rfl rfl (Go.Proofs.Ytcombjhkbjbncaa.W.quiet_assign rfl rfl) ?_
                  refine WL.end ?_
                  refine Xw.any (fun a k => ?_)
                  exact ⟨j + 1, by omega, by omega, ca3, da, cc3, dc, (by (repeat (refine Kn.cons k rfl ?_)); exact k.base), ff, bx1, by rw [wordsL_succ]; exact bxI, by rw [wordsL_succ]; exact hrc, hrd, hb, hB⟩
                · skip
                  rw [hj4]
                  refine WL.call (hr := (t_at w.heap.size ba bc l hbyt (by omega) (20 + 4 * j) (by omega) _ hb)) rfl rfl rfl rfl rfl (fun W => qk_rushlightref32_at W _) ?_
                  rintro e wA ⟨rfl, fA⟩
                  refine ⟨_, rfl, ?_⟩
                  replace bx1 := bx1.fr fA id
                  replace bxI := bxI.fr fA id
                  replace hrc := Row.fr hrc fA (fun _ _ => id)
                  replace hrd := Row.fr hrd fA (fun _ _ => id)
                  replace hb := hb.fr fA
                  replace hB := Nat.le_trans hB fA.size
                  replace HW := HW.trans' fA (fun q hq e => e.elim)
                  replace ff := ff.trans fA
                  refine WL.fin HW ?_
                  refine WH.two 1 7 (by kernel_rfl) rfl rfl ?_ ?_ 
                  · skip
                    refine WL.ld rfl rfl rfl rfl rfl (ql_s_uint32 _ _ _ _ _ (bxI.cell (j := 0) rfl)) ?_
                    refine WL.fin HW ?_
                    refine WH.one 7 (by kernel_rfl) rfl ?_ 
                    refine O.cv rfl rfl rfl rfl rfl (cv_w _ _ (atL_in hbyt _).1 (atL_in hbyt _).2) ?_
                    refine WL.fin HW ?_
                    refine WH.one 8 (by kernel_rfl) rfl ?_ 
                    refine O.bsl rfl rfl rfl rfl rfl (qv_s_uint32_1 _ _) ?_
                    refine WL.fin (fr_al HW _) ?_
                    refine WH.one 9 (by kernel_rfl) rfl ?_ 
                    refine WL.append rfl rfl rfl rfl rfl rfl (R32.app1 (atL l (20 + 4 * j)) _ hrc (by omega) (by rw [wordsL_len]; omega)) ?_
                    rintro v3 w3 ⟨hv3, hF3, ho3⟩
                    have hvk := fun k hk => (Row.lt hrc k hk).1
                    replace HW := HW.trans' hF3 (fun q hq e => .inr e)
                    replace ff := ff.trans' hF3 (fun q hq e => by have := hvk q e; omega)
                    replace bx1 := bx1.fr hF3 (fun e => by have := hvk _ e; omega)
                    have neI := Row.apart_typ hrc bxI (by decide)
                    replace bxI := Bx.fr bxI hF3 neI
                    replace hrd := Row.fr hrd hF3 (fun k hk e => RD32 k hk e)
                    replace hb := hb.frZ hF3 (fun q hq e => by have := hvk q e; omega)
                    replace hB := Nat.le_trans hB hF3.size
                    have hrc0 := hrc
                    clear hrc
                    have hrc := hv3
                    obtain ⟨ca3, cc3, rfl⟩ := Row.form hrc
                    -- world w3
                    refine WL.fin HW ?_
                    refine WH.take 10 rfl (by kernel_rfl) (by kernel_rfl) (by kernel_rfl) (fun _ _ _ _ _ h => h) rfl rfl rfl HW (RH.field rfl rfl (fun W => qa_api_Image_0 W _ _)) ?_
                    refine WH.one 11 (by kernel_rfl) rfl ?_ 
                    refine O.storeR rfl rfl rfl rfl rfl (qsF_s_uint32 w3 _ 0 _ _ _ _ _ _ bxI rfl) ?_
                    rintro wa11 ⟨fa11, bxIx⟩
                    replace bx1 := bx1.fr fa11 (fun e => by omega)
                    replace hrc := Row.fr hrc fa11 (fun k hk e => Row.apart_typ hrc bxI (by decide) (hk.trans (congrArg some e)))
                    replace hrd := Row.fr hrd fa11 (fun k hk e => Row.apart_typ hrd bxI (by decide) (hk.trans (congrArg some e)))
                    replace hb := hb.frZ fa11 (fun q hq e => by omega)
                    replace hB := Nat.le_trans hB fa11.size
                    replace HW := HW.trans' fa11 (fun q hq e => .inl e)
                    replace ff := ff.trans' fa11 (fun q hq e => by omega)
                    clear bxI
                    have bxI := bxIx
                    clear bxIx
                    refine WL.fin HW ?_
                    refine WH.end (by kernel_rfl) ?_
                    refine Xw.nblk ?_
                    refine Xw.nrm ?_
                    refine TW.reg ?_
                    refine WL.op rfl rfl rfl (Go.Proofs.Ytcombjhkbjbncaa.W.quiet_move rfl rfl) ?_
                    refine WL.op rfl rfl rfl (Go.Proofs.Ytcombjhkbjbncaa.W.quiet_bin rfl rfl rfl (fun W => qb_add_int W _ _ _ _ (by omega) (by omega))) ?_
                    refine WL.op rfl rfl rfl (Go.Proofs.Ytcombjhkbjbncaa.W.quiet_assign rfl rfl) ?_
                    refine WL.end ?_
                    refine Xw.any (fun a k => ?_)
                    exact ⟨j + 1, by omega, by omega, ca3, da, cc3, dc, (by (repeat (refine Kn.cons k rfl ?_)); exact k.base), ff, bx1, by rw [wordsL_succ]; exact bxI, by rw [wordsL_succ]; exact hrc, hrd, hb, hB⟩
                  · skip
                    refine O.cv rfl rfl rfl rfl rfl (cv_w _ _ (atL_in hbyt _).1 (atL_in hbyt _).2) ?_
                    refine WL.fin HW ?_
                    refine WH.two 1 8 (by kernel_rfl) rfl rfl ?_ ?_ 
                    · skip
                      refine WL.ld rfl rfl rfl rfl rfl (ql_s_uint32 _ _ _ _ _ (bxI.cell (j := 0) rfl)) ?_
                      refine WL.fin HW ?_
                      refine WH.one 8 (by kernel_rfl) rfl ?_ 
                      refine O.bsl rfl rfl rfl rfl rfl (qv_s_uint32_1 _ _) ?_
                      refine WL.fin (fr_al HW _) ?_
                      refine WH.one 9 (by kernel_rfl) rfl ?_ 
                      refine WL.append rfl rfl rfl rfl rfl rfl (R32.app1 (atL l (20 + 4 * j)) _ hrc (by omega) (by rw [wordsL_len]; omega)) ?_
                      rintro v3 w3 ⟨hv3, hF3, ho3⟩
                      have hvk := fun k hk => (Row.lt hrc k hk).1
                      replace HW := HW.trans' hF3 (fun q hq e => .inr e)
                      replace ff := ff.trans' hF3 (fun q hq e => by have := hvk q e; omega)
                      replace bx1 := bx1.fr hF3 (fun e => by have := hvk _ e; omega)
                      have neI := Row.apart_typ hrc bxI (by decide)
                      replace bxI := Bx.fr bxI hF3 neI
                      replace hrd := Row.fr hrd hF3 (fun k hk e => RD32 k hk e)
                      replace hb := hb.frZ hF3 (fun q hq e => by have := hvk q e; omega)
                      replace hB := Nat.le_trans hB hF3.size
                      have hrc0 := hrc
                      clear hrc
                      have hrc := hv3
                      obtain ⟨ca3, cc3, rfl⟩ := Row.form hrc
                      -- world w3
                      refine WL.fin HW ?_
                      refine WH.take 10 rfl (by kernel_rfl) (by kernel_rfl) (by kernel_rfl) (fun _ _ _ _ _ h => h) rfl rfl rfl HW (RH.field rfl rfl (fun W => qa_api_Image_0 W _ _)) ?_
                      refine WH.one 11 (by kernel_rfl) rfl ?_ 
                      refine O.storeR rfl rfl rfl rfl rfl (qsF_s_uint32 w3 _ 0 _ _ _ _ _ _ bxI rfl) ?_
                      rintro wa12 ⟨fa12, bxIx⟩
                      replace bx1 := bx1.fr fa12 (fun e => by omega)
                      replace hrc := Row.fr hrc fa12 (fun k hk e => Row.apart_typ hrc bxI (by decide) (hk.trans (congrArg some e)))
                      replace hrd := Row.fr hrd fa12 (fun k hk e => Row.apart_typ hrd bxI (by decide) (hk.trans (congrArg some e)))
                      replace hb := hb.frZ fa12 (fun q hq e => by omega)
                      replace hB := Nat.le_trans hB fa12.size
                      replace HW := HW.trans' fa12 (fun q hq e => .inl e)
                      replace ff := ff.trans' fa12 (fun q hq e => by omega)
                      clear bxI
                      have bxI := bxIx
                      clear bxIx
                      refine WL.fin HW ?_
                      refine WH.end (by kernel_rfl) ?_
                      refine Xw.nblk ?_
                      refine Xw.nrm ?_
                      refine TW.reg ?_
                      refine WL.op rfl rfl rfl (Go.Proofs.Ytcombjhkbjbncaa.W.quiet_move rfl rfl) ?_
                      refine WL.op rfl rfl rfl (Go.Proofs.Ytcombjhkbjbncaa.W.quiet_bin rfl rfl rfl (fun W => qb_add_int W _ _ _ _ (by omega) (by omega))) ?_
                      refine WL.op rfl rfl rfl (Go.Proofs.Ytcombjhkbjbncaa.W.quiet_assign rfl rfl) ?_
                      refine WL.end ?_
                      refine Xw.any (fun a k => ?_)
                      exact ⟨j + 1, by omega, by omega, ca3, da, cc3, dc, (by (repeat (refine Kn.cons k rfl ?_)); exact k.base), ff, bx1, by rw [wordsL_succ]; exact bxI, by rw [wordsL_succ]; exact hrc, hrd, hb, hB⟩
                    · skip
                      refine O.bsl rfl rfl rfl rfl rfl (qv_s_uint32_1 _ _) ?_
                      refine WL.fin (fr_al HW _) ?_
                      refine WH.one 1 (by kernel_rfl) rfl ?_ 
                      refine WL.ld rfl rfl rfl rfl rfl (ql_s_uint32 _ _ _ _ _ ((bxI.fr (fr_al (Fr.refl (fun _ => False) _) _) id).cell (j := 0) rfl)) ?_
                      refine WL.fin (fr_al HW _) ?_
                      refine WH.one 9 (by kernel_rfl) rfl ?_ 
                      refine WL.append rfl rfl rfl rfl rfl rfl (R32.app1 (atL l (20 + 4 * j)) _ hrc (by omega) (by rw [wordsL_len]; omega)) ?_
                      rintro v3 w3 ⟨hv3, hF3, ho3⟩
                      have hvk := fun k hk => (Row.lt hrc k hk).1
                      replace HW := HW.trans' hF3 (fun q hq e => .inr e)
                      replace ff := ff.trans' hF3 (fun q hq e => by have := hvk q e; omega)
                      replace bx1 := bx1.fr hF3 (fun e => by have := hvk _ e; omega)
                      have neI := Row.apart_typ hrc bxI (by decide)
                      replace bxI := Bx.fr bxI hF3 neI
                      replace hrd := Row.fr hrd hF3 (fun k hk e => RD32 k hk e)
                      replace hb := hb.frZ hF3 (fun q hq e => by have := hvk q e; omega)
                      replace hB := Nat.le_trans hB hF3.size
                      have hrc0 := hrc
                      clear hrc
                      have hrc := hv3
                      obtain ⟨ca3, cc3, rfl⟩ := Row.form hrc
                      -- world w3
                      refine WL.fin HW ?_
                      refine WH.take 10 rfl (by kernel_rfl) (by kernel_rfl) (by kernel_rfl) (fun _ _ _ _ _ h => h) rfl rfl rfl HW (RH.field rfl rfl (fun W => qa_api_Image_0 W _ _)) ?_
                      refine WH.one 11 (by kernel_rfl) rfl ?_ 
                      refine O.storeR rfl rfl rfl rfl rfl (qsF_s_uint32 w3 _ 0 _ _ _ _ _ _ bxI rfl) ?_
                      rintro wa13 ⟨fa13, bxIx⟩
                      replace bx1 := bx1.fr fa13 (fun e => by omega)
                      replace hrc := Row.fr hrc fa13 (fun k hk e => Row.apart_typ hrc bxI (by decide) (hk.trans (congrArg some e)))
                      replace hrd := Row.fr hrd fa13 (fun k hk e => Row.apart_typ hrd bxI (by decide) (hk.trans (congrArg some e)))
                      replace hb := hb.frZ fa13 (fun q hq e => by omega)
                      replace hB := Nat.le_trans hB fa13.size
                      replace HW := HW.trans' fa13 (fun q hq e => .inl e)
                      replace ff := ff.trans' fa13 (fun q hq e => by omega)
                      clear bxI
                      have bxI := bxIx
                      clear bxIx
                      refine WL.fin HW ?_
                      refine WH.end (by kernel_rfl) ?_
                      refine Xw.nblk ?_
                      refine Xw.nrm ?_
                      refine TW.reg ?_
                      refine WL.op rfl rfl rfl (Go.Proofs.Ytcombjhkbjbncaa.W.quiet_move rfl rfl) ?_
                      refine WL.op rfl rfl rfl (Go.Proofs.Ytcombjhkbjbncaa.W.quiet_bin rfl rfl rfl (fun W => qb_add_int W _ _ _ _ (by omega) (by omega))) ?_
                      refine WL.op rfl rfl rfl (Go.Proofs.Ytcombjhkbjbncaa.W.quiet_assign rfl rfl) ?_
                      refine WL.end ?_
                      refine Xw.any (fun a k => ?_)
                      exact ⟨j + 1, by omega, by omega, ca3, da, cc3, dc, (by (repeat (refine Kn.cons k rfl ?_)); exact k.base), ff, bx1, by rw [wordsL_succ]; exact bxI, by rw [wordsL_succ]; exact hrc, hrd, hb, hB⟩
              · skip
                have hje : j = (atL l 4).toNat := by have := of_decide_eq_false b1; omega
                subst hje
                refine WL.nil ?_
                refine TW.cond rfl (fun hb => by cases hb) (fun _ => ?_)
                refine TW.exit ?_
                refine Xw.thn (by simp) ?_
                refine Xw.thn (by simp) ?_
                refine Xw.hit ?_
                refine Xw.nrm ?_
                refine TW.sreg ?_
                refine WL.op rfl rfl rfl (Go.Proofs.Ytcombjhkbjbncaa.W.quiet_move rfl rfl) ?_
                refine WL.op rfl rfl rfl (Go.Proofs.Ytcombjhkbjbncaa.W.quiet_bin rfl rfl rfl (fun W => qb_mul_int W _ _ _ _ (by omega) (by omega))) ?_
                refine WL.op rfl rfl rfl (Go.Proofs.Ytcombjhkbjbncaa.W.quiet_bin rfl rfl rfl (fun W => qb_add_int W _ _ _ _ (by omega) (by omega))) ?_
                refine WL.op rfl rfl rfl (Go.Proofs.Ytcombjhkbjbncaa.W.quiet_assign rfl rfl) ?_
                refine WL.nil ?_
                refine TW.seq ?_
                refine TW.block ?_
                refine O.loopG (n := l.length) (fun a _ => (intOf (a.tmps.getD 7 undef)).toNat) (fun p a W => ∃ (xs : List Int) (da : Option Addr) (dc : Nat), Kn Try.f13.ntmps [(0, .slice ba l.length bc), (2, .pointer (some ⟨w.heap.size, 0, none⟩)), (3, .int .i64 (atL l 4)), (4, .int .i64 (atL l 8)), (5, .pointer (some ⟨gI, 0, none⟩)), (7, .int .i64 (p : Int))] a ∧ Fr (fun _ => False) w W ∧ Bx W w.heap.size #[.slice none 0 0, .slice none 0 0, .int .i64 0, .int .i64 0, .bool false] 36 ∧ Bx W gI #[.slice ca (wordsL l (atL l 4).toNat).length cc, .slice da (xs).length dc, .int .i64 (268435456 + atL l 12), .int .i64 (atL l 16)] 25 ∧ R32 B W (.slice ca (wordsL l (atL l 4).toNat).length cc) (wordsL l (atL l 4).toNat) ∧ R8 B W (.slice da (xs).length dc) (xs) ∧ NumAt .u8 w.heap.size W ba l ∧ B ≤ W.heap.size ∧ ∃ f, (l.drop p).length ≤ f ∧ rrF f (atL l 8).toNat xs (l.drop p) = (imgR l).data) (fun p a W h => by obtain ⟨_, _, _, h⟩ := h; exact O.slotv h.1 rfl) (20 + 4 * (atL l 4).toNat) (by omega) (fun a k => ⟨[], da, dc, (by rw [show (20 : Int) + 4 * atL l 4 = ((20 + 4 * (atL l 4).toNat : Nat) : Int) by omega] at *; (repeat (refine Kn.cons k rfl ?_)); exact k.base), ff, bx1, bxI, hrc, hrd, hb, hB, l.length, by simp, rfl⟩) ?_
                rintro p a wd hj ⟨xs, da, dc, k, ff, bx1, bxI, hrc, hrd, hb, hB, hrel⟩
                refine TW.app (s := [(0, .slice ba l.length bc), (2, .pointer (some ⟨w.heap.size, 0, none⟩)), (3, .int .i64 (atL l 4)), (4, .int .i64 (atL l 8)), (5, .pointer (some ⟨gI, 0, none⟩)), (7, .int .i64 (p : Int))]) ?_ k
                refine TW.seq ?_
                refine TW.sreg ?_
                refine WL.op rfl rfl rfl (Go.Proofs.Ytcombjhkbjbncaa.W.quiet_move rfl rfl) ?_
                refine WL.op rfl rfl rfl (Go.Proofs.Ytcombjhkbjbncaa.W.quiet_move rfl rfl) ?_
                refine O.len rfl rfl rfl rfl rfl (qn_s_uint8 _ _ _ _) ?_
                refine WL.op rfl rfl rfl (Go.Proofs.Ytcombjhkbjbncaa.W.quiet_bin rfl rfl rfl (fun W => qb_lss_int W _ _ _ _)) ?_
                refine O.split (fun f1 => ?_) (fun f1 => ?_)
                · skip
                  refine WL.op rfl rfl rfl (Go.Proofs.Ytcombjhkbjbncaa.W.quiet_move rfl rfl) ?_
                  refine WL.op rfl rfl rfl (Go.Proofs.Ytcombjhkbjbncaa.W.quiet_field rfl rfl (fun W => (qa_api_Image_1 W _ _))) ?_
                  refine WL.ld rfl rfl rfl rfl rfl (ql_s_uint8 _ _ _ _ _ (bxI.cell (j := 1) rfl)) ?_
                  refine O.len rfl rfl rfl rfl rfl (qn_s_uint8 _ _ _ _) ?_
                  refine WL.op rfl rfl rfl (Go.Proofs.Ytcombjhkbjbncaa.W.quiet_move rfl rfl) ?_
                  refine WL.op rfl rfl rfl (Go.Proofs.Ytcombjhkbjbncaa.W.quiet_bin rfl rfl rfl (fun W => qb_lss_int W _ _ _ _)) ?_
                  refine O.split (fun f2 => ?_) (fun f2 => ?_)
                  · skip
                    have hp2 : p < l.length := by have := of_decide_eq_true f1; omega
                    have hsz : ¬(atL l 8).toNat ≤ xs.length := by have := of_decide_eq_true f2; omega
                    obtain ⟨gb, ob, hab, _, hcb⟩ := hb p hp2
                    have hbp := hbyt.get p
                    refine WL.op rfl rfl rfl (Go.Proofs.Ytcombjhkbjbncaa.W.quiet_pick rfl rfl rfl) ?_
                    refine WL.nil ?_
                    refine TW.cond rfl (fun _ => ?_) (fun hb => by cases hb)
                    refine TW.skip ?_
                    refine TW.block ?_
                    refine TW.sreg ?_
                    refine WL.op rfl rfl rfl (Go.Proofs.Ytcombjhkbjbncaa.W.quiet_move rfl rfl) ?_
                    refine WL.op rfl rfl rfl (Go.Proofs.Ytcombjhkbjbncaa.W.quiet_move rfl rfl) ?_
                    refine O.ixa rfl rfl rfl rfl rfl rfl (by rw [hab]; exact qi_s_uint8 _ _ _ _ _ _ (by omega)) ?_
                    refine WL.ld rfl rfl rfl rfl rfl (ql_uint8 _ _ _ hcb) ?_
                    refine O.cv rfl rfl rfl rfl rfl (qc_uint8_int _ _ (by omega) (by omega)) ?_
                    refine WL.op rfl rfl rfl (Go.Proofs.Ytcombjhkbjbncaa.W.quiet_assign rfl rfl) ?_
                    refine WL.nil ?_
                    refine TW.sreg ?_
                    refine WL.op rfl rfl rfl (Go.Proofs.Ytcombjhkbjbncaa.W.quiet_move rfl rfl) ?_
                    refine WL.op rfl rfl rfl (Go.Proofs.Ytcombjhkbjbncaa.W.quiet_bin rfl rfl rfl (fun W => qb_add_int W _ _ _ _ (by omega) (by omega))) ?_
                    refine WL.op rfl rfl rfl (Go.Proofs.Ytcombjhkbjbncaa.W.quiet_assign rfl rfl) ?_
                    refine WL.nil ?_
                    refine TW.seq ?_
                    refine TW.sreg ?_
                    refine WL.op rfl rfl rfl (Go.Proofs.Ytcombjhkbjbncaa.W.quiet_assign rfl rfl) ?_
                    refine WL.nil ?_
                    refine TW.block ?_
                    refine O.loopG (n := ((l.getD p 0) - 127).toNat) (fun a _ => (intOf (a.tmps.getD 9 undef)).toNat) (fun i a W => ∃ (da : Option Addr) (dc : Nat), Kn Try.f13.ntmps [(0, .slice ba l.length bc), (2, .pointer (some ⟨w.heap.size, 0, none⟩)), (3, .int .i64 (atL l 4)), (4, .int .i64 (atL l 8)), (5, .pointer (some ⟨gI, 0, none⟩)), (7, .int .i64 ((p + 1 : Nat) : Int)), (8, .int .i64 (l.getD p 0)), (9, .int .i64 (i : Int))] a ∧ Fr (fun _ => False) w W ∧ Bx W w.heap.size #[.slice none 0 0, .slice none 0 0, .int .i64 0, .int .i64 0, .bool false] 36 ∧ Bx W gI #[.slice ca (wordsL l (atL l 4).toNat).length cc, .slice da ((xs ++ List.replicate i 0)).length dc, .int .i64 (268435456 + atL l 12), .int .i64 (atL l 16)] 25 ∧ R32 B W (.slice ca (wordsL l (atL l 4).toNat).length cc) (wordsL l (atL l 4).toNat) ∧ R8 B W (.slice da ((xs ++ List.replicate i 0)).length dc) ((xs ++ List.replicate i 0)) ∧ NumAt .u8 w.heap.size W ba l ∧ B ≤ W.heap.size) (fun i a W h => by obtain ⟨_, _, h⟩ := h; exact O.slotv h.1 rfl) 0 (Nat.zero_le _) (fun a k => ⟨da, dc, (by (repeat (refine Kn.cons k rfl ?_)); exact k.base), ff, bx1, by rw [List.replicate_zero, List.append_nil]; exact bxI, hrc, by rw [List.replicate_zero, List.append_nil]; exact hrd, hb, hB⟩) ?_
                    rintro i a wz hj ⟨da, dc, k, ff, bx1, bxI, hrc, hrd, hb, hB⟩
                    refine TW.app (s := [(0, .slice ba l.length bc), (2, .pointer (some ⟨w.heap.size, 0, none⟩)), (3, .int .i64 (atL l 4)), (4, .int .i64 (atL l 8)), (5, .pointer (some ⟨gI, 0, none⟩)), (7, .int .i64 ((p + 1 : Nat) : Int)), (8, .int .i64 (l.getD p 0)), (9, .int .i64 (i : Int))]) ?_ k
                    refine TW.seq ?_
                    refine TW.sreg ?_
                    refine WL.op rfl rfl rfl (Go.Proofs.Ytcombjhkbjbncaa.W.quiet_move rfl rfl) ?_
                    refine WL.op rfl rfl rfl (Go.Proofs.Ytcombjhkbjbncaa.W.quiet_move rfl rfl) ?_
                    refine WL.op rfl rfl rfl (Go.Proofs.Ytcombjhkbjbncaa.W.quiet_bin rfl rfl rfl (fun W => qb_sub_int W _ _ _ _ (by omega) (by omega))) ?_
                    refine WL.op rfl rfl rfl (Go.Proofs.Ytcombjhkbjbncaa.W.quiet_bin rfl rfl rfl (fun W => qb_lss_int W _ _ _ _)) ?_
                    refine O.split (fun c1 => ?_) (fun c1 => ?_)
                    · skip
                      have hi2 : (i : Int) < (l.getD p 0) - 127 := of_decide_eq_true c1
                      have hzw := ff.size
                      refine WL.nil ?_
                      refine TW.cond rfl (fun _ => ?_) (fun hb => by cases hb)
                      refine TW.skip ?_
                      refine TW.seq ?_
                      refine TW.block ?_
                      refine TW.reg ?_
                      refine WL.op rfl rfl rfl (Go.Proofs.Ytcombjhkbjbncaa.W.quiet_field rfl rfl (fun W => (qa_api_Image_1 W _ _))) ?_
                      refine WL.ld rfl rfl rfl rfl rfl (ql_s_uint8 _ _ _ _ _ (bxI.cell (j := 1) rfl)) ?_
                      refine O.bsl rfl rfl rfl rfl rfl (qv_s_uint8_1 _ _) ?_
                      refine WL.append rfl rfl rfl rfl rfl rfl (R8.app1 0 _ hrd (by omega) (by rw [List.length_append, List.length_replicate]; omega)) ?_
                      rintro v3 w3 ⟨hv3, hF3, ho3⟩
                      have hvk := fun k hk => (Row.lt hrd k hk).1
                      replace ff := ff.trans' hF3 (fun q hq e => by have := hvk q e; omega)
                      replace bx1 := bx1.fr hF3 (fun e => by have := hvk _ e; omega)
                      have neI := Row.apart_typ hrd bxI (by decide)
                      replace bxI := Bx.fr bxI hF3 neI
                      replace hrc := Row.fr hrc hF3 (fun k hk e => rows_ne hrd hrc k e hk)
                      replace hb := hb.frZ hF3 (fun q hq e => by have := hvk q e; omega)
                      replace hB := Nat.le_trans hB hF3.size
                      clear hrd
                      have hrd := hv3
                      obtain ⟨da3, dc3, rfl⟩ := Row.form hrd
                      -- world w3
                      refine WL.op rfl rfl rfl (Go.Proofs.Ytcombjhkbjbncaa.W.quiet_field rfl rfl (fun W => (qa_api_Image_1 W _ _))) ?_
                      refine O.storeR rfl rfl rfl rfl rfl (qsF_s_uint8 w3 _ 1 _ _ _ _ _ _ bxI rfl) ?_
                      rintro wa14 ⟨fa14, bxIx⟩
                      replace bx1 := bx1.fr fa14 (fun e => by omega)
                      replace hrc := Row.fr hrc fa14 (fun k hk e => Row.apart_typ hrc bxI (by decide) (hk.trans (congrArg some e)))
                      replace hrd := Row.fr hrd fa14 (fun k hk e => Row.apart_typ hrd bxI (by decide) (hk.trans (congrArg some e)))
                      replace hb := hb.frZ fa14 (fun q hq e => by omega)
                      replace hB := Nat.le_trans hB fa14.size
                      replace ff := ff.trans' fa14 (fun q hq e => by omega)
                      clear bxI
                      have bxI := bxIx
                      clear bxIx
                      refine WL.end ?_
                      refine Xw.nblk ?_
                      refine Xw.nrm ?_
                      refine TW.reg ?_
                      refine WL.op rfl rfl rfl (Go.Proofs.Ytcombjhkbjbncaa.W.quiet_move rfl rfl) ?_
                      refine WL.op rfl rfl rfl (Go.Proofs.Ytcombjhkbjbncaa.W.quiet_bin rfl rfl rfl (fun W => qb_add_int W _ _ _ _ (by omega) (by omega))) ?_
                      refine WL.op rfl rfl rfl (Go.Proofs.Ytcombjhkbjbncaa.W.quiet_assign rfl rfl) ?_
                      refine WL.end ?_
                      refine Xw.any (fun a k => ?_)
                      have hrs : xs ++ List.replicate (i + 1) 0 = xs ++ List.replicate i (0 : Int) ++ [0] := by rw [List.replicate_succ', List.append_assoc]
                      exact ⟨i + 1, by omega, by omega, da3, dc3, (by (repeat (refine Kn.cons k rfl ?_)); exact k.base), ff, bx1, by rw [hrs]; exact bxI, hrc, by rw [hrs]; exact hrd, hb, hB⟩
                    · skip
                      have hie : ((l.getD p 0) - 127).toNat = i := by have := of_decide_eq_false c1; omega
                      rw [← hie] at bxI hrd
                      refine WL.nil ?_
                      refine TW.cond rfl (fun hb => by cases hb) (fun _ => ?_)
                      refine TW.exit ?_
                      refine Xw.thn (by simp) ?_
                      refine Xw.thn (by simp) ?_
                      refine Xw.hit ?_
                      refine Xw.nrm ?_
                      refine TW.sreg ?_
                      refine WL.op rfl rfl rfl (Go.Proofs.Ytcombjhkbjbncaa.W.quiet_assign rfl rfl) ?_
                      refine WL.nil ?_
                      refine TW.block ?_
                      refine O.loopG (n := (min (l.getD p 0).toNat (l.length - (p + 1)))) (fun a _ => (intOf (a.tmps.getD 10 undef)).toNat) (fun i a W => ∃ (da : Option Addr) (dc : Nat), Kn Try.f13.ntmps [(0, .slice ba l.length bc), (2, .pointer (some ⟨w.heap.size, 0, none⟩)), (3, .int .i64 (atL l 4)), (4, .int .i64 (atL l 8)), (5, .pointer (some ⟨gI, 0, none⟩)), (7, .int .i64 ((p + 1 + i : Nat) : Int)), (8, .int .i64 (l.getD p 0)), (10, .int .i64 (i : Int))] a ∧ Fr (fun _ => False) w W ∧ Bx W w.heap.size #[.slice none 0 0, .slice none 0 0, .int .i64 0, .int .i64 0, .bool false] 36 ∧ Bx W gI #[.slice ca (wordsL l (atL l 4).toNat).length cc, .slice da ((xs ++ List.replicate ((l.getD p 0) - 127).toNat 0 ++ (l.drop (p + 1)).take i)).length dc, .int .i64 (268435456 + atL l 12), .int .i64 (atL l 16)] 25 ∧ R32 B W (.slice ca (wordsL l (atL l 4).toNat).length cc) (wordsL l (atL l 4).toNat) ∧ R8 B W (.slice da ((xs ++ List.replicate ((l.getD p 0) - 127).toNat 0 ++ (l.drop (p + 1)).take i)).length dc) ((xs ++ List.replicate ((l.getD p 0) - 127).toNat 0 ++ (l.drop (p + 1)).take i)) ∧ NumAt .u8 w.heap.size W ba l ∧ B ≤ W.heap.size ∧ (127 < (l.getD p 0) → i = 0)) (fun i a W h => by obtain ⟨_, _, h⟩ := h; exact O.slotv h.1 rfl) 0 (Nat.zero_le _) (fun a k => ⟨da, dc, (by (repeat (refine Kn.cons k rfl ?_)); exact k.base), ff, bx1, by rw [List.take_zero, List.append_nil]; exact bxI, hrc, by rw [List.take_zero, List.append_nil]; exact hrd, hb, hB, fun _ => rfl⟩) ?_
                      rintro i a wc hj ⟨da, dc, k, ff, bx1, bxI, hrc, hrd, hb, hB, h127⟩
                      refine TW.app (s := [(0, .slice ba l.length bc), (2, .pointer (some ⟨w.heap.size, 0, none⟩)), (3, .int .i64 (atL l 4)), (4, .int .i64 (atL l 8)), (5, .pointer (some ⟨gI, 0, none⟩)), (7, .int .i64 ((p + 1 + i : Nat) : Int)), (8, .int .i64 (l.getD p 0)), (10, .int .i64 (i : Int))]) ?_ k
                      refine TW.seq ?_
                      refine TW.sreg ?_
                      refine WL.op rfl rfl rfl (Go.Proofs.Ytcombjhkbjbncaa.W.quiet_move rfl rfl) ?_
                      refine WL.op rfl rfl rfl (Go.Proofs.Ytcombjhkbjbncaa.W.quiet_bin rfl rfl rfl (fun W => qb_leq_int W _ _ _ _)) ?_
                      refine O.split (fun d1 => ?_) (fun d1 => ?_)
                      · skip
                        refine WL.op rfl rfl rfl (Go.Proofs.Ytcombjhkbjbncaa.W.quiet_move rfl rfl) ?_
                        refine WL.op rfl rfl rfl (Go.Proofs.Ytcombjhkbjbncaa.W.quiet_move rfl rfl) ?_
                        refine WL.op rfl rfl rfl (Go.Proofs.Ytcombjhkbjbncaa.W.quiet_move rfl rfl) ?_
                        refine WL.op rfl rfl rfl (Go.Proofs.Ytcombjhkbjbncaa.W.quiet_bin rfl rfl rfl (fun W => qb_lss_int W _ _ _ _)) ?_
                        refine O.split (fun d2 => ?_) (fun d2 => ?_)
                        · skip
                          refine WL.op rfl rfl rfl (Go.Proofs.Ytcombjhkbjbncaa.W.quiet_pick rfl rfl rfl) ?_
                          refine WL.op rfl rfl rfl (Go.Proofs.Ytcombjhkbjbncaa.W.quiet_move rfl rfl) ?_
                          refine WL.op rfl rfl rfl (Go.Proofs.Ytcombjhkbjbncaa.W.quiet_move rfl rfl) ?_
                          refine WL.op rfl rfl rfl (Go.Proofs.Ytcombjhkbjbncaa.W.quiet_move rfl rfl) ?_
                          refine O.len rfl rfl rfl rfl rfl (qn_s_uint8 _ _ _ _) ?_
                          refine WL.op rfl rfl rfl (Go.Proofs.Ytcombjhkbjbncaa.W.quiet_bin rfl rfl rfl (fun W => qb_lss_int W _ _ _ _)) ?_
                          refine O.split (fun d3 => ?_) (fun d3 => ?_)
                          · skip
                            have hn3 : (l.getD p 0) ≤ 127 := of_decide_eq_true d1
                            have hi3 : (i : Int) < (l.getD p 0) := of_decide_eq_true d2
                            have hk2 : p + 1 + i < l.length := by have := of_decide_eq_true d3; omega
                            have hzw := ff.size
                            refine WL.op rfl rfl rfl (Go.Proofs.Ytcombjhkbjbncaa.W.quiet_pick rfl rfl rfl) ?_
                            refine WL.nil ?_
                            refine TW.cond rfl (fun _ => ?_) (fun hb => by cases hb)
                            refine TW.skip ?_
                            refine TW.seq ?_
                            refine TW.block ?_
                            have hb0 := hb
                            obtain ⟨gb, ob, hab, hgz, hcb⟩ := hb (p + 1 + i) hk2
                            have hrd0 := hrd
                            refine TW.sregH (fun W => Fr (fun q => q = gI ∨ (Value.slice da (xs ++ List.replicate ((l.getD p 0) - 127).toNat 0 ++ (l.drop (p + 1)).take i).length dc).ownBlock = some q) wc W) (by kernel_rfl) ?_
                            have fd : Fr (fun _ => False) wc wc.drew := (Fr.refl _ _).drewN 1
                            have HW : Fr (fun q => q = gI ∨ (Value.slice da (xs ++ List.replicate ((l.getD p 0) - 127).toNat 0 ++ (l.drop (p + 1)).take i).length dc).ownBlock = some q) wc wc.drew := (Fr.refl _ _).drewN 1
                            replace bx1 := bx1.fr fd id
                            replace bxI := bxI.fr fd id
                            replace hrc := Row.fr hrc fd (fun _ _ => id)
                            replace hrd := Row.fr hrd fd (fun _ _ => id)
                            replace hb := hb.fr fd
                            replace hB := Nat.le_trans hB fd.size
                            replace ff := ff.trans fd
                            generalize hV : wc.drew = V2 at *
                            clear hV
                            refine WH.take 0 rfl (by kernel_rfl) (by kernel_rfl) (by kernel_rfl) (fun _ _ _ _ _ h => h) rfl rfl rfl HW (RH.field rfl rfl (fun W => qa_api_Image_1 W _ _)) ?_
                            refine WH.take 2 rfl (by kernel_rfl) (by kernel_rfl) (by kernel_rfl) (fun _ _ _ _ _ h => h) rfl rfl rfl HW (RH.move rfl rfl) ?_
                            refine WH.take 3 rfl (by kernel_rfl) (by kernel_rfl) (by kernel_rfl) (fun _ _ _ _ _ h => h) rfl rfl rfl HW (RH.move rfl rfl) ?_
                            refine WH.take 4 rfl (by kernel_rfl) (by kernel_rfl) (by kernel_rfl) (fun _ _ _ _ _ h => h) rfl rfl rfl HW (RH.index rfl rfl rfl (fun W => (by rw [hab]; exact qi_s_uint8 _ _ _ _ _ _ (by omega)))) ?_
                            refine WH.take 5 rfl (by kernel_rfl) (by kernel_rfl) (by kernel_rfl) (fun _ _ _ _ _ h => h) rfl rfl rfl HW (RH.load rfl rfl (fun W hW => (ql_uint8 _ _ _ (hW.cell hcb (fun e => e.elim (fun e => by simp only at e; omega) (fun e => by have := (Row.lt hrd0 _ e).1; simp only at this; omega)))))) ?_
                            refine WH.two 1 6 (by kernel_rfl) rfl rfl ?_ ?_ 
                            · skip
                              refine WL.ld rfl rfl rfl rfl rfl (ql_s_uint8 _ _ _ _ _ (bxI.cell (j := 1) rfl)) ?_
                              refine WL.fin HW ?_
                              refine WH.one 6 (by kernel_rfl) rfl ?_ 
                              refine O.bsl rfl rfl rfl rfl rfl (qv_s_uint8_1 _ _) ?_
                              refine WL.fin (fr_al HW _) ?_
                              refine WH.one 7 (by kernel_rfl) rfl ?_ 
                              refine WL.append rfl rfl rfl rfl rfl rfl (R8.app1 (l.getD (p + 1 + i) 0) _ hrd (by omega) (by simp only [List.length_append, List.length_replicate, List.length_take]; omega)) ?_
                              rintro v3 w3 ⟨hv3, hF3, ho3⟩
                              have hvk := fun k hk => (Row.lt hrd k hk).1
                              replace HW := HW.trans' hF3 (fun q hq e => .inr e)
                              replace ff := ff.trans' hF3 (fun q hq e => by have := hvk q e; omega)
                              replace bx1 := bx1.fr hF3 (fun e => by have := hvk _ e; omega)
                              have neI := Row.apart_typ hrd bxI (by decide)
                              replace bxI := Bx.fr bxI hF3 neI
                              replace hrc := Row.fr hrc hF3 (fun k hk e => rows_ne hrd hrc k e hk)
                              replace hb := hb.frZ hF3 (fun q hq e => by have := hvk q e; omega)
                              replace hB := Nat.le_trans hB hF3.size
                              clear hrd
                              have hrd := hv3
                              obtain ⟨da3, dc3, rfl⟩ := Row.form hrd
                              -- world w3
                              refine WL.fin HW ?_
                              refine WH.take 8 rfl (by kernel_rfl) (by kernel_rfl) (by kernel_rfl) (fun _ _ _ _ _ h => h) rfl rfl rfl HW (RH.field rfl rfl (fun W => qa_api_Image_1 W _ _)) ?_
                              refine WH.one 9 (by kernel_rfl) rfl ?_ 
                              refine O.storeR rfl rfl rfl rfl rfl (qsF_s_uint8 w3 _ 1 _ _ _ _ _ _ bxI rfl) ?_
                              rintro wa15 ⟨fa15, bxIx⟩
                              replace bx1 := bx1.fr fa15 (fun e => by omega)
                              replace hrc := Row.fr hrc fa15 (fun k hk e => Row.apart_typ hrc bxI (by decide) (hk.trans (congrArg some e)))
                              replace hrd := Row.fr hrd fa15 (fun k hk e => Row.apart_typ hrd bxI (by decide) (hk.trans (congrArg some e)))
                              replace hb := hb.frZ fa15 (fun q hq e => by omega)
                              replace hB := Nat.le_trans hB fa15.size
                              replace HW := HW.trans' fa15 (fun q hq e => .inl e)
                              replace ff := ff.trans' fa15 (fun q hq e => by omega)
                              clear bxI
                              have bxI := bxIx
                              clear bxIx
                              refine WL.fin HW ?_
                              refine WH.done (by kernel_rfl) ?_
                              refine TW.reg ?_
                              refine WL.op rfl rfl rfl (Go.Proofs.Ytcombjhkbjbncaa.W.quiet_move rfl rfl) ?_
                              refine WL.op rfl rfl rfl (Go.Proofs.Ytcombjhkbjbncaa.W.quiet_bin rfl rfl rfl (fun W => qb_add_int W _ _ _ _ (by omega) (by omega))) ?_
                              refine WL.op rfl rfl rfl (Go.Proofs.Ytcombjhkbjbncaa.W.quiet_assign rfl rfl) ?_
                              refine WL.end ?_
                              refine Xw.nblk ?_
                              refine Xw.nrm ?_
                              refine TW.reg ?_
                              refine WL.op rfl rfl rfl (Go.Proofs.Ytcombjhkbjbncaa.W.quiet_move rfl rfl) ?_
                              refine WL.op rfl rfl rfl (Go.Proofs.Ytcombjhkbjbncaa.W.quiet_bin rfl rfl rfl (fun W => qb_add_int W _ _ _ _ (by omega) (by omega))) ?_
                              refine WL.op rfl rfl rfl (Go.Proofs.Ytcombjhkbjbncaa.W.quiet_assign rfl rfl) ?_
                              refine WL.end ?_
                              refine Xw.any (fun a k => ?_)
                              have hrs : xs ++ List.replicate ((l.getD p 0) - 127).toNat 0 ++ (l.drop (p + 1)).take (i + 1) = xs ++ List.replicate ((l.getD p 0) - 127).toNat 0 ++ (l.drop (p + 1)).take i ++ [l.getD (p + 1 + i) 0] := by rw [takes (show i < (l.drop (p + 1)).length by rw [List.length_drop]; omega), ← List.append_assoc, drop_get]
                              exact ⟨i + 1, by omega, by omega, da3, dc3, (by (repeat (refine Kn.cons k rfl ?_)); exact k.base), ff, bx1, by rw [hrs]; exact bxI, hrc, by rw [hrs]; exact hrd, hb, hB, fun h => absurd h (by omega)⟩
                            · skip
                              refine O.bsl rfl rfl rfl rfl rfl (qv_s_uint8_1 _ _) ?_
                              refine WL.fin (fr_al HW _) ?_
                              refine WH.one 1 (by kernel_rfl) rfl ?_ 
                              refine WL.ld rfl rfl rfl rfl rfl (ql_s_uint8 _ _ _ _ _ ((bxI.fr (fr_al (Fr.refl (fun _ => False) _) _) id).cell (j := 1) rfl)) ?_
                              refine WL.fin (fr_al HW _) ?_
                              refine WH.one 7 (by kernel_rfl) rfl ?_ 
                              refine WL.append rfl rfl rfl rfl rfl rfl (R8.app1 (l.getD (p + 1 + i) 0) _ hrd (by omega) (by simp only [List.length_append, List.length_replicate, List.length_take]; omega)) ?_
                              rintro v3 w3 ⟨hv3, hF3, ho3⟩
                              have hvk := fun k hk => (Row.lt hrd k hk).1
                              replace HW := HW.trans' hF3 (fun q hq e => .inr e)
                              replace ff := ff.trans' hF3 (fun q hq e => by have := hvk q e; omega)
                              replace bx1 := bx1.fr hF3 (fun e => by have := hvk _ e; omega)
                              have neI := Row.apart_typ hrd bxI (by decide)
                              replace bxI := Bx.fr bxI hF3 neI
                              replace hrc := Row.fr hrc hF3 (fun k hk e => rows_ne hrd hrc k e hk)
                              replace hb := hb.frZ hF3 (fun q hq e => by have := hvk q e; omega)
                              replace hB := Nat.le_trans hB hF3.size
                              clear hrd
                              have hrd := hv3
                              obtain ⟨da3, dc3, rfl⟩ := Row.form hrd
                              -- world w3
                              refine WL.fin HW ?_
                              refine WH.take 8 rfl (by kernel_rfl) (by kernel_rfl) (by kernel_rfl) (fun _ _ _ _ _ h => h) rfl rfl rfl HW (RH.field rfl rfl (fun W => qa_api_Image_1 W _ _)) ?_
                              refine WH.one 9 (by kernel_rfl) rfl ?_ 
                              refine O.storeR rfl rfl rfl rfl rfl (qsF_s_uint8 w3 _ 1 _ _ _ _ _ _ bxI rfl) ?_
                              rintro wa16 ⟨fa16, bxIx⟩
                              replace bx1 := bx1.fr fa16 (fun e => by omega)
                              replace hrc := Row.fr hrc fa16 (fun k hk e => Row.apart_typ hrc bxI (by decide) (hk.trans (congrArg some e)))
                              replace hrd := Row.fr hrd fa16 (fun k hk e => Row.apart_typ hrd bxI (by decide) (hk.trans (congrArg some e)))
                              replace hb := hb.frZ fa16 (fun q hq e => by omega)
                              replace hB := Nat.le_trans hB fa16.size
                              replace HW := HW.trans' fa16 (fun q hq e => .inl e)
                              replace ff := ff.trans' fa16 (fun q hq e => by omega)
                              clear bxI
                              have bxI := bxIx
                              clear bxIx
                              refine WL.fin HW ?_
                              refine WH.done (by kernel_rfl) ?_
                              refine TW.reg ?_
                              refine WL.op rfl rfl rfl (Go.Proofs.Ytcombjhkbjbncaa.W.quiet_move rfl rfl) ?_
                              refine WL.op rfl rfl rfl (Go.Proofs.Ytcombjhkbjbncaa.W.quiet_bin rfl rfl rfl (fun W => qb_add_int W _ _ _ _ (by omega) (by omega))) ?_
                              refine WL.op rfl rfl rfl (Go.Proofs.Ytcombjhkbjbncaa.W.quiet_assign rfl rfl) ?_
                              refine WL.end ?_
                              refine Xw.nblk ?_
                              refine Xw.nrm ?_
                              refine TW.reg ?_
                              refine WL.op rfl rfl rfl (Go.Proofs.Ytcombjhkbjbncaa.W.quiet_move rfl rfl) ?_
                              refine WL.op rfl rfl rfl (Go.Proofs.Ytcombjhkbjbncaa.W.quiet_bin rfl rfl rfl (fun W => qb_add_int W _ _ _ _ (by omega) (by omega))) ?_
                              refine WL.op rfl rfl rfl (Go.Proofs.Ytcombjhkbjbncaa.W.quiet_assign rfl rfl) ?_
                              refine WL.end ?_
                              refine Xw.any (fun a k => ?_)
                              have hrs : xs ++ List.replicate ((l.getD p 0) - 127).toNat 0 ++ (l.drop (p + 1)).take (i + 1) = xs ++ List.replicate ((l.getD p 0) - 127).toNat 0 ++ (l.drop (p + 1)).take i ++ [l.getD (p + 1 + i) 0] := by rw [takes (show i < (l.drop (p + 1)).length by rw [List.length_drop]; omega), ← List.append_assoc, drop_get]
                              exact ⟨i + 1, by omega, by omega, da3, dc3, (by (repeat (refine Kn.cons k rfl ?_)); exact k.base), ff, bx1, by rw [hrs]; exact bxI, hrc, by rw [hrs]; exact hrd, hb, hB, fun h => absurd h (by omega)⟩
                          · skip
                            have hfin : 127 < (l.getD p 0) ∨ i = min (l.getD p 0).toNat (l.length - (p + 1)) := .inr (by have := of_decide_eq_false d3; have := of_decide_eq_true d2; omega)
                            obtain ⟨f, hf1, hf2⟩ := hrel
                            have hp0 : (l.drop p).getD 0 0 = (l.getD p 0) := by rw [drop_get, Nat.add_zero]
                            obtain ⟨f9, hz9, ho9⟩ := rrF_step hsz (by rw [List.length_drop]; omega) hf1
                            rw [hp0] at hz9 ho9
                            simp only [drops] at hz9 ho9
                            have hrel9 : ∃ f, (l.drop (p + 1 + i)).length ≤ f ∧ rrF f (atL l 8).toNat (xs ++ List.replicate ((l.getD p 0) - 127).toNat 0 ++ (l.drop (p + 1)).take i) (l.drop (p + 1 + i)) = (imgR l).data := by
                              by_cases h1 : 127 < l.getD p 0
                              · obtain ⟨q1, q2⟩ := hz9 h1
                                have hi0 := h127 h1
                                subst hi0
                                refine ⟨f9, q1, ?_⟩
                                rw [← hf2, q2, List.take_zero, List.append_nil, Nat.add_zero]
                              · obtain ⟨q1, q2⟩ := ho9 h1
                                have hi0 : i = min (l.getD p 0).toNat (l.length - (p + 1)) := hfin.elim (fun h => absurd h h1) id
                                have e1 : (l.drop (p + 1)).take i = (l.drop (p + 1)).take (l.getD p 0).toNat := by
                                  rcases Nat.le_total (l.getD p 0).toNat (l.length - (p + 1)) with h | h
                                  · rw [hi0, Nat.min_eq_left h]
                                  · rw [hi0, Nat.min_eq_right h, List.take_of_length_le (by rw [List.length_drop]; exact Nat.le_refl _), List.take_of_length_le (by rw [List.length_drop]; exact h)]
                                have e2 : l.drop (p + 1 + i) = l.drop (p + (1 + (l.getD p 0).toNat)) := by
                                  rcases Nat.le_total (l.getD p 0).toNat (l.length - (p + 1)) with h | h
                                  · rw [hi0, Nat.min_eq_left h, Nat.add_assoc]
                                  · rw [hi0, Nat.min_eq_right h, List.drop_of_length_le (by omega), List.drop_of_length_le (by omega)]
                                refine ⟨f9, by rw [e2]; exact q1, ?_⟩
                                rw [← hf2, q2, e2, e1, show (l.getD p 0 - 127).toNat = 0 by omega, List.replicate_zero, List.append_nil]
                            refine WL.op rfl rfl rfl (Go.Proofs.Ytcombjhkbjbncaa.W.quiet_pick rfl rfl rfl) ?_
                            refine WL.nil ?_
                            refine TW.cond rfl (fun hb => by cases hb) (fun _ => ?_)
                            refine TW.exit ?_
                            refine Xw.thn (by simp) ?_
                            refine Xw.thn (by simp) ?_
                            refine Xw.hit ?_
                            refine Xw.nblk ?_
                            refine Xw.any (fun a k => ?_)
                            exact ⟨p + 1 + i, by omega, by omega, (xs ++ List.replicate ((l.getD p 0) - 127).toNat 0 ++ (l.drop (p + 1)).take i), da, dc, (by (repeat (refine Kn.cons k rfl ?_)); exact k.base), ff, bx1, bxI, hrc, hrd, hb, hB, hrel9⟩
                        · skip
                          have hfin : 127 < (l.getD p 0) ∨ i = min (l.getD p 0).toNat (l.length - (p + 1)) := .inr (by have := of_decide_eq_false d2; omega)
                          obtain ⟨f, hf1, hf2⟩ := hrel
                          have hp0 : (l.drop p).getD 0 0 = (l.getD p 0) := by rw [drop_get, Nat.add_zero]
                          obtain ⟨f9, hz9, ho9⟩ := rrF_step hsz (by rw [List.length_drop]; omega) hf1
                          rw [hp0] at hz9 ho9
                          simp only [drops] at hz9 ho9
                          have hrel9 : ∃ f, (l.drop (p + 1 + i)).length ≤ f ∧ rrF f (atL l 8).toNat (xs ++ List.replicate ((l.getD p 0) - 127).toNat 0 ++ (l.drop (p + 1)).take i) (l.drop (p + 1 + i)) = (imgR l).data := by
                            by_cases h1 : 127 < l.getD p 0
                            · obtain ⟨q1, q2⟩ := hz9 h1
                              have hi0 := h127 h1
                              subst hi0
                              refine ⟨f9, q1, ?_⟩
                              rw [← hf2, q2, List.take_zero, List.append_nil, Nat.add_zero]
                            · obtain ⟨q1, q2⟩ := ho9 h1
                              have hi0 : i = min (l.getD p 0).toNat (l.length - (p + 1)) := hfin.elim (fun h => absurd h h1) id
                              have e1 : (l.drop (p + 1)).take i = (l.drop (p + 1)).take (l.getD p 0).toNat := by
                                rcases Nat.le_total (l.getD p 0).toNat (l.length - (p + 1)) with h | h
                                · rw [hi0, Nat.min_eq_left h]
                                · rw [hi0, Nat.min_eq_right h, List.take_of_length_le (by rw [List.length_drop]; exact Nat.le_refl _), List.take_of_length_le (by rw [List.length_drop]; exact h)]
                              have e2 : l.drop (p + 1 + i) = l.drop (p + (1 + (l.getD p 0).toNat)) := by
                                rcases Nat.le_total (l.getD p 0).toNat (l.length - (p + 1)) with h | h
                                · rw [hi0, Nat.min_eq_left h, Nat.add_assoc]
                                · rw [hi0, Nat.min_eq_right h, List.drop_of_length_le (by omega), List.drop_of_length_le (by omega)]
                              refine ⟨f9, by rw [e2]; exact q1, ?_⟩
                              rw [← hf2, q2, e2, e1, show (l.getD p 0 - 127).toNat = 0 by omega, List.replicate_zero, List.append_nil]
                          refine WL.op rfl rfl rfl (Go.Proofs.Ytcombjhkbjbncaa.W.quiet_pick rfl rfl rfl) ?_
                          refine WL.op rfl rfl rfl (Go.Proofs.Ytcombjhkbjbncaa.W.quiet_move rfl rfl) ?_
                          refine WL.skip rfl rfl rfl ?_
                          refine WL.skip rfl rfl rfl ?_
                          refine WL.skip rfl rfl rfl ?_
                          refine WL.skip rfl rfl rfl ?_
                          refine WL.op rfl rfl rfl (Go.Proofs.Ytcombjhkbjbncaa.W.quiet_pick rfl rfl rfl) ?_
                          refine WL.nil ?_
                          refine TW.cond rfl (fun hb => by cases hb) (fun _ => ?_)
                          refine TW.exit ?_
                          refine Xw.thn (by simp) ?_
                          refine Xw.thn (by simp) ?_
                          refine Xw.hit ?_
                          refine Xw.nblk ?_
                          refine Xw.any (fun a k => ?_)
                          exact ⟨p + 1 + i, by omega, by omega, (xs ++ List.replicate ((l.getD p 0) - 127).toNat 0 ++ (l.drop (p + 1)).take i), da, dc, (by (repeat (refine Kn.cons k rfl ?_)); exact k.base), ff, bx1, bxI, hrc, hrd, hb, hB, hrel9⟩
                      · skip
                        have hfin : 127 < (l.getD p 0) ∨ i = min (l.getD p 0).toNat (l.length - (p + 1)) := .inl (by have := of_decide_eq_false d1; omega)
                        obtain ⟨f, hf1, hf2⟩ := hrel
                        have hp0 : (l.drop p).getD 0 0 = (l.getD p 0) := by rw [drop_get, Nat.add_zero]
                        obtain ⟨f9, hz9, ho9⟩ := rrF_step hsz (by rw [List.length_drop]; omega) hf1
                        rw [hp0] at hz9 ho9
                        simp only [drops] at hz9 ho9
                        have hrel9 : ∃ f, (l.drop (p + 1 + i)).length ≤ f ∧ rrF f (atL l 8).toNat (xs ++ List.replicate ((l.getD p 0) - 127).toNat 0 ++ (l.drop (p + 1)).take i) (l.drop (p + 1 + i)) = (imgR l).data := by
                          by_cases h1 : 127 < l.getD p 0
                          · obtain ⟨q1, q2⟩ := hz9 h1
                            have hi0 := h127 h1
                            subst hi0
                            refine ⟨f9, q1, ?_⟩
                            rw [← hf2, q2, List.take_zero, List.append_nil, Nat.add_zero]
                          · obtain ⟨q1, q2⟩ := ho9 h1
                            have hi0 : i = min (l.getD p 0).toNat (l.length - (p + 1)) := hfin.elim (fun h => absurd h h1) id
                            have e1 : (l.drop (p + 1)).take i = (l.drop (p + 1)).take (l.getD p 0).toNat := by
                              rcases Nat.le_total (l.getD p 0).toNat (l.length - (p + 1)) with h | h
                              · rw [hi0, Nat.min_eq_left h]
                              · rw [hi0, Nat.min_eq_right h, List.take_of_length_le (by rw [List.length_drop]; exact Nat.le_refl _), List.take_of_length_le (by rw [List.length_drop]; exact h)]
                            have e2 : l.drop (p + 1 + i) = l.drop (p + (1 + (l.getD p 0).toNat)) := by
                              rcases Nat.le_total (l.getD p 0).toNat (l.length - (p + 1)) with h | h
                              · rw [hi0, Nat.min_eq_left h, Nat.add_assoc]
                              · rw [hi0, Nat.min_eq_right h, List.drop_of_length_le (by omega), List.drop_of_length_le (by omega)]
                            refine ⟨f9, by rw [e2]; exact q1, ?_⟩
                            rw [← hf2, q2, e2, e1, show (l.getD p 0 - 127).toNat = 0 by omega, List.replicate_zero, List.append_nil]
                        refine WL.op rfl rfl rfl (Go.Proofs.Ytcombjhkbjbncaa.W.quiet_move rfl rfl) ?_
                        refine WL.skip rfl rfl rfl ?_
                        refine WL.skip rfl rfl rfl ?_
                        refine WL.skip rfl rfl rfl ?_
                        refine WL.op rfl rfl rfl (Go.Proofs.Ytcombjhkbjbncaa.W.quiet_pick rfl rfl rfl) ?_
                        refine WL.op rfl rfl rfl (Go.Proofs.Ytcombjhkbjbncaa.W.quiet_move rfl rfl) ?_
                        refine WL.skip rfl rfl rfl ?_
                        refine WL.skip rfl rfl rfl ?_
                        refine WL.skip rfl rfl rfl ?_
                        refine WL.skip rfl rfl rfl ?_
                        refine WL.op rfl rfl rfl (Go.Proofs.Ytcombjhkbjbncaa.W.quiet_pick rfl rfl rfl) ?_
                        refine WL.nil ?_
                        refine TW.cond rfl (fun hb => by cases hb) (fun _ => ?_)
                        refine TW.exit ?_
                        refine Xw.thn (by simp) ?_
                        refine Xw.thn (by simp) ?_
                        refine Xw.hit ?_
                        refine Xw.nblk ?_
                        refine Xw.any (fun a k => ?_)
                        exact ⟨p + 1 + i, by omega, by omega, (xs ++ List.replicate ((l.getD p 0) - 127).toNat 0 ++ (l.drop (p + 1)).take i), da, dc, (by (repeat (refine Kn.cons k rfl ?_)); exact k.base), ff, bx1, bxI, hrc, hrd, hb, hB, hrel9⟩
                  · skip
                    have hdone : (atL l 8).toNat ≤ xs.length ∨ l.drop p = [] := .inl (by have := of_decide_eq_false f2; omega)
                    obtain ⟨f, hf1, hf2⟩ := hrel
                    have hxs : xs = (imgR l).data := by rw [← hf2, rrF_done hdone]
                    subst hxs
                    have hrc : R32 B wd (.slice ca (imgR l).code.length cc) (imgR l).code := hrc
                    have hrd : R8 B wd (.slice da (imgR l).data.length dc) (imgR l).data := hrd
                    have hBd := hB
                    have bxI : Bx wd gI #[.slice ca (imgR l).code.length cc, .slice da (imgR l).data.length dc, .int .i64 (imgR l).lim, .int .i64 (imgR l).notes] 25 := bxI
                    have hli : (imgR l).lim ≤ 9223372036854775807 := by show 268435456 + atL l 12 ≤ _; have := atL_in hbyt 12; omega
                    refine WL.op rfl rfl rfl (Go.Proofs.Ytcombjhkbjbncaa.W.quiet_pick rfl rfl rfl) ?_
                    refine WL.nil ?_
                    refine TW.cond rfl (fun hb => by cases hb) (fun _ => ?_)
                    refine TW.exit ?_
                    refine Xw.thn (by simp) ?_
                    refine Xw.thn (by simp) ?_
                    refine Xw.hit ?_
                    refine Xw.nrm ?_
                    refine TW.seq ?_
                    refine TW.sreg ?_
                    refine WL.ld rfl rfl rfl rfl rfl (qlB_api_Image _ _ _ _ _ _ _ _ _ _ _ bxI) ?_
                    refine WL.call (hr := (t_rright ca da cc dc (imgR l) hli _)) rfl rfl rfl rfl rfl (fun W => qk_rushlightref32_Right W _) ?_
                    rintro e w7 ⟨bR, rfl, hbR, f7⟩
                    refine ⟨_, rfl, ?_⟩
                    replace bx1 := bx1.fr f7 id
                    replace bxI := bxI.fr f7 id
                    replace hrc := Row.fr hrc f7 (fun _ _ => id)
                    replace hrd := Row.fr hrd f7 (fun _ _ => id)
                    replace hb := hb.fr f7
                    replace hB := Nat.le_trans hB f7.size
                    replace ff := ff.trans f7
                    refine O.split (fun hbt => ?_) (fun hbt => ?_)
                    · skip
                      have hok := hbR.1 hbt
                      refine WL.op rfl rfl rfl (Go.Proofs.Ytcombjhkbjbncaa.W.quiet_not rfl rfl) ?_
                      refine WL.nil ?_
                      refine TW.cond rfl (fun hb => by cases hb) (fun _ => ?_)
                      refine TW.skip ?_
                      refine TW.sreg ?_
                      refine WL.ld rfl rfl rfl rfl rfl (qlB_api_Image _ _ _ _ _ _ _ _ _ _ _ bxI) ?_
                      have hB7 := hB
                      refine WL.call (hr := (t_rencode ca da cc dc (imgR l) (imgR_wf hbyt) hok _ (Row.num hrc) (Row.num hrd))) rfl rfl rfl rfl rfl (fun W => qk_rushlightref32_Encode W _) ?_
                      rintro e w8 ⟨vE, rfl, hvE, f8⟩
                      refine ⟨_, rfl, ?_⟩
                      replace bx1 := bx1.fr f8 id
                      replace bxI := bxI.fr f8 id
                      replace hrc := Row.fr hrc f8 (fun _ _ => id)
                      replace hrd := Row.fr hrd f8 (fun _ _ => id)
                      replace hb := hb.fr f8
                      replace hB := Nat.le_trans hB f8.size
                      replace ff := ff.trans f8
                      obtain ⟨va, vc, rfl⟩ := Row.form hvE
                      have hrv : R8 B w8 (.slice va (enc (imgR l)).length vc) (enc (imgR l)) := Row.base hvE (fun k hk => by have := (Row.lt hvE k hk).1; omega)
                      refine WL.op rfl rfl rfl (Go.Proofs.Ytcombjhkbjbncaa.W.quiet_assign rfl rfl) ?_
                      refine WL.nil ?_
                      refine TW.seq ?_
                      refine TW.sreg ?_
                      refine WL.op rfl rfl rfl (Go.Proofs.Ytcombjhkbjbncaa.W.quiet_move rfl rfl) ?_
                      refine O.len rfl rfl rfl rfl rfl (qn_s_uint8 _ _ _ _) ?_
                      refine WL.op rfl rfl rfl (Go.Proofs.Ytcombjhkbjbncaa.W.quiet_move rfl rfl) ?_
                      refine O.len rfl rfl rfl rfl rfl (qn_s_uint8 _ _ _ _) ?_
                      refine WL.op rfl rfl rfl (Go.Proofs.Ytcombjhkbjbncaa.W.quiet_bin rfl rfl rfl (fun W => qb_neq_int W _ _ _ _)) ?_
                      refine O.split (fun hl9 => ?_) (fun hl9 => ?_)
                      · skip
                        refine WL.nil ?_
                        refine TW.cond rfl (fun _ => ?_) (fun hb => by cases hb)
                        refine TW.sreg ?_
                        refine O.bld rfl rfl rfl rfl rfl (qd_rushlightref32_Read_ _) ?_
                        refine O.storeR rfl rfl rfl rfl rfl (qsA_rushlightref32_Read w8 _ _ _ _ _ _ _ _ _ _ _ _ _ _ _ bx1) ?_
                        rintro wa17 ⟨fa17, bx1x⟩
                        replace bxI := bxI.fr fa17 (fun e => by omega)
                        replace hrc := Row.fr hrc fa17 (fun k hk e => Row.apart_typ hrc bx1 (by decide) (hk.trans (congrArg some e)))
                        replace hrd := Row.fr hrd fa17 (fun k hk e => Row.apart_typ hrd bx1 (by decide) (hk.trans (congrArg some e)))
                        replace hb := hb.frZ fa17 (fun q hq e => by omega)
                        replace hrv := Row.fr hrv fa17 (fun k hk e => Row.apart_typ hrv bx1 (by decide) (hk.trans (congrArg some e)))
                        replace ff := ff.trans' fa17 (fun q hq e => by omega)
                        clear bx1
                        have bx1 := bx1x
                        clear bx1x
                        refine WL.nil ?_
                        refine TW.rt ?_
                        refine Xw.thn (by simp) ?_
                        refine O.retc1 rfl rfl (run_loadVar_row _ _ _ 36 _ _ _ bx1 Try.underlying36 rfl (by kernel_rfl)) ?_
                        exact .inr ⟨fun g h => (fun q => by have := congrArg List.length q.2.2.2; simp at hl9; omega) ((isR_iff hbyt g).1 h), rfl, ff⟩
                      · skip
                        have helen : (enc (imgR l)).length = l.length := by simp at hl9; omega
                        refine WL.nil ?_
                        refine TW.cond rfl (fun hb => by cases hb) (fun _ => ?_)
                        refine TW.skip ?_
                        refine TW.seq ?_
                        refine TW.sreg ?_
                        refine WL.op rfl rfl rfl (Go.Proofs.Ytcombjhkbjbncaa.W.quiet_assign rfl rfl) ?_
                        refine WL.nil ?_
                        refine TW.block ?_
                        refine O.loopG (n := l.length) (fun a _ => (intOf (a.tmps.getD 12 undef)).toNat) (fun j a W => Kn Try.f13.ntmps [(0, .slice ba l.length bc), (2, .pointer (some ⟨w.heap.size, 0, none⟩)), (5, .pointer (some ⟨gI, 0, none⟩)), (11, .slice va (enc (imgR l)).length vc), (12, .int .i64 (j : Int))] a ∧ Fr (fun _ => False) w W ∧ Bx W w.heap.size #[.slice none 0 0, .slice none 0 0, .int .i64 0, .int .i64 0, .bool false] 36 ∧ Bx W gI #[.slice ca (imgR l).code.length cc, .slice da (imgR l).data.length dc, .int .i64 (imgR l).lim, .int .i64 (imgR l).notes] 25 ∧ R32 B W (.slice ca (imgR l).code.length cc) (imgR l).code ∧ R8 B W (.slice da (imgR l).data.length dc) (imgR l).data ∧ R8 B W (.slice va (enc (imgR l)).length vc) (enc (imgR l)) ∧ NumAt .u8 w.heap.size W ba l ∧ ∀ i, i < j → (enc (imgR l)).getD i 0 = l.getD i 0) (fun j a W h => O.slotv h.1 rfl) 0 (Nat.zero_le _) (fun a k => ⟨(by (repeat (refine Kn.cons k rfl ?_)); exact k.base), ff, bx1, bxI, hrc, hrd, hrv, hb, fun i hi => absurd hi (by omega)⟩) ?_
                        rintro j a we hj ⟨k, ff, bx1, bxI, hrc, hrd, hrv, hb, hsame⟩
                        refine TW.app (s := [(0, .slice ba l.length bc), (2, .pointer (some ⟨w.heap.size, 0, none⟩)), (5, .pointer (some ⟨gI, 0, none⟩)), (11, .slice va (enc (imgR l)).length vc), (12, .int .i64 (j : Int))]) ?_ k
                        refine TW.seq ?_
                        refine TW.sreg ?_
                        refine WL.op rfl rfl rfl (Go.Proofs.Ytcombjhkbjbncaa.W.quiet_move rfl rfl) ?_
                        refine WL.op rfl rfl rfl (Go.Proofs.Ytcombjhkbjbncaa.W.quiet_move rfl rfl) ?_
                        refine O.len rfl rfl rfl rfl rfl (qn_s_uint8 _ _ _ _) ?_
                        refine WL.op rfl rfl rfl (Go.Proofs.Ytcombjhkbjbncaa.W.quiet_bin rfl rfl rfl (fun W => qb_lss_int W _ _ _ _)) ?_
                        refine O.split (fun e1 => ?_) (fun e1 => ?_)
                        · skip
                          have hj2 : j < l.length := by have := of_decide_eq_true e1; omega
                          obtain ⟨gb, ob, rfl, _, hcb⟩ := hb j hj2
                          obtain ⟨gv, ov, rfl, _, hcv⟩ := (Row.num hrv) j (by rw [helen]; exact hj2)
                          refine WL.nil ?_
                          refine TW.cond rfl (fun _ => ?_) (fun hb => by cases hb)
                          refine TW.skip ?_
                          refine TW.seq ?_
                          refine TW.block ?_
                          refine Q.sreg (C := fun W => Fr (fun _ => False) we W) (by kernel_rfl) (by kernel_rfl) (fun W h => h.drewN 1) (Fr.refl _ _) ?_
                          refine W.op rfl rfl rfl (Go.Proofs.Ytcombjhkbjbncaa.W.quiet_move rfl rfl) ?_
                          refine W.op rfl rfl rfl (Go.Proofs.Ytcombjhkbjbncaa.W.quiet_move rfl rfl) ?_
                          refine W.op rfl rfl rfl (Go.Proofs.Ytcombjhkbjbncaa.W.quiet_index rfl rfl rfl (fun W => (qi_s_uint8 _ _ _ _ _ _ (by rw [helen]; omega)))) ?_
                          refine W.op rfl rfl rfl (Go.Proofs.Ytcombjhkbjbncaa.W.quiet_load rfl rfl (fun W hW => (ql_uint8 _ _ _ (hW.cell hcv id)))) ?_
                          refine W.op rfl rfl rfl (Go.Proofs.Ytcombjhkbjbncaa.W.quiet_move rfl rfl) ?_
                          refine W.op rfl rfl rfl (Go.Proofs.Ytcombjhkbjbncaa.W.quiet_move rfl rfl) ?_
                          refine W.op rfl rfl rfl (Go.Proofs.Ytcombjhkbjbncaa.W.quiet_index rfl rfl rfl (fun W => (qi_s_uint8 _ _ _ _ _ _ (by omega)))) ?_
                          refine W.op rfl rfl rfl (Go.Proofs.Ytcombjhkbjbncaa.W.quiet_load rfl rfl (fun W hW => (ql_uint8 _ _ _ (hW.cell hcb id)))) ?_
                          refine W.op rfl rfl rfl (Go.Proofs.Ytcombjhkbjbncaa.W.quiet_bin rfl rfl rfl (fun W => qb_neq_uint8 W _ _ _ _)) ?_
                          refine Q.split (fun e2 => ?_) (fun e2 => ?_)
                          · skip
                            refine Q.nil (T.tw fun wq1 fq1 => ?_)
                            replace bx1 := bx1.fr fq1 id
                            replace bxI := bxI.fr fq1 id
                            replace hrc := Row.fr hrc fq1 (fun _ _ => id)
                            replace hrd := Row.fr hrd fq1 (fun _ _ => id)
                            replace hrv := Row.fr hrv fq1 (fun _ _ => id)
                            replace hb := hb.fr fq1
                            replace ff := ff.trans fq1
                            refine TW.cond rfl (fun _ => ?_) (fun hb => by cases hb)
                            refine TW.sreg ?_
                            refine O.bld rfl rfl rfl rfl rfl (qd_rushlightref32_Read_ _) ?_
                            refine O.storeR rfl rfl rfl rfl rfl (qsA_rushlightref32_Read wq1 _ _ _ _ _ _ _ _ _ _ _ _ _ _ _ bx1) ?_
                            rintro wa18 ⟨fa18, bx1x⟩
                            replace bxI := bxI.fr fa18 (fun e => by omega)
                            replace hrc := Row.fr hrc fa18 (fun k hk e => Row.apart_typ hrc bx1 (by decide) (hk.trans (congrArg some e)))
                            replace hrd := Row.fr hrd fa18 (fun k hk e => Row.apart_typ hrd bx1 (by decide) (hk.trans (congrArg some e)))
                            replace hb := hb.frZ fa18 (fun q hq e => by omega)
                            replace ff := ff.trans' fa18 (fun q hq e => by omega)
                            clear bx1
                            have bx1 := bx1x
                            clear bx1x
                            refine WL.nil ?_
                            refine TW.rt ?_
                            refine Xw.rblk ?_
                            refine Xw.thn (by simp) ?_
                            refine Xw.thn (by simp) ?_
                            refine Xw.rblk ?_
                            refine Xw.thn (by simp) ?_
                            refine O.retc1 rfl rfl (run_loadVar_row _ _ _ 36 _ _ _ bx1 Try.underlying36 rfl (by kernel_rfl)) ?_
                            exact .inr ⟨fun g h => (fun q => by have := q.2.2.2; rw [this] at e2; simp at e2) ((isR_iff hbyt g).1 h), rfl, ff⟩
                          · skip
                            refine Q.nil (T.tw fun wq2 fq2 => ?_)
                            replace bx1 := bx1.fr fq2 id
                            replace bxI := bxI.fr fq2 id
                            replace hrc := Row.fr hrc fq2 (fun _ _ => id)
                            replace hrd := Row.fr hrd fq2 (fun _ _ => id)
                            replace hrv := Row.fr hrv fq2 (fun _ _ => id)
                            replace hb := hb.fr fq2
                            replace ff := ff.trans fq2
                            refine TW.cond rfl (fun hb => by cases hb) (fun _ => ?_)
                            refine TW.skipx ?_
                            refine Xw.nblk ?_
                            refine Xw.nrm ?_
                            refine TW.reg ?_
                            refine WL.op rfl rfl rfl (Go.Proofs.Ytcombjhkbjbncaa.W.quiet_move rfl rfl) ?_
                            refine WL.op rfl rfl rfl (Go.Proofs.Ytcombjhkbjbncaa.W.quiet_bin rfl rfl rfl (fun W => qb_add_int W _ _ _ _ (by omega) (by omega))) ?_
                            refine WL.op rfl rfl rfl (Go.Proofs.Ytcombjhkbjbncaa.W.quiet_assign rfl rfl) ?_
                            refine WL.end ?_
                            refine Xw.any (fun a k => ?_)
                            refine ⟨j + 1, by omega, by omega, (by (repeat (refine Kn.cons k rfl ?_)); exact k.base), ff, bx1, bxI, hrc, hrd, hrv, hb, fun q hq => ?_⟩
                            by_cases e : q = j
                            · subst e; simpa using e2
                            · exact hsame q (by omega)
                        · skip
                          have hje : l.length = j := by have := of_decide_eq_false e1; omega
                          have henc : enc (imgR l) = l := list_ext_getD helen (fun i hi => hsame i (by omega))
                          refine WL.nil ?_
                          refine TW.cond rfl (fun hb => by cases hb) (fun _ => ?_)
                          refine TW.exit ?_
                          refine Xw.thn (by simp) ?_
                          refine Xw.thn (by simp) ?_
                          refine Xw.hit ?_
                          refine Xw.nrm ?_
                          refine TW.sreg ?_
                          refine WL.ld rfl rfl rfl rfl rfl (qlB_api_Image _ _ _ _ _ _ _ _ _ _ _ bxI) ?_
                          refine O.bld rfl rfl rfl rfl rfl (qd_rushlightref32_Read_0_1 _ _ _ _ _ _ _ _ _ _) ?_
                          refine O.storeR rfl rfl rfl rfl rfl (qsA_rushlightref32_Read we _ _ _ _ _ _ _ _ _ _ _ _ _ _ _ bx1) ?_
                          rintro wa19 ⟨fa19, bx1x⟩
                          replace bxI := bxI.fr fa19 (fun e => by omega)
                          replace hrc := Row.fr hrc fa19 (fun k hk e => Row.apart_typ hrc bx1 (by decide) (hk.trans (congrArg some e)))
                          replace hrd := Row.fr hrd fa19 (fun k hk e => Row.apart_typ hrd bx1 (by decide) (hk.trans (congrArg some e)))
                          replace hb := hb.frZ fa19 (fun q hq e => by omega)
                          replace ff := ff.trans' fa19 (fun q hq e => by omega)
                          clear bx1
                          have bx1 := bx1x
                          clear bx1x
                          refine WL.nil ?_
                          refine TW.rt ?_
                          refine O.retc1 rfl rfl (run_loadVar_row _ _ _ 36 _ _ _ bx1 Try.underlying36 rfl (by kernel_rfl)) ?_
                          exact .inl ⟨imgR l, (isR_iff hbyt _).2 ⟨hne, rfl, hok, henc⟩, _, _, _, _, rfl, Row.num hrc, Row.num hrd, (Row.capLe hrd).2.1, ff⟩
                    · skip
                      refine WL.op rfl rfl rfl (Go.Proofs.Ytcombjhkbjbncaa.W.quiet_not rfl rfl) ?_
                      refine WL.nil ?_
                      refine TW.cond rfl (fun _ => ?_) (fun hb => by cases hb)
                      refine TW.sreg ?_
                      refine O.bld rfl rfl rfl rfl rfl (qd_rushlightref32_Read_ _) ?_
                      refine O.storeR rfl rfl rfl rfl rfl (qsA_rushlightref32_Read w7 _ _ _ _ _ _ _ _ _ _ _ _ _ _ _ bx1) ?_
                      rintro wa20 ⟨fa20, bx1x⟩
                      replace bxI := bxI.fr fa20 (fun e => by omega)
                      replace hrc := Row.fr hrc fa20 (fun k hk e => Row.apart_typ hrc bx1 (by decide) (hk.trans (congrArg some e)))
                      replace hrd := Row.fr hrd fa20 (fun k hk e => Row.apart_typ hrd bx1 (by decide) (hk.trans (congrArg some e)))
                      replace hb := hb.frZ fa20 (fun q hq e => by omega)
                      replace ff := ff.trans' fa20 (fun q hq e => by omega)
                      clear bx1
                      have bx1 := bx1x
                      clear bx1x
                      refine WL.nil ?_
                      refine TW.rt ?_
                      refine Xw.thn (by simp) ?_
                      refine O.retc1 rfl rfl (run_loadVar_row _ _ _ 36 _ _ _ bx1 Try.underlying36 rfl (by kernel_rfl)) ?_
                      exact .inr ⟨fun g h => (fun q => by have := hbR.2 q.2.2.1; rw [hbt] at this; cases this) ((isR_iff hbyt g).1 h), rfl, ff⟩
                · skip
                  have hdone : (atL l 8).toNat ≤ xs.length ∨ l.drop p = [] := .inr (List.drop_of_length_le (by have := of_decide_eq_false f1; omega))
                  obtain ⟨f, hf1, hf2⟩ := hrel
                  have hxs : xs = (imgR l).data := by rw [← hf2, rrF_done hdone]
                  subst hxs
                  have hrc : R32 B wd (.slice ca (imgR l).code.length cc) (imgR l).code := hrc
                  have hrd : R8 B wd (.slice da (imgR l).data.length dc) (imgR l).data := hrd
                  have hBd := hB
                  have bxI : Bx wd gI #[.slice ca (imgR l).code.length cc, .slice da (imgR l).data.length dc, .int .i64 (imgR l).lim, .int .i64 (imgR l).notes] 25 := bxI
                  have hli : (imgR l).lim ≤ 9223372036854775807 := by show 268435456 + atL l 12 ≤ _; have := atL_in hbyt 12; omega
                  refine WL.op rfl rfl rfl (Go.Proofs.Ytcombjhkbjbncaa.W.quiet_move rfl rfl) ?_
                  refine WL.skip rfl rfl rfl ?_
                  refine WL.skip rfl rfl rfl ?_
                  refine WL.skip rfl rfl rfl ?_
                  refine WL.skip rfl rfl rfl ?_
                  refine WL.skip rfl rfl rfl ?_
                  refine WL.op rfl rfl rfl (Go.Proofs.Ytcombjhkbjbncaa.W.quiet_pick rfl rfl rfl) ?_
                  refine WL.nil ?_
                  refine TW.cond rfl (fun hb => by cases hb) (fun _ => ?_)
                  refine TW.exit ?_
                  refine Xw.thn (by simp) ?_
                  refine Xw.thn (by simp) ?_
                  refine Xw.hit ?_
                  refine Xw.nrm ?_
                  refine TW.seq ?_
                  refine TW.sreg ?_
                  refine WL.ld rfl rfl rfl rfl rfl (qlB_api_Image _ _ _ _ _ _ _ _ _ _ _ bxI) ?_
                  refine WL.call (hr := (t_rright ca da cc dc (imgR l) hli _)) rfl rfl rfl rfl rfl (fun W => qk_rushlightref32_Right W _) ?_
                  rintro e w7 ⟨bR, rfl, hbR, f7⟩
                  refine ⟨_, rfl, ?_⟩
                  replace bx1 := bx1.fr f7 id
                  replace bxI := bxI.fr f7 id
                  replace hrc := Row.fr hrc f7 (fun _ _ => id)
                  replace hrd := Row.fr hrd f7 (fun _ _ => id)
                  replace hb := hb.fr f7
                  replace hB := Nat.le_trans hB f7.size
                  replace ff := ff.trans f7
                  refine O.split (fun hbt => ?_) (fun hbt => ?_)
                  · skip
                    have hok := hbR.1 hbt
                    refine WL.op rfl rfl rfl (Go.Proofs.Ytcombjhkbjbncaa.W.quiet_not rfl rfl) ?_
                    refine WL.nil ?_
                    refine TW.cond rfl (fun hb => by cases hb) (fun _ => ?_)
                    refine TW.skip ?_
                    refine TW.sreg ?_
                    refine WL.ld rfl rfl rfl rfl rfl (qlB_api_Image _ _ _ _ _ _ _ _ _ _ _ bxI) ?_
                    have hB7 := hB
                    refine WL.call (hr := (t_rencode ca da cc dc (imgR l) (imgR_wf hbyt) hok _ (Row.num hrc) (Row.num hrd))) rfl rfl rfl rfl rfl (fun W => qk_rushlightref32_Encode W _) ?_
                    rintro e w8 ⟨vE, rfl, hvE, f8⟩
                    refine ⟨_, rfl, ?_⟩
                    replace bx1 := bx1.fr f8 id
                    replace bxI := bxI.fr f8 id
                    replace hrc := Row.fr hrc f8 (fun _ _ => id)
                    replace hrd := Row.fr hrd f8 (fun _ _ => id)
                    replace hb := hb.fr f8
                    replace hB := Nat.le_trans hB f8.size
                    replace ff := ff.trans f8
                    obtain ⟨va, vc, rfl⟩ := Row.form hvE
                    have hrv : R8 B w8 (.slice va (enc (imgR l)).length vc) (enc (imgR l)) := Row.base hvE (fun k hk => by have := (Row.lt hvE k hk).1; omega)
                    refine WL.op rfl rfl rfl (Go.Proofs.Ytcombjhkbjbncaa.W.quiet_assign rfl rfl) ?_
                    refine WL.nil ?_
                    refine TW.seq ?_
                    refine TW.sreg ?_
                    refine WL.op rfl rfl rfl (Go.Proofs.Ytcombjhkbjbncaa.W.quiet_move rfl rfl) ?_
                    refine O.len rfl rfl rfl rfl rfl (qn_s_uint8 _ _ _ _) ?_
                    refine WL.op rfl rfl rfl (Go.Proofs.Ytcombjhkbjbncaa.W.quiet_move rfl rfl) ?_
                    refine O.len rfl rfl rfl rfl rfl (qn_s_uint8 _ _ _ _) ?_
                    refine WL.op rfl rfl rfl (Go.Proofs.Ytcombjhkbjbncaa.W.quiet_bin rfl rfl rfl (fun W => qb_neq_int W _ _ _ _)) ?_
                    refine O.split (fun hl9 => ?_) (fun hl9 => ?_)
                    · skip
                      refine WL.nil ?_
                      refine TW.cond rfl (fun _ => ?_) (fun hb => by cases hb)
                      refine TW.sreg ?_
                      refine O.bld rfl rfl rfl rfl rfl (qd_rushlightref32_Read_ _) ?_
                      refine O.storeR rfl rfl rfl rfl rfl (qsA_rushlightref32_Read w8 _ _ _ _ _ _ _ _ _ _ _ _ _ _ _ bx1) ?_
                      rintro wa21 ⟨fa21, bx1x⟩
                      replace bxI := bxI.fr fa21 (fun e => by omega)
                      replace hrc := Row.fr hrc fa21 (fun k hk e => Row.apart_typ hrc bx1 (by decide) (hk.trans (congrArg some e)))
                      replace hrd := Row.fr hrd fa21 (fun k hk e => Row.apart_typ hrd bx1 (by decide) (hk.trans (congrArg some e)))
                      replace hb := hb.frZ fa21 (fun q hq e => by omega)
                      replace hrv := Row.fr hrv fa21 (fun k hk e => Row.apart_typ hrv bx1 (by decide) (hk.trans (congrArg some e)))
                      replace ff := ff.trans' fa21 (fun q hq e => by omega)
                      clear bx1
                      have bx1 := bx1x
                      clear bx1x
                      refine WL.nil ?_
                      refine TW.rt ?_
                      refine Xw.thn (by simp) ?_
                      refine O.retc1 rfl rfl (run_loadVar_row _ _ _ 36 _ _ _ bx1 Try.underlying36 rfl (by kernel_rfl)) ?_
                      exact .inr ⟨fun g h => (fun q => by have := congrArg List.length q.2.2.2; simp at hl9; omega) ((isR_iff hbyt g).1 h), rfl, ff⟩
                    · skip
                      have helen : (enc (imgR l)).length = l.length := by simp at hl9; omega
                      refine WL.nil ?_
                      refine TW.cond rfl (fun hb => by cases hb) (fun _ => ?_)
                      refine TW.skip ?_
                      refine TW.seq ?_
                      refine TW.sreg ?_
                      refine WL.op rfl rfl rfl (Go.Proofs.Ytcombjhkbjbncaa.W.quiet_assign rfl rfl) ?_
                      refine WL.nil ?_
                      refine TW.block ?_
                      refine O.loopG (n := l.length) (fun a _ => (intOf (a.tmps.getD 12 undef)).toNat) (fun j a W => Kn Try.f13.ntmps [(0, .slice ba l.length bc), (2, .pointer (some ⟨w.heap.size, 0, none⟩)), (5, .pointer (some ⟨gI, 0, none⟩)), (11, .slice va (enc (imgR l)).length vc), (12, .int .i64 (j : Int))] a ∧ Fr (fun _ => False) w W ∧ Bx W w.heap.size #[.slice none 0 0, .slice none 0 0, .int .i64 0, .int .i64 0, .bool false] 36 ∧ Bx W gI #[.slice ca (imgR l).code.length cc, .slice da (imgR l).data.length dc, .int .i64 (imgR l).lim, .int .i64 (imgR l).notes] 25 ∧ R32 B W (.slice ca (imgR l).code.length cc) (imgR l).code ∧ R8 B W (.slice da (imgR l).data.length dc) (imgR l).data ∧ R8 B W (.slice va (enc (imgR l)).length vc) (enc (imgR l)) ∧ NumAt .u8 w.heap.size W ba l ∧ ∀ i, i < j → (enc (imgR l)).getD i 0 = l.getD i 0) (fun j a W h => O.slotv h.1 rfl) 0 (Nat.zero_le _) (fun a k => ⟨(by (repeat (refine Kn.cons k rfl ?_)); exact k.base), ff, bx1, bxI, hrc, hrd, hrv, hb, fun i hi => absurd hi (by omega)⟩) ?_
                      rintro j a we hj ⟨k, ff, bx1, bxI, hrc, hrd, hrv, hb, hsame⟩
                      refine TW.app (s := [(0, .slice ba l.length bc), (2, .pointer (some ⟨w.heap.size, 0, none⟩)), (5, .pointer (some ⟨gI, 0, none⟩)), (11, .slice va (enc (imgR l)).length vc), (12, .int .i64 (j : Int))]) ?_ k
                      refine TW.seq ?_
                      refine TW.sreg ?_
                      refine WL.op rfl rfl rfl (Go.Proofs.Ytcombjhkbjbncaa.W.quiet_move rfl rfl) ?_
                      refine WL.op rfl rfl rfl (Go.Proofs.Ytcombjhkbjbncaa.W.quiet_move rfl rfl) ?_
                      refine O.len rfl rfl rfl rfl rfl (qn_s_uint8 _ _ _ _) ?_
                      refine WL.op rfl rfl rfl (Go.Proofs.Ytcombjhkbjbncaa.W.quiet_bin rfl rfl rfl (fun W => qb_lss_int W _ _ _ _)) ?_
                      refine O.split (fun e1 => ?_) (fun e1 => ?_)
                      · skip
                        have hj2 : j < l.length := by have := of_decide_eq_true e1; omega
                        obtain ⟨gb, ob, rfl, _, hcb⟩ := hb j hj2
                        obtain ⟨gv, ov, rfl, _, hcv⟩ := (Row.num hrv) j (by rw [helen]; exact hj2)
                        refine WL.nil ?_
                        refine TW.cond rfl (fun _ => ?_) (fun hb => by cases hb)
                        refine TW.skip ?_
                        refine TW.seq ?_
                        refine TW.block ?_
                        refine Q.sreg (C := fun W => Fr (fun _ => False) we W) (by kernel_rfl) (by kernel_rfl) (fun W h => h.drewN 1) (Fr.refl _ _) ?_
                        refine W.op rfl rfl rfl (Go.Proofs.Ytcombjhkbjbncaa.W.quiet_move rfl rfl) ?_
                        refine W.op rfl rfl rfl (Go.Proofs.Ytcombjhkbjbncaa.W.quiet_move rfl rfl) ?_
                        refine W.op rfl rfl rfl (Go.Proofs.Ytcombjhkbjbncaa.W.quiet_index rfl rfl rfl (fun W => (qi_s_uint8 _ _ _ _ _ _ (by rw [helen]; omega)))) ?_
                        refine W.op rfl rfl rfl (Go.Proofs.Ytcombjhkbjbncaa.W.quiet_load rfl rfl (fun W hW => (ql_uint8 _ _ _ (hW.cell hcv id)))) ?_
                        refine W.op rfl rfl rfl (Go.Proofs.Ytcombjhkbjbncaa.W.quiet_move rfl rfl) ?_
                        refine W.op rfl rfl rfl (Go.Proofs.Ytcombjhkbjbncaa.W.quiet_move rfl rfl) ?_
                        refine W.op rfl rfl rfl (Go.Proofs.Ytcombjhkbjbncaa.W.quiet_index rfl rfl rfl (fun W => (qi_s_uint8 _ _ _ _ _ _ (by omega)))) ?_
                        refine W.op rfl rfl rfl (Go.Proofs.Ytcombjhkbjbncaa.W.quiet_load rfl rfl (fun W hW => (ql_uint8 _ _ _ (hW.cell hcb id)))) ?_
                        refine W.op rfl rfl rfl (Go.Proofs.Ytcombjhkbjbncaa.W.quiet_bin rfl rfl rfl (fun W => qb_neq_uint8 W _ _ _ _)) ?_
                        refine Q.split (fun e2 => ?_) (fun e2 => ?_)
                        · skip
                          refine Q.nil (T.tw fun wq3 fq3 => ?_)
                          replace bx1 := bx1.fr fq3 id
                          replace bxI := bxI.fr fq3 id
                          replace hrc := Row.fr hrc fq3 (fun _ _ => id)
                          replace hrd := Row.fr hrd fq3 (fun _ _ => id)
                          replace hrv := Row.fr hrv fq3 (fun _ _ => id)
                          replace hb := hb.fr fq3
                          replace ff := ff.trans fq3
                          refine TW.cond rfl (fun _ => ?_) (fun hb => by cases hb)
                          refine TW.sreg ?_
                          refine O.bld rfl rfl rfl rfl rfl (qd_rushlightref32_Read_ _) ?_
                          refine O.storeR rfl rfl rfl rfl rfl (qsA_rushlightref32_Read wq3 _ _ _ _ _ _ _ _ _ _ _ _ _ _ _ bx1) ?_
                          rintro wa22 ⟨fa22, bx1x⟩
                          replace bxI := bxI.fr fa22 (fun e => by omega)
                          replace hrc := Row.fr hrc fa22 (fun k hk e => Row.apart_typ hrc bx1 (by decide) (hk.trans (congrArg some e)))
                          replace hrd := Row.fr hrd fa22 (fun k hk e => Row.apart_typ hrd bx1 (by decide) (hk.trans (congrArg some e)))
                          replace hb := hb.frZ fa22 (fun q hq e => by omega)
                          replace ff := ff.trans' fa22 (fun q hq e => by omega)
                          clear bx1
                          have bx1 := bx1x
                          clear bx1x
                          refine WL.nil ?_
                          refine TW.rt ?_
                          refine Xw.rblk ?_
                          refine Xw.thn (by simp) ?_
                          refine Xw.thn (by simp) ?_
                          refine Xw.rblk ?_
                          refine Xw.thn (by simp) ?_
                          refine O.retc1 rfl rfl (run_loadVar_row _ _ _ 36 _ _ _ bx1 Try.underlying36 rfl (by kernel_rfl)) ?_
                          exact .inr ⟨fun g h => (fun q => by have := q.2.2.2; rw [this] at e2; simp at e2) ((isR_iff hbyt g).1 h), rfl, ff⟩
                        · skip
                          refine Q.nil (T.tw fun wq4 fq4 => ?_)
                          replace bx1 := bx1.fr fq4 id
                          replace bxI := bxI.fr fq4 id
                          replace hrc := Row.fr hrc fq4 (fun _ _ => id)
                          replace hrd := Row.fr hrd fq4 (fun _ _ => id)
                          replace hrv := Row.fr hrv fq4 (fun _ _ => id)
                          replace hb := hb.fr fq4
                          replace ff := ff.trans fq4
                          refine TW.cond rfl (fun hb => by cases hb) (fun _ => ?_)
                          refine TW.skipx ?_
                          refine Xw.nblk ?_
                          refine Xw.nrm ?_
                          refine TW.reg ?_
                          refine WL.op rfl rfl rfl (Go.Proofs.Ytcombjhkbjbncaa.W.quiet_move rfl rfl) ?_
                          refine WL.op rfl rfl rfl (Go.Proofs.Ytcombjhkbjbncaa.W.quiet_bin rfl rfl rfl (fun W => qb_add_int W _ _ _ _ (by omega) (by omega))) ?_
                          refine WL.op rfl rfl rfl (Go.Proofs.Ytcombjhkbjbncaa.W.quiet_assign rfl rfl) ?_
                          refine WL.end ?_
                          refine Xw.any (fun a k => ?_)
                          refine ⟨j + 1, by omega, by omega, (by (repeat (refine Kn.cons k rfl ?_)); exact k.base), ff, bx1, bxI, hrc, hrd, hrv, hb, fun q hq => ?_⟩
                          by_cases e : q = j
                          · subst e; simpa using e2
                          · exact hsame q (by omega)
                      · skip
                        have hje : l.length = j := by have := of_decide_eq_false e1; omega
                        have henc : enc (imgR l) = l := list_ext_getD helen (fun i hi => hsame i (by omega))
                        refine WL.nil ?_
                        refine TW.cond rfl (fun hb => by cases hb) (fun _ => ?_)
                        refine TW.exit ?_
                        refine Xw.thn (by simp) ?_
                        refine Xw.thn (by simp) ?_
                        refine Xw.hit ?_
                        refine Xw.nrm ?_
                        refine TW.sreg ?_
                        refine WL.ld rfl rfl rfl rfl rfl (qlB_api_Image _ _ _ _ _ _ _ _ _ _ _ bxI) ?_
                        refine O.bld rfl rfl rfl rfl rfl (qd_rushlightref32_Read_0_1 _ _ _ _ _ _ _ _ _ _) ?_
                        refine O.storeR rfl rfl rfl rfl rfl (qsA_rushlightref32_Read we _ _ _ _ _ _ _ _ _ _ _ _ _ _ _ bx1) ?_
                        rintro wa23 ⟨fa23, bx1x⟩
                        replace bxI := bxI.fr fa23 (fun e => by omega)
                        replace hrc := Row.fr hrc fa23 (fun k hk e => Row.apart_typ hrc bx1 (by decide) (hk.trans (congrArg some e)))
                        replace hrd := Row.fr hrd fa23 (fun k hk e => Row.apart_typ hrd bx1 (by decide) (hk.trans (congrArg some e)))
                        replace hb := hb.frZ fa23 (fun q hq e => by omega)
                        replace ff := ff.trans' fa23 (fun q hq e => by omega)
                        clear bx1
                        have bx1 := bx1x
                        clear bx1x
                        refine WL.nil ?_
                        refine TW.rt ?_
                        refine O.retc1 rfl rfl (run_loadVar_row _ _ _ 36 _ _ _ bx1 Try.underlying36 rfl (by kernel_rfl)) ?_
                        exact .inl ⟨imgR l, (isR_iff hbyt _).2 ⟨hne, rfl, hok, henc⟩, _, _, _, _, rfl, Row.num hrc, Row.num hrd, (Row.capLe hrd).2.1, ff⟩
                  · skip
                    refine WL.op rfl rfl rfl (Go.Proofs.Ytcombjhkbjbncaa.W.quiet_not rfl rfl) ?_
                    refine WL.nil ?_
                    refine TW.cond rfl (fun _ => ?_) (fun hb => by cases hb)
                    refine TW.sreg ?_
                    refine O.bld rfl rfl rfl rfl rfl (qd_rushlightref32_Read_ _) ?_
                    refine O.storeR rfl rfl rfl rfl rfl (qsA_rushlightref32_Read w7 _ _ _ _ _ _ _ _ _ _ _ _ _ _ _ bx1) ?_
                    rintro wa24 ⟨fa24, bx1x⟩
                    replace bxI := bxI.fr fa24 (fun e => by omega)
                    replace hrc := Row.fr hrc fa24 (fun k hk e => Row.apart_typ hrc bx1 (by decide) (hk.trans (congrArg some e)))
                    replace hrd := Row.fr hrd fa24 (fun k hk e => Row.apart_typ hrd bx1 (by decide) (hk.trans (congrArg some e)))
                    replace hb := hb.frZ fa24 (fun q hq e => by omega)
                    replace ff := ff.trans' fa24 (fun q hq e => by omega)
                    clear bx1
                    have bx1 := bx1x
                    clear bx1x
                    refine WL.nil ?_
                    refine TW.rt ?_
                    refine Xw.thn (by simp) ?_
                    refine O.retc1 rfl rfl (run_loadVar_row _ _ _ 36 _ _ _ bx1 Try.underlying36 rfl (by kernel_rfl)) ?_
                    exact .inr ⟨fun g h => (fun q => by have := hbR.2 q.2.2.1; rw [hbt] at this; cases this) ((isR_iff hbyt g).1 h), rfl, ff⟩
end Go.Proofs.Ytcombjhkbjbncaa
