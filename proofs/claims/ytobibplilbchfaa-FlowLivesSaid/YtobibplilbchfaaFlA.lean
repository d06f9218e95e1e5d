/-
  Flow (layer 16): procedures plainly and in memory; where a block's end leads.
-/
import Derived.Test.YtobibplilbchfaaWs
import Derived.Test.YtobibplilbchfaaShelf
namespace Go.Proofs.Ytobibplilbchfaa
open Go.RowKit
set_option linter.unusedVariables false
set_option linter.unusedSimpArgs false
set_option linter.unnecessarySimpa false
theorem qxR_api_Block (w : World) (up0 : Option Addr) (uk0 ul0 : Nat) (um1 : Int) (um2 : Int) (um3 : Int) (um4 : Int) : ∃ w', (Instr.box 48 (.agg #[.slice up0 uk0 ul0, .int .i64 um1, .int .i64 um2, .int .i64 um3, .int .i64 um4])).run Try.prog w = .ok (.pointer (some ⟨w.heap.size, 0, none⟩)) w' ∧ (Fr (fun _ => False) w w' ∧ Bx w' w.heap.size #[.slice up0 uk0 ul0, .int .i64 um1, .int .i64 um2, .int .i64 um3, .int .i64 um4] 48) := ⟨w.alloc (.cells #[.slice up0 uk0 ul0, .int .i64 um1, .int .i64 um2, .int .i64 um3, .int .i64 um4] 48), by simp [go_sem], fr_al (Fr.refl _ _) _, Bx.new _ _ _⟩
theorem qa_api_Block_1 (w : World) (b o : Nat) : (Instr.fieldAt 48 (.pointer (some ⟨b, o, none⟩)) 1).run Try.prog w = .ok (.pointer (some ⟨b, o + 1, none⟩)) w := by simp [go_sem]
theorem ql_int (w : World) (m : Int) (d : Addr) (h : w.cell? d = some (.int .i64 m)) : (Instr.loadAt 3 (.pointer (some d))).run Try.prog w = .ok (.int .i64 m) w := by simp [go_sem, h]
theorem qb_eql_int (w : World) (x y : Operand) (m n : Int) : ((do eqGuard .eql 3 x y (.int .i64 m) (.int .i64 n); binOp .eql 3 (.int .i64 m) (.int .i64 n) : Sem Value)).run Try.prog w = .ok (.bool (m == n)) w := by simp [go_sem]
theorem qa_api_Block_3 (w : World) (b o : Nat) : (Instr.fieldAt 48 (.pointer (some ⟨b, o, none⟩)) 3).run Try.prog w = .ok (.pointer (some ⟨b, o + 3, none⟩)) w := by simp [go_sem]
theorem qv_s_int_1 (w : World) (u0_m0 : Int) : (Instr.buildSlice 34 1 #[(0, .int .i64 u0_m0)]).run Try.prog w = .ok (.slice (some ⟨w.heap.size, 0, none⟩) 1 1) (w.alloc (.cells #[.int .i64 u0_m0] 3)) := by simp [go_sem]
theorem qa_api_Block_4 (w : World) (b o : Nat) : (Instr.fieldAt 48 (.pointer (some ⟨b, o, none⟩)) 4).run Try.prog w = .ok (.pointer (some ⟨b, o + 4, none⟩)) w := by simp [go_sem]
theorem qv_s_int_2 (w : World) (u0_m0 : Int) (u1_m0 : Int) : (Instr.buildSlice 34 2 #[(0, .int .i64 u0_m0), (1, .int .i64 u1_m0)]).run Try.prog w = .ok (.slice (some ⟨w.heap.size, 0, none⟩) 2 2) (w.alloc (.cells #[.int .i64 u0_m0, .int .i64 u1_m0] 3)) := by simp [go_sem]
/-- Numbers in memory. -/
def IntsAt (w : World) (a : Option Addr) (l : List Int) : Prop := ∀ k, k < l.length → ∃ g o, a = some ⟨g, o, none⟩ ∧ w.cell? ⟨g, o + k, none⟩ = some (.int .i64 (l.getD k 0))
theorem IntsAt.fr {w w' : World} {a : Option Addr} {l : List Int} (h : IntsAt w a l) (f : Fr (fun _ => False) w w') : IntsAt w' a l := fun k hk => by
  obtain ⟨g, o, e, hc⟩ := h k hk
  exact ⟨g, o, e, f.cell hc id⟩
/-- An instruction, plainly. -/
structure Inn where
  x0 : Int
  x1 : Int
  x2 : Int
  x3 : Int
  x4 : Int
  x5 : Int
  x6 : Int
  x7 : Int
  u : Int
  args : List Int
  lg : Bool
def Inn.l8 (i : Inn) : List Int := [i.x0, i.x1, i.x2, i.x3, i.x4, i.x5, i.x6, i.x7]
/-- A block, plainly. -/
structure Bk where
  ins : List Inn
  en : Int
  a : Int
  t : Int
  el : Int
def inn0 : Inn := ⟨0, 0, 0, 0, 0, 0, 0, 0, 0, [], false⟩
def bk0 : Bk := ⟨[], 0, 0, 0, 0⟩
/-- An instruction's eleven cells. -/
def InsAt (w : World) (g o : Nat) (i : Inn) : Prop :=
  w.cell? ⟨g, o, none⟩ = some (.int .i64 i.x0) ∧ w.cell? ⟨g, o + 1, none⟩ = some (.int .i64 i.x1) ∧ w.cell? ⟨g, o + 2, none⟩ = some (.int .i64 i.x2) ∧ w.cell? ⟨g, o + 3, none⟩ = some (.int .i64 i.x3) ∧ w.cell? ⟨g, o + 4, none⟩ = some (.int .i64 i.x4) ∧ w.cell? ⟨g, o + 5, none⟩ = some (.int .i64 i.x5) ∧ w.cell? ⟨g, o + 6, none⟩ = some (.int .i64 i.x6) ∧ w.cell? ⟨g, o + 7, none⟩ = some (.int .i64 i.x7) ∧ w.cell? ⟨g, o + 8, none⟩ = some (.int .u32 i.u) ∧ (∃ a c, w.cell? ⟨g, o + 9, none⟩ = some (.slice a i.args.length c) ∧ IntsAt w a i.args) ∧ w.cell? ⟨g, o + 10, none⟩ = some (.bool i.lg)
theorem InsAt.fr {w w' : World} {g o : Nat} {i : Inn} (h : InsAt w g o i) (hf : Fr (fun _ => False) w w') : InsAt w' g o i := by
  obtain ⟨k0, k1, k2, k3, k4, k5, k6, k7, k8, ⟨a, c, k9, ka⟩, k10⟩ := h
  exact ⟨hf.cell k0 id, hf.cell k1 id, hf.cell k2 id, hf.cell k3 id, hf.cell k4 id, hf.cell k5 id, hf.cell k6 id, hf.cell k7 id, hf.cell k8 id, ⟨a, c, hf.cell k9 id, ka.fr hf⟩, hf.cell k10 id⟩
/-- Instructions behind a slice's head. -/
def InsL (w : World) (a : Option Addr) (l : List Inn) : Prop := ∀ k, k < l.length → ∃ g o, a = some ⟨g, o, none⟩ ∧ InsAt w g (o + k * 11) (l.getD k inn0)
theorem InsL.fr {w w' : World} {a : Option Addr} {l : List Inn} (h : InsL w a l) (hf : Fr (fun _ => False) w w') : InsL w' a l := fun k hk => by
  obtain ⟨g, o, e, c⟩ := h k hk
  exact ⟨g, o, e, c.fr hf⟩
/-- A block's five cells. -/
def BkAt (w : World) (g o : Nat) (b : Bk) : Prop :=
  (∃ a c, w.cell? ⟨g, o, none⟩ = some (.slice a b.ins.length c) ∧ InsL w a b.ins) ∧ w.cell? ⟨g, o + 1, none⟩ = some (.int .i64 b.en) ∧ w.cell? ⟨g, o + 2, none⟩ = some (.int .i64 b.a) ∧ w.cell? ⟨g, o + 3, none⟩ = some (.int .i64 b.t) ∧ w.cell? ⟨g, o + 4, none⟩ = some (.int .i64 b.el)
theorem BkAt.fr {w w' : World} {g o : Nat} {b : Bk} (h : BkAt w g o b) (hf : Fr (fun _ => False) w w') : BkAt w' g o b := by
  obtain ⟨⟨a, c, k0, ka⟩, k1, k2, k3, k4⟩ := h
  exact ⟨⟨a, c, hf.cell k0 id, ka.fr hf⟩, hf.cell k1 id, hf.cell k2 id, hf.cell k3 id, hf.cell k4 id⟩
def BkL (w : World) (a : Option Addr) (l : List Bk) : Prop := ∀ k, k < l.length → ∃ g o, a = some ⟨g, o, none⟩ ∧ BkAt w g (o + k * 5) (l.getD k bk0)
theorem BkL.fr {w w' : World} {a : Option Addr} {l : List Bk} (h : BkL w a l) (hf : Fr (fun _ => False) w w') : BkL w' a l := fun k hk => by
  obtain ⟨g, o, e, c⟩ := h k hk
  exact ⟨g, o, e, c.fr hf⟩
/-- A row of numbers of the call's own. -/
def iC (x : Int) : List Value := [.int .i64 x]
theorem iC_len (x : Int) : (iC x).length = 1 := rfl
theorem iC_one (x : Int) : ∀ u ∈ iC x, u.oneCell' = true := fun u hu => by
  obtain rfl : u = .int .i64 x := by simpa [iC] using hu
  rfl
def Ints (B : Nat) (w : World) (v : Value) (xs : List Int) : Prop := Row B 3 1 iC w v xs
theorem Ints.fr {B : Nat} {w w' : World} {v : Value} {xs : List Int} {F : Nat → Prop} (h : Ints B w v xs) (hf : Fr F w w') (hn : ∀ k, v.ownBlock = some k → ¬F k) : Ints B w' v xs := Row.fr h hf hn
theorem infoI : (Try.prog.info? 3).map (fun i => (i.zero, i.size, i.bytes)) = some (some (.int .i64 0), 1, 8) := by kernel_rfl
theorem Ints.app {B : Nat} {W : World} {v : Value} {xs : List Int} (x : Int) (ty : TypeId) (h : Ints B W v xs) (hB : B ≤ W.heap.size) (hl : xs.length ≤ 1000000) : ∃ v' w', (Builtin.append_ #[34, 34] ty #[v, .slice (some ⟨W.heap.size, 0, none⟩) 1 1]).run Try.prog (W.alloc (.cells #[.int .i64 x] 3)) = .ok v' w' ∧ (Ints B w' v' (xs ++ [x]) ∧ Fr (fun q => v.ownBlock = some q) W w' ∧ ∀ k, v'.ownBlock = some k → v.ownBlock = some k ∨ W.heap.size ≤ k) :=
  Row.app 34 ty Try.underlying34 infoI rfl (by decide) (by decide) iC_len iC_one x h hB hl rfl
theorem Ints.at {B : Nat} {w : World} {v : Value} {xs : List Int} (h : Ints B w v xs) : ∃ a c, v = .slice a xs.length c ∧ IntsAt w a xs := by
  by_cases hn : 0 < xs.length
  · obtain ⟨g, cap, rfl, _⟩ := Row.own h hn
    refine ⟨_, _, rfl, fun k hk => ⟨g, 0, rfl, ?_⟩⟩
    exact Row.cell iC_len h (k := k) (x := xs[k]) (List.getElem?_eq_getElem hk) (j := 0) (u := .int .i64 (xs.getD k 0)) (by simp [iC, List.getD_eq_getElem?_getD, hk]) (by omega)
  · obtain ⟨a, cap, rfl⟩ := Row.form h
    exact ⟨a, cap, rfl, fun k hk => absurd hk (by omega)⟩
/-- Where a block leads, by its end. -/
def outB (b : Bk) : List Int := if b.en = 1 ∨ b.en = 2 ∧ b.t = b.el then [b.t] else if b.en = 2 then [b.t, b.el] else []
theorem outB_len (b : Bk) : (outB b).length ≤ 2 := by unfold outB; split <;> (try split) <;> simp
theorem out_1 {b : Bk} (h : b.en = 1) : outB b = [b.t] := by unfold outB; rw [if_pos (.inl h)]
theorem out_2 {b : Bk} (h1 : b.en ≠ 1) (h : b.en = 2) (h3 : b.t = b.el) : outB b = [b.t] := by unfold outB; rw [if_pos (.inr ⟨h, h3⟩)]
theorem out_3 {b : Bk} (h1 : b.en ≠ 1) (h : b.en = 2) (h3 : b.t ≠ b.el) : outB b = [b.t, b.el] := by unfold outB; rw [if_neg (fun e => e.elim h1 (fun e => h3 e.2)), if_pos h]
theorem out_4 {b : Bk} (h1 : b.en ≠ 1) (h : b.en ≠ 2) : outB b = [] := by unfold outB; rw [if_neg (fun e => e.elim h1 (fun e => h e.1)), if_neg h]
def OutsP (b : Bk) (w : World) (e : Ending) (w' : World) : Prop := ∃ v, e = .returned v ∧ Ints w.heap.size w' v (outB b) ∧ Fr (fun _ => False) w w'
theorem ints2 {B : Nat} {w : World} {g : Nat} {x y : Int} (h : Bx w g #[.int .i64 x, .int .i64 y] 3) (hb : B ≤ g) : Ints B w (.slice (some ⟨g, 0, none⟩) 2 2) [x, y] := ⟨rfl, .inr ⟨g, 2, _, rfl, hb, h, Nat.le_refl _, by decide, rfl, rfl⟩⟩
theorem ints1 {B : Nat} {w : World} {g : Nat} {x : Int} (h : Bx w g #[.int .i64 x] 3) (hb : B ≤ g) : Ints B w (.slice (some ⟨g, 0, none⟩) 1 1) [x] := ⟨rfl, .inr ⟨g, 1, _, rfl, hb, h, Nat.le_refl _, by decide, rfl, rfl⟩⟩
set_option maxRecDepth 100000 in
theorem t_irouts (b : Bk) (ia : Option Addr) (ic : Nat) (w : World) : Calls Try.prog 38 #[.agg #[.slice ia b.ins.length ic, .int .i64 b.en, .int .i64 b.a, .int .i64 b.t, .int .i64 b.el]] w (OutsP b w) := by
  have ff := Fr.refl (fun _ => False) w
  refine calls_tw Try.func38 rfl rfl (Nat.le_of_ble_eq_true rfl) ?_
  refine TW.sreg ?_
  have lw1 := ff.size
  refine O.boxR rfl rfl rfl rfl rfl (qxR_api_Block w _ _ _ _ _ _ _) ?_
  rintro wa1 ⟨fa1, bx1⟩
  replace ff := ff.trans fa1
  refine WL.op rfl rfl rfl (Go.Proofs.Ytobibplilbchfaa.W.quiet_assign rfl rfl) ?_
  refine WL.nil ?_
  refine TW.seq ?_
  refine TW.block ?_
  refine TW.seq ?_
  refine TW.sreg ?_
  refine WL.op rfl rfl rfl (Go.Proofs.Ytobibplilbchfaa.W.quiet_field rfl rfl (fun W => (qa_api_Block_1 W _ _))) ?_
  refine WL.ld rfl rfl rfl rfl rfl (ql_int _ _ _ (bx1.cell (j := 1) rfl)) ?_
  refine WL.op rfl rfl rfl (Go.Proofs.Ytobibplilbchfaa.W.quiet_bin rfl rfl rfl (fun W => qb_eql_int W _ _ _ _)) ?_
  refine O.split (fun h1 => ?_) (fun h1 => ?_)
  · skip
    refine WL.op rfl rfl rfl (Go.Proofs.Ytobibplilbchfaa.W.quiet_assign rfl rfl) ?_
    refine WL.nil ?_
    refine TW.cond rfl (fun _ => ?_) (fun hb => by cases hb)
    refine TW.skip ?_
    refine TW.cond rfl (fun _ => ?_) (fun hb => by cases hb)
    refine TW.sreg ?_
    refine WL.op rfl rfl rfl (Go.Proofs.Ytobibplilbchfaa.W.quiet_field rfl rfl (fun W => (qa_api_Block_3 W _ _))) ?_
    refine WL.ld rfl rfl rfl rfl rfl (ql_int _ _ _ (bx1.cell (j := 3) rfl)) ?_
    have lt2_bx1 := bx1.lt
    have lw2 := ff.size
    refine O.bslR rfl rfl rfl rfl rfl (qv_s_int_1 wa1 _) ?_
    rintro wa2 ⟨fa2, bx2⟩
    replace bx1 := bx1.fr fa2 id
    replace ff := ff.trans fa2
    refine WL.op rfl rfl rfl (Go.Proofs.Ytobibplilbchfaa.W.quiet_assign rfl rfl) ?_
    refine WL.nil ?_
    refine TW.rt ?_
    refine Xw.rblk ?_
    refine Xw.thn (by simp) ?_
    refine bodyw_ret rfl rfl ?_
    have hz1 := lw2
    exact ⟨_, rfl, by rw [out_1 (by simpa using h1)]; exact ints1 bx2 (by omega), ff⟩
  · skip
    refine WL.op rfl rfl rfl (Go.Proofs.Ytobibplilbchfaa.W.quiet_assign rfl rfl) ?_
    refine WL.nil ?_
    refine TW.cond rfl (fun hb => by cases hb) (fun _ => ?_)
    refine TW.reg ?_
    refine WL.op rfl rfl rfl (Go.Proofs.Ytobibplilbchfaa.W.quiet_field rfl rfl (fun W => (qa_api_Block_1 W _ _))) ?_
    refine WL.ld rfl rfl rfl rfl rfl (ql_int _ _ _ (bx1.cell (j := 1) rfl)) ?_
    refine WL.op rfl rfl rfl (Go.Proofs.Ytobibplilbchfaa.W.quiet_bin rfl rfl rfl (fun W => qb_eql_int W _ _ _ _)) ?_
    refine O.split (fun h2 => ?_) (fun h2 => ?_)
    · skip
      refine WL.op rfl rfl rfl (Go.Proofs.Ytobibplilbchfaa.W.quiet_move rfl rfl) ?_
      refine WL.op rfl rfl rfl (Go.Proofs.Ytobibplilbchfaa.W.quiet_field rfl rfl (fun W => (qa_api_Block_3 W _ _))) ?_
      refine WL.ld rfl rfl rfl rfl rfl (ql_int _ _ _ (bx1.cell (j := 3) rfl)) ?_
      refine WL.op rfl rfl rfl (Go.Proofs.Ytobibplilbchfaa.W.quiet_field rfl rfl (fun W => (qa_api_Block_4 W _ _))) ?_
      refine WL.ld rfl rfl rfl rfl rfl (ql_int _ _ _ (bx1.cell (j := 4) rfl)) ?_
      refine WL.op rfl rfl rfl (Go.Proofs.Ytobibplilbchfaa.W.quiet_bin rfl rfl rfl (fun W => qb_eql_int W _ _ _ _)) ?_
      refine O.split (fun h3 => ?_) (fun h3 => ?_)
      · skip
        refine WL.op rfl rfl rfl (Go.Proofs.Ytobibplilbchfaa.W.quiet_pick rfl rfl rfl) ?_
        refine WL.op rfl rfl rfl (Go.Proofs.Ytobibplilbchfaa.W.quiet_assign rfl rfl) ?_
        refine WL.nil ?_
        refine TW.cond rfl (fun _ => ?_) (fun hb => by cases hb)
        refine TW.sreg ?_
        refine WL.op rfl rfl rfl (Go.Proofs.Ytobibplilbchfaa.W.quiet_field rfl rfl (fun W => (qa_api_Block_3 W _ _))) ?_
        refine WL.ld rfl rfl rfl rfl rfl (ql_int _ _ _ (bx1.cell (j := 3) rfl)) ?_
        have lt3_bx1 := bx1.lt
        have lw3 := ff.size
        refine O.bslR rfl rfl rfl rfl rfl (qv_s_int_1 wa1 _) ?_
        rintro wa3 ⟨fa3, bx3⟩
        replace bx1 := bx1.fr fa3 id
        replace ff := ff.trans fa3
        refine WL.op rfl rfl rfl (Go.Proofs.Ytobibplilbchfaa.W.quiet_assign rfl rfl) ?_
        refine WL.nil ?_
        refine TW.rt ?_
        refine Xw.rblk ?_
        refine Xw.thn (by simp) ?_
        refine bodyw_ret rfl rfl ?_
        exact ⟨_, rfl, by rw [out_2 (by simpa using h1) (by simpa using h2) (by simpa using h3)]; exact ints1 bx3 (by omega), ff⟩
      · skip
        refine WL.op rfl rfl rfl (Go.Proofs.Ytobibplilbchfaa.W.quiet_pick rfl rfl rfl) ?_
        refine WL.op rfl rfl rfl (Go.Proofs.Ytobibplilbchfaa.W.quiet_assign rfl rfl) ?_
        refine WL.nil ?_
        refine TW.cond rfl (fun hb => by cases hb) (fun _ => ?_)
        refine TW.sreg ?_
        refine WL.op rfl rfl rfl (Go.Proofs.Ytobibplilbchfaa.W.quiet_field rfl rfl (fun W => (qa_api_Block_1 W _ _))) ?_
        refine WL.ld rfl rfl rfl rfl rfl (ql_int _ _ _ (bx1.cell (j := 1) rfl)) ?_
        refine WL.op rfl rfl rfl (Go.Proofs.Ytobibplilbchfaa.W.quiet_bin rfl rfl rfl (fun W => qb_eql_int W _ _ _ _)) ?_
        refine O.split (fun hb => ?_) (fun hb => by rw [h2] at hb; cases hb)
        refine WL.op rfl rfl rfl (Go.Proofs.Ytobibplilbchfaa.W.quiet_assign rfl rfl) ?_
        refine WL.nil ?_
        refine TW.cond rfl (fun _ => ?_) (fun hb => by cases hb)
        refine TW.sreg ?_
        refine WL.op rfl rfl rfl (Go.Proofs.Ytobibplilbchfaa.W.quiet_field rfl rfl (fun W => (qa_api_Block_3 W _ _))) ?_
        refine WL.ld rfl rfl rfl rfl rfl (ql_int _ _ _ (bx1.cell (j := 3) rfl)) ?_
        refine WL.op rfl rfl rfl (Go.Proofs.Ytobibplilbchfaa.W.quiet_field rfl rfl (fun W => (qa_api_Block_4 W _ _))) ?_
        refine WL.ld rfl rfl rfl rfl rfl (ql_int _ _ _ (bx1.cell (j := 4) rfl)) ?_
        have lt4_bx1 := bx1.lt
        have lw4 := ff.size
        refine O.bslR rfl rfl rfl rfl rfl (qv_s_int_2 wa1 _ _) ?_
        rintro wa4 ⟨fa4, bx4⟩
        replace bx1 := bx1.fr fa4 id
        replace ff := ff.trans fa4
        refine WL.op rfl rfl rfl (Go.Proofs.Ytobibplilbchfaa.W.quiet_assign rfl rfl) ?_
        refine WL.nil ?_
        refine TW.rt ?_
        refine Xw.rblk ?_
        refine Xw.thn (by simp) ?_
        refine bodyw_ret rfl rfl ?_
        exact ⟨_, rfl, by rw [out_3 (by simpa using h1) (by simpa using h2) (by simpa using h3)]; exact ints2 bx4 (by omega), ff⟩
    · skip
      refine WL.op rfl rfl rfl (Go.Proofs.Ytobibplilbchfaa.W.quiet_move rfl rfl) ?_
      refine WL.skip rfl rfl rfl ?_
      refine WL.skip rfl rfl rfl ?_
      refine WL.skip rfl rfl rfl ?_
      refine WL.skip rfl rfl rfl ?_
      refine WL.skip rfl rfl rfl ?_
      refine WL.op rfl rfl rfl (Go.Proofs.Ytobibplilbchfaa.W.quiet_pick rfl rfl rfl) ?_
      refine WL.op rfl rfl rfl (Go.Proofs.Ytobibplilbchfaa.W.quiet_assign rfl rfl) ?_
      refine WL.nil ?_
      refine TW.cond rfl (fun hb => by cases hb) (fun _ => ?_)
      refine TW.sreg ?_
      refine WL.op rfl rfl rfl (Go.Proofs.Ytobibplilbchfaa.W.quiet_field rfl rfl (fun W => (qa_api_Block_1 W _ _))) ?_
      refine WL.ld rfl rfl rfl rfl rfl (ql_int _ _ _ (bx1.cell (j := 1) rfl)) ?_
      refine WL.op rfl rfl rfl (Go.Proofs.Ytobibplilbchfaa.W.quiet_bin rfl rfl rfl (fun W => qb_eql_int W _ _ _ _)) ?_
      refine O.split (fun hb => by rw [h2] at hb; cases hb) (fun hb => ?_)
      refine WL.op rfl rfl rfl (Go.Proofs.Ytobibplilbchfaa.W.quiet_assign rfl rfl) ?_
      refine WL.nil ?_
      refine TW.cond rfl (fun hb => by cases hb) (fun _ => ?_)
      refine TW.skipx ?_
      refine Xw.nblk ?_
      refine Xw.nrm ?_
      refine TW.sreg ?_
      refine WL.op rfl rfl rfl (Go.Proofs.Ytobibplilbchfaa.W.quiet_assign rfl rfl) ?_
      refine WL.nil ?_
      refine TW.rt ?_
      refine bodyw_ret rfl rfl ?_
      exact ⟨_, rfl, by rw [out_4 (by simpa using h1) (by simpa using h2)]; exact Row.nil _ _ _ _ _, ff⟩
end Go.Proofs.Ytobibplilbchfaa
