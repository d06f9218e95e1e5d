/-
  Power (layer 33): one tick.
-/
import Derived.Test.YtdkjeiemjnmdlaaPwB
namespace Go.Proofs.Ytdkjeiemjnmdlaa
open Go.RowKit
set_option linter.unusedVariables false
set_option linter.unusedSimpArgs false
set_option linter.unnecessarySimpa false
theorem qa_power_buffer_1 (w : World) (b o : Nat) : (Instr.fieldAt 36 (.pointer (some ⟨b, o, none⟩)) 1).run Try.prog w = .ok (.pointer (some ⟨b, o + 1, none⟩)) w := by simp [go_sem]
theorem qsF_bool (w : World) (g j : Nat) (z : Array Value) (tt : TypeId) (y : Value) (up0 : Bool) (h : Bx w g z tt) (hj : z[j]? = some y) : ∃ w', (Instr.storeAt 4 (.pointer (some ⟨g, j, none⟩)) (.bool up0)).run Try.prog w = .ok () w' ∧ (Fr (fun q => q = g) w w' ∧ Bx w' g (z.setIfInBounds j (.bool up0)) tt) := by
  have c0 := h.cell hj
  have e0 := h.free j
  exact ⟨w.setCell ⟨g, j, none⟩ (.bool up0), by simp [go_sem, c0, e0], Fr.setCell _ _ _ rfl, h.set j _⟩
theorem qa_power_buffer_2 (w : World) (b o : Nat) : (Instr.fieldAt 36 (.pointer (some ⟨b, o, none⟩)) 2).run Try.prog w = .ok (.pointer (some ⟨b, o + 2, none⟩)) w := by simp [go_sem]
theorem qa_power_buffer_3 (w : World) (b o : Nat) : (Instr.fieldAt 36 (.pointer (some ⟨b, o, none⟩)) 3).run Try.prog w = .ok (.pointer (some ⟨b, o + 3, none⟩)) w := by simp [go_sem]
theorem qv_s_int_1 (w : World) (u0_m0 : Int) : (Instr.buildSlice 22 1 #[(0, .int .i64 u0_m0)]).run Try.prog w = .ok (.slice (some ⟨w.heap.size, 0, none⟩) 1 1) (w.alloc (.cells #[.int .i64 u0_m0] 3)) := by simp [go_sem]
theorem qsF_s_int (w : World) (g j : Nat) (z : Array Value) (tt : TypeId) (y : Value) (up0 : Option Addr) (uk0 ul0 : Nat) (h : Bx w g z tt) (hj : z[j]? = some y) : ∃ w', (Instr.storeAt 22 (.pointer (some ⟨g, j, none⟩)) (.slice up0 uk0 ul0)).run Try.prog w = .ok () w' ∧ (Fr (fun q => q = g) w w' ∧ Bx w' g (z.setIfInBounds j (.slice up0 uk0 ul0)) tt) := by
  have c0 := h.cell hj
  have e0 := h.free j
  exact ⟨w.setCell ⟨g, j, none⟩ (.slice up0 uk0 ul0), by simp [go_sem, c0, e0], Fr.setCell _ _ _ rfl, h.set j _⟩
theorem qa_power_buffer_0 (w : World) (b o : Nat) : (Instr.fieldAt 36 (.pointer (some ⟨b, o, none⟩)) 0).run Try.prog w = .ok (.pointer (some ⟨b, o, none⟩)) w := by simp [go_sem]
theorem qsF_int (w : World) (g j : Nat) (z : Array Value) (tt : TypeId) (y : Value) (um0 : Int) (h : Bx w g z tt) (hj : z[j]? = some y) : ∃ w', (Instr.storeAt 3 (.pointer (some ⟨g, j, none⟩)) (.int .i64 um0)).run Try.prog w = .ok () w' ∧ (Fr (fun q => q = g) w w' ∧ Bx w' g (z.setIfInBounds j (.int .i64 um0)) tt) := by
  have c0 := h.cell hj
  have e0 := h.free j
  exact ⟨w.setCell ⟨g, j, none⟩ (.int .i64 um0), by simp [go_sem, c0, e0], Fr.setCell _ _ _ rfl, h.set j _⟩
theorem ql_bool (w : World) (p : Bool) (d : Addr) (h : w.cell? d = some (.bool p)) : (Instr.loadAt 4 (.pointer (some d))).run Try.prog w = .ok (.bool p) w := by simp [go_sem, h]
theorem qb_sub_int (w : World) (x y : Operand) (m n : Int) (h0 : -9223372036854775808 ≤ m - n) (h1 : m - n ≤ 9223372036854775807) : ((do eqGuard .sub 3 x y (.int .i64 m) (.int .i64 n); binOp .sub 3 (.int .i64 m) (.int .i64 n) : Sem Value)).run Try.prog w = .ok (.int .i64 (m - n)) w := by
  have h : IntKind.i64.wrap (m - n) = m - n := IntWalk.i64_in _ (by omega)
  simp [go_sem, h]
theorem qk_power_buffer_switchOn (w : World) (vs : Array Value) : (callFunc 18 vs).run Try.prog w = .ok (.enter 18 vs) w := by simp [go_sem]
/-- The buffer in memory. -/
def BufAt (w : World) (g : Nat) (s : Pw) (v : Value) : Prop := Bx w g #[.int .i64 s.lv, .bool s.on, .int .i64 s.ex, v] 36
set_option maxRecDepth 100000 in
theorem t_swon (B g : Nat) (lv ex : Int) (on : Bool) (v : Value) (fl : List Int) (hl : fl.length ≤ 1000000) (w : World) (bxg : Bx w g #[.int .i64 lv, .bool on, .int .i64 ex, v] 36) (hg : g < B) (hB : B ≤ w.heap.size) (hv : Ints B w v fl) : Calls Try.prog 18 #[.pointer (some ⟨g, 0, none⟩)] w fun e w' => ∃ v', e = .returned (.tuple #[]) ∧ Bx w' g #[.int .i64 lv, .bool true, .int .i64 ex, v'] 36 ∧ Ints B w' v' (if 0 < ex then fl ++ [ex] else fl) ∧ Fr (fun q => q = g ∨ v.ownBlock = some q) w w' := by
  obtain ⟨a, c, rfl⟩ := Row.form hv
  have ff := Fr.refl (fun q => q = g ∨ (Value.slice a fl.length c).ownBlock = some q) w
  refine calls_tw Try.func18 rfl rfl (Nat.le_of_ble_eq_true rfl) ?_
  refine TW.sreg ?_
  refine WL.op rfl rfl rfl (Go.Proofs.Ytdkjeiemjnmdlaa.W.quiet_move rfl rfl) ?_
  refine O.nck rfl rfl rfl rfl rfl ?_
  refine WL.op rfl rfl rfl (Go.Proofs.Ytdkjeiemjnmdlaa.W.quiet_field rfl rfl (fun W => (qa_power_buffer_1 W _ _))) ?_
  refine O.storeR rfl rfl rfl rfl rfl (qsF_bool w _ 1 _ _ _ _ bxg rfl) ?_
  rintro wa1 ⟨fa1, bxgx⟩
  replace ff := ff.trans' fa1 (fun q hq e => .inl e)
  replace hv := Row.fr hv fa1 (fun k hk e => by have := (Row.lt hv k hk).1; omega)
  replace hB := Nat.le_trans hB fa1.size
  clear bxg
  have bxg := bxgx
  clear bxgx
  refine WL.nil ?_
  refine TW.sreg ?_
  refine WL.op rfl rfl rfl (Go.Proofs.Ytdkjeiemjnmdlaa.W.quiet_move rfl rfl) ?_
  refine O.nck rfl rfl rfl rfl rfl ?_
  refine WL.op rfl rfl rfl (Go.Proofs.Ytdkjeiemjnmdlaa.W.quiet_field rfl rfl (fun W => (qa_power_buffer_2 W _ _))) ?_
  refine WL.ld rfl rfl rfl rfl rfl (ql_int _ _ _ (bxg.cell (j := 2) rfl)) ?_
  refine WL.op rfl rfl rfl (Go.Proofs.Ytdkjeiemjnmdlaa.W.quiet_bin rfl rfl rfl (fun W => qb_gtr_int W _ _ _ _)) ?_
  refine O.split (fun hx => ?_) (fun hx => ?_)
  · skip
    refine WL.nil ?_
    refine TW.cond rfl (fun _ => ?_) (fun hb => by cases hb)
    refine TW.regH (fun W => Fr ((fun q => q = g ∨ (Value.slice a fl.length c).ownBlock = some q)) wa1 W) (by kernel_rfl) ?_
    have fd : Fr (fun _ => False) wa1 wa1.drew := (Fr.refl _ _).drewN 1
    have HW : Fr ((fun q => q = g ∨ (Value.slice a fl.length c).ownBlock = some q)) wa1 wa1.drew := (Fr.refl _ _).drewN 1
    replace bxg := bxg.fr fd id
    replace ff := ff.trans' fd (fun q hq e => e.elim)
    replace hv := Row.fr hv fd (fun _ _ => id)
    replace hB := Nat.le_trans hB fd.size
    generalize hV : wa1.drew = V1 at *
    clear hV
    refine WH.take 0 rfl (by kernel_rfl) (by kernel_rfl) (by kernel_rfl) (fun _ _ _ _ _ h => h) rfl rfl rfl HW (RH.move rfl rfl) ?_
    refine WH.take 1 rfl (by kernel_rfl) (by kernel_rfl) (by kernel_rfl) (fun _ _ _ _ _ h => h) rfl rfl rfl HW (RH.move rfl rfl) ?_
    refine WH.take 2 rfl (by kernel_rfl) (by kernel_rfl) (by kernel_rfl) (fun _ _ _ _ _ h => h) rfl rfl rfl HW (RH.nck rfl rfl) ?_
    refine WH.take 3 rfl (by kernel_rfl) (by kernel_rfl) (by kernel_rfl) (fun _ _ _ _ _ h => h) rfl rfl rfl HW (RH.field rfl rfl (fun W => qa_power_buffer_3 W _ _)) ?_
    refine WH.take 5 rfl (by kernel_rfl) (by kernel_rfl) (by kernel_rfl) (fun _ _ _ _ _ h => h) rfl rfl rfl HW (RH.move rfl rfl) ?_
    refine WH.take 6 rfl (by kernel_rfl) (by kernel_rfl) (by kernel_rfl) (fun _ _ _ _ _ h => h) rfl rfl rfl HW (RH.nck rfl rfl) ?_
    refine WH.take 7 rfl (by kernel_rfl) (by kernel_rfl) (by kernel_rfl) (fun _ _ _ _ _ h => h) rfl rfl rfl HW (RH.field rfl rfl (fun W => qa_power_buffer_2 W _ _)) ?_
    refine WH.two 4 8 (by kernel_rfl) rfl rfl ?_ ?_ 
    · skip
      refine WL.ld rfl rfl rfl rfl rfl (ql_s_int _ _ _ _ _ (bxg.cell (j := 3) rfl)) ?_
      refine WL.fin HW ?_
      refine WH.one 8 (by kernel_rfl) rfl ?_ 
      refine WL.ld rfl rfl rfl rfl rfl (ql_int _ _ _ (bxg.cell (j := 2) rfl)) ?_
      refine WL.fin HW ?_
      refine WH.one 9 (by kernel_rfl) rfl ?_ 
      refine O.bsl rfl rfl rfl rfl rfl (qv_s_int_1 _ _) ?_
      refine WL.fin (fr_al HW _) ?_
      refine WH.one 10 (by kernel_rfl) rfl ?_ 
      refine WL.append rfl rfl rfl rfl rfl rfl (Ints.app ex _ hv hB (by omega)) ?_
      rintro v3 w3 ⟨hv3, hF3, ho3⟩
      have hv3k : ∀ k, v3.ownBlock = some k → B ≤ k := fun k hk => (Row.lt hv3 k hk).1
      have hvk := hv
      replace HW := HW.trans' hF3 (fun q hq e => .inr e)
      replace bxg := bxg.fr hF3 (fun e => by have := (Row.lt hvk _ e).1; omega)
      replace ff := ff.trans' hF3 (fun q hq e => .inr e)
      replace hB := Nat.le_trans hB hF3.size
      clear hv hvk
      have hv := hv3
      obtain ⟨a3, c3, rfl⟩ := Row.form hv
      -- world w3
      refine WL.fin HW ?_
      refine WH.take 11 rfl (by kernel_rfl) (by kernel_rfl) (by kernel_rfl) (fun _ _ _ _ _ h => h) rfl rfl rfl HW (RH.nck rfl rfl) ?_
      refine WH.take 12 rfl (by kernel_rfl) (by kernel_rfl) (by kernel_rfl) (fun _ _ _ _ _ h => h) rfl rfl rfl HW (RH.field rfl rfl (fun W => qa_power_buffer_3 W _ _)) ?_
      refine WH.one 13 (by kernel_rfl) rfl ?_ 
      refine O.storeR rfl rfl rfl rfl rfl (qsF_s_int w3 _ 3 _ _ _ _ _ _ bxg rfl) ?_
      rintro wa2 ⟨fa2, bxgx⟩
      replace ff := ff.trans' fa2 (fun q hq e => .inl e)
      replace hv := Row.fr hv fa2 (fun k hk e => by have := (Row.lt hv k hk).1; omega)
      replace hB := Nat.le_trans hB fa2.size
      replace HW := HW.trans' fa2 (fun q hq e => .inl e)
      clear bxg
      have bxg := bxgx
      clear bxgx
      refine WL.fin HW ?_
      refine WH.end (by kernel_rfl) ?_
      refine O.end0 rfl ?_
      refine ⟨_, rfl, bxg, ?_, ff⟩
      rw [if_pos (of_decide_eq_true hx)]
      exact hv
    · skip
      refine WL.ld rfl rfl rfl rfl rfl (ql_int _ _ _ (bxg.cell (j := 2) rfl)) ?_
      refine WL.fin HW ?_
      refine WH.two 4 9 (by kernel_rfl) rfl rfl ?_ ?_ 
      · skip
        refine WL.ld rfl rfl rfl rfl rfl (ql_s_int _ _ _ _ _ (bxg.cell (j := 3) rfl)) ?_
        refine WL.fin HW ?_
        refine WH.one 9 (by kernel_rfl) rfl ?_ 
        refine O.bsl rfl rfl rfl rfl rfl (qv_s_int_1 _ _) ?_
        refine WL.fin (fr_al HW _) ?_
        refine WH.one 10 (by kernel_rfl) rfl ?_ 
        refine WL.append rfl rfl rfl rfl rfl rfl (Ints.app ex _ hv hB (by omega)) ?_
        rintro v3 w3 ⟨hv3, hF3, ho3⟩
        have hv3k : ∀ k, v3.ownBlock = some k → B ≤ k := fun k hk => (Row.lt hv3 k hk).1
        have hvk := hv
        replace HW := HW.trans' hF3 (fun q hq e => .inr e)
        replace bxg := bxg.fr hF3 (fun e => by have := (Row.lt hvk _ e).1; omega)
        replace ff := ff.trans' hF3 (fun q hq e => .inr e)
        replace hB := Nat.le_trans hB hF3.size
        clear hv hvk
        have hv := hv3
        obtain ⟨a3, c3, rfl⟩ := Row.form hv
        -- world w3
        refine WL.fin HW ?_
        refine WH.take 11 rfl (by kernel_rfl) (by kernel_rfl) (by kernel_rfl) (fun _ _ _ _ _ h => h) rfl rfl rfl HW (RH.nck rfl rfl) ?_
        refine WH.take 12 rfl (by kernel_rfl) (by kernel_rfl) (by kernel_rfl) (fun _ _ _ _ _ h => h) rfl rfl rfl HW (RH.field rfl rfl (fun W => qa_power_buffer_3 W _ _)) ?_
        refine WH.one 13 (by kernel_rfl) rfl ?_ 
        refine O.storeR rfl rfl rfl rfl rfl (qsF_s_int w3 _ 3 _ _ _ _ _ _ bxg rfl) ?_
        rintro wa3 ⟨fa3, bxgx⟩
        replace ff := ff.trans' fa3 (fun q hq e => .inl e)
        replace hv := Row.fr hv fa3 (fun k hk e => by have := (Row.lt hv k hk).1; omega)
        replace hB := Nat.le_trans hB fa3.size
        replace HW := HW.trans' fa3 (fun q hq e => .inl e)
        clear bxg
        have bxg := bxgx
        clear bxgx
        refine WL.fin HW ?_
        refine WH.end (by kernel_rfl) ?_
        refine O.end0 rfl ?_
        refine ⟨_, rfl, bxg, ?_, ff⟩
        rw [if_pos (of_decide_eq_true hx)]
        exact hv
      · skip
        refine O.bsl rfl rfl rfl rfl rfl (qv_s_int_1 _ _) ?_
        refine WL.fin (fr_al HW _) ?_
        refine WH.one 4 (by kernel_rfl) rfl ?_ 
        refine WL.ld rfl rfl rfl rfl rfl (ql_s_int _ _ _ _ _ ((bxg.fr (fr_al (Fr.refl (fun _ => False) _) _) id).cell (j := 3) rfl)) ?_
        refine WL.fin (fr_al HW _) ?_
        refine WH.one 10 (by kernel_rfl) rfl ?_ 
        refine WL.append rfl rfl rfl rfl rfl rfl (Ints.app ex _ hv hB (by omega)) ?_
        rintro v3 w3 ⟨hv3, hF3, ho3⟩
        have hv3k : ∀ k, v3.ownBlock = some k → B ≤ k := fun k hk => (Row.lt hv3 k hk).1
        have hvk := hv
        replace HW := HW.trans' hF3 (fun q hq e => .inr e)
        replace bxg := bxg.fr hF3 (fun e => by have := (Row.lt hvk _ e).1; omega)
        replace ff := ff.trans' hF3 (fun q hq e => .inr e)
        replace hB := Nat.le_trans hB hF3.size
        clear hv hvk
        have hv := hv3
        obtain ⟨a3, c3, rfl⟩ := Row.form hv
        -- world w3
        refine WL.fin HW ?_
        refine WH.take 11 rfl (by kernel_rfl) (by kernel_rfl) (by kernel_rfl) (fun _ _ _ _ _ h => h) rfl rfl rfl HW (RH.nck rfl rfl) ?_
        refine WH.take 12 rfl (by kernel_rfl) (by kernel_rfl) (by kernel_rfl) (fun _ _ _ _ _ h => h) rfl rfl rfl HW (RH.field rfl rfl (fun W => qa_power_buffer_3 W _ _)) ?_
        refine WH.one 13 (by kernel_rfl) rfl ?_ 
        refine O.storeR rfl rfl rfl rfl rfl (qsF_s_int w3 _ 3 _ _ _ _ _ _ bxg rfl) ?_
        rintro wa4 ⟨fa4, bxgx⟩
        replace ff := ff.trans' fa4 (fun q hq e => .inl e)
        replace hv := Row.fr hv fa4 (fun k hk e => by have := (Row.lt hv k hk).1; omega)
        replace hB := Nat.le_trans hB fa4.size
        replace HW := HW.trans' fa4 (fun q hq e => .inl e)
        clear bxg
        have bxg := bxgx
        clear bxgx
        refine WL.fin HW ?_
        refine WH.end (by kernel_rfl) ?_
        refine O.end0 rfl ?_
        refine ⟨_, rfl, bxg, ?_, ff⟩
        rw [if_pos (of_decide_eq_true hx)]
        exact hv
  · skip
    refine WL.nil ?_
    refine TW.cond rfl (fun hb => by cases hb) (fun _ => ?_)
    refine TW.skipx ?_
    refine O.end0 rfl ?_
    refine ⟨_, rfl, bxg, ?_, ff⟩
    rw [if_neg (of_decide_eq_false hx)]
    exact hv
set_option maxRecDepth 100000 in
theorem t_tick (B g : Nat) (oa : Option Addr) (n sc : Nat) (room lim lv ex en : Int) (on : Bool) (v : Value) (fl : List Int) (hr0 : 0 ≤ room) (hr : room ≤ 1048576) (h0 : 0 ≤ lv) (h1 : lv ≤ 1048576) (he0 : 0 ≤ en) (he1 : en ≤ 1048576) (hx0 : 0 ≤ ex) (hx1 : ex ≤ 10000000) (hl : fl.length ≤ 1000000) (w : World) (bxg : Bx w g #[.int .i64 lv, .bool on, .int .i64 ex, v] 36) (hg : g < B) (hB : B ≤ w.heap.size) (hv : Ints B w v fl) : Calls Try.prog 13 #[.pointer (some ⟨g, 0, none⟩), .agg #[.slice oa n sc, .int .i64 room, .int .i64 lim], .int .i64 en] w fun e w' => ∃ v', e = .returned (.tuple #[]) ∧ BufAt w' g (Pw.tick room lim ⟨lv, on, ex, fl⟩ en) v' ∧ Ints B w' v' (Pw.tick room lim ⟨lv, on, ex, fl⟩ en).fl ∧ Fr (fun q => q = g ∨ v.ownBlock = some q) w w' := by
  obtain ⟨a, c, rfl⟩ := Row.form hv
  have ff := Fr.refl (fun q => q = g ∨ (Value.slice a fl.length c).ownBlock = some q) w
  refine calls_tw Try.func13 rfl rfl (Nat.le_of_ble_eq_true rfl) ?_
  refine TW.sreg ?_
  have lt1_bxg := bxg.lt
  refine O.boxR rfl rfl rfl rfl rfl (qxR_power_Supply w _ _ _ _ _) ?_
  rintro wa1 ⟨fa1, bx1⟩
  replace bxg := bxg.fr fa1 id
  replace ff := ff.trans' fa1 (fun q hq e => e.elim)
  replace hv := Row.fr hv fa1 (fun _ _ => id)
  replace hB := Nat.le_trans hB fa1.size
  refine WL.nil ?_
  have b4 := bx1
  have l4 := bx1.lt
  refine TW.sregH (fun W => Fr (fun q => q = g) wa1 W) (by kernel_rfl) ?_
  have fd : Fr (fun _ => False) wa1 wa1.drew := (Fr.refl _ _).drewN 1
  have HW : Fr (fun q => q = g) wa1 wa1.drew := (Fr.refl _ _).drewN 1
  replace bxg := bxg.fr fd id
  replace bx1 := bx1.fr fd id
  replace ff := ff.trans' fd (fun q hq e => e.elim)
  replace hv := Row.fr hv fd (fun _ _ => id)
  replace hB := Nat.le_trans hB fd.size
  generalize hV : wa1.drew = V1 at *
  clear hV
  refine WH.take 0 rfl (by kernel_rfl) (by kernel_rfl) (by kernel_rfl) (fun _ _ _ _ _ h => h) rfl rfl rfl HW (RH.move rfl rfl) ?_
  refine WH.take 1 rfl (by kernel_rfl) (by kernel_rfl) (by kernel_rfl) (fun _ _ _ _ _ h => h) rfl rfl rfl HW (RH.move rfl rfl) ?_
  refine WH.take 2 rfl (by kernel_rfl) (by kernel_rfl) (by kernel_rfl) (fun _ _ _ _ _ h => h) rfl rfl rfl HW (RH.nck rfl rfl) ?_
  refine WH.take 3 rfl (by kernel_rfl) (by kernel_rfl) (by kernel_rfl) (fun _ _ _ _ _ h => h) rfl rfl rfl HW (RH.field rfl rfl (fun W => qa_power_buffer_0 W _ _)) ?_
  refine WH.take 5 rfl (by kernel_rfl) (by kernel_rfl) (by kernel_rfl) (fun _ _ _ _ _ h => h) rfl rfl rfl HW (RH.move rfl rfl) ?_
  refine WH.take 7 rfl (by kernel_rfl) (by kernel_rfl) (by kernel_rfl) (fun _ _ _ _ _ h => h) rfl rfl rfl HW (RH.field rfl rfl (fun W => qa_power_Supply_1 W _ _)) ?_
  refine WH.take 8 rfl (by kernel_rfl) (by kernel_rfl) (by kernel_rfl) (fun _ _ _ _ _ h => h) rfl rfl rfl HW (RH.load rfl rfl (fun W hW => (ql_int _ _ _ ((b4.fr hW (fun e => by omega)).cell (j := 1) rfl)))) ?_
  refine WH.one 4 (by kernel_rfl) rfl ?_ 
  refine WL.ld rfl rfl rfl rfl rfl (ql_int _ _ _ (bxg.cell (j := 0) rfl)) ?_
  refine WL.fin HW ?_
  refine WH.take 6 rfl (by kernel_rfl) (by kernel_rfl) (by kernel_rfl) (fun _ _ _ _ _ h => h) rfl rfl rfl HW (RH.bin rfl rfl rfl (fun W => qb_add_int W _ _ _ _ (by omega) (by omega))) ?_
  refine WH.one 9 (by kernel_rfl) rfl ?_ 
  refine O.bmin rfl rfl rfl rfl rfl rfl (bi_min _ _ _ _) ?_
  refine WL.fin HW ?_
  refine WH.take 10 rfl (by kernel_rfl) (by kernel_rfl) (by kernel_rfl) (fun _ _ _ _ _ h => h) rfl rfl rfl HW (RH.nck rfl rfl) ?_
  refine WH.take 11 rfl (by kernel_rfl) (by kernel_rfl) (by kernel_rfl) (fun _ _ _ _ _ h => h) rfl rfl rfl HW (RH.field rfl rfl (fun W => qa_power_buffer_0 W _ _)) ?_
  refine WH.one 12 (by kernel_rfl) rfl ?_ 
  refine O.storeR rfl rfl rfl rfl rfl (qsF_int V1 _ 0 _ _ _ _ bxg rfl) ?_
  rintro wa2 ⟨fa2, bxgx⟩
  replace bx1 := bx1.fr fa2 (fun e => by omega)
  replace ff := ff.trans' fa2 (fun q hq e => .inl e)
  replace hv := Row.fr hv fa2 (fun k hk e => by have := (Row.lt hv k hk).1; omega)
  replace hB := Nat.le_trans hB fa2.size
  replace HW := HW.trans' fa2 (fun q hq e => e)
  clear bxg
  have bxg := bxgx
  clear bxgx
  refine WL.fin HW ?_
  refine WH.done (by kernel_rfl) ?_
  have hm0 : 0 ≤ min (lv + en) room ∧ min (lv + en) room ≤ 1048576 := by omega
  refine TW.seq ?_
  refine Q.sreg (C := fun W => Fr (fun _ => False) wa2 W) (by kernel_rfl) (by kernel_rfl) (fun W h => h.drewN 1) (Fr.refl _ _) ?_
  refine W.op rfl rfl rfl (Go.Proofs.Ytdkjeiemjnmdlaa.W.quiet_move rfl rfl) ?_
  refine W.op rfl rfl rfl (Q.nck rfl rfl) ?_
  refine W.op rfl rfl rfl (Go.Proofs.Ytdkjeiemjnmdlaa.W.quiet_field rfl rfl (fun W => (qa_power_buffer_1 W _ _))) ?_
  refine W.op rfl rfl rfl (Go.Proofs.Ytdkjeiemjnmdlaa.W.quiet_load rfl rfl (fun W hW => (ql_bool _ _ _ ((bxg.fr hW id).cell (j := 1) rfl)))) ?_
  refine Q.split (fun ho => ?_) (fun ho => ?_)
  · skip
    have hon : on = true := ho
    subst hon
    refine W.op rfl rfl rfl (Go.Proofs.Ytdkjeiemjnmdlaa.W.quiet_not rfl rfl) ?_
    refine W.op rfl rfl rfl (Go.Proofs.Ytdkjeiemjnmdlaa.W.quiet_move rfl rfl) ?_
    refine W.skip rfl rfl rfl ?_
    refine W.skip rfl rfl rfl ?_
    refine W.skip rfl rfl rfl ?_
    refine W.skip rfl rfl rfl ?_
    refine W.skip rfl rfl rfl ?_
    refine W.skip rfl rfl rfl ?_
    refine W.skip rfl rfl rfl ?_
    refine W.op rfl rfl rfl (Go.Proofs.Ytdkjeiemjnmdlaa.W.quiet_pick rfl rfl rfl) ?_
    refine Q.nil (T.tw fun wq1 fq1 => ?_)
    replace bxg := bxg.fr fq1 id
    replace bx1 := bx1.fr fq1 id
    replace ff := ff.trans' fq1 (fun q hq e => e.elim)
    replace hv := Row.fr hv fq1 (fun _ _ => id)
    replace hB := Nat.le_trans hB fq1.size
    refine TW.cond rfl (fun hb => by cases hb) (fun _ => ?_)
    refine TW.skip ?_
    refine TW.sreg ?_
    refine WL.op rfl rfl rfl (Go.Proofs.Ytdkjeiemjnmdlaa.W.quiet_move rfl rfl) ?_
    refine O.nck rfl rfl rfl rfl rfl ?_
    refine WL.op rfl rfl rfl (Go.Proofs.Ytdkjeiemjnmdlaa.W.quiet_field rfl rfl (fun W => (qa_power_buffer_1 W _ _))) ?_
    refine WL.ld rfl rfl rfl rfl rfl (ql_bool _ _ _ (bxg.cell (j := 1) rfl)) ?_
    refine O.split (fun hb => ?_) (fun hb => by exfalso; revert hb; first | (simp; done) | (simp; omega))
    refine WL.nil ?_
    refine TW.cond rfl (fun _ => ?_) (fun hb => by cases hb)
    refine TW.sreg ?_
    refine WL.op rfl rfl rfl (Go.Proofs.Ytdkjeiemjnmdlaa.W.quiet_move rfl rfl) ?_
    refine O.nck rfl rfl rfl rfl rfl ?_
    refine WL.op rfl rfl rfl (Go.Proofs.Ytdkjeiemjnmdlaa.W.quiet_field rfl rfl (fun W => (qa_power_buffer_2 W _ _))) ?_
    refine WL.ld rfl rfl rfl rfl rfl (ql_int _ _ _ (bxg.cell (j := 2) rfl)) ?_
    refine WL.op rfl rfl rfl (Go.Proofs.Ytdkjeiemjnmdlaa.W.quiet_bin rfl rfl rfl (fun W => qb_add_int W _ _ _ _ (by omega) (by omega))) ?_
    refine O.nck rfl rfl rfl rfl rfl ?_
    refine WL.op rfl rfl rfl (Go.Proofs.Ytdkjeiemjnmdlaa.W.quiet_field rfl rfl (fun W => (qa_power_buffer_2 W _ _))) ?_
    refine O.storeR rfl rfl rfl rfl rfl (qsF_int wq1 _ 2 _ _ _ _ bxg rfl) ?_
    rintro wa3 ⟨fa3, bxgx⟩
    replace bx1 := bx1.fr fa3 (fun e => by omega)
    replace ff := ff.trans' fa3 (fun q hq e => .inl e)
    replace hv := Row.fr hv fa3 (fun k hk e => by have := (Row.lt hv k hk).1; omega)
    replace hB := Nat.le_trans hB fa3.size
    clear bxg
    have bxg := bxgx
    clear bxgx
    refine WL.nil ?_
    refine TW.sreg ?_
    refine WL.op rfl rfl rfl (Go.Proofs.Ytdkjeiemjnmdlaa.W.quiet_move rfl rfl) ?_
    refine O.nck rfl rfl rfl rfl rfl ?_
    refine WL.op rfl rfl rfl (Go.Proofs.Ytdkjeiemjnmdlaa.W.quiet_field rfl rfl (fun W => (qa_power_buffer_0 W _ _))) ?_
    refine WL.ld rfl rfl rfl rfl rfl (ql_int _ _ _ (bxg.cell (j := 0) rfl)) ?_
    refine WL.op rfl rfl rfl (Go.Proofs.Ytdkjeiemjnmdlaa.W.quiet_bin rfl rfl rfl (fun W => qb_sub_int W _ _ _ _ (by omega) (by omega))) ?_
    refine O.nck rfl rfl rfl rfl rfl ?_
    refine WL.op rfl rfl rfl (Go.Proofs.Ytdkjeiemjnmdlaa.W.quiet_field rfl rfl (fun W => (qa_power_buffer_0 W _ _))) ?_
    refine O.storeR rfl rfl rfl rfl rfl (qsF_int wa3 _ 0 _ _ _ _ bxg rfl) ?_
    rintro wa4 ⟨fa4, bxgx⟩
    replace bx1 := bx1.fr fa4 (fun e => by omega)
    replace ff := ff.trans' fa4 (fun q hq e => .inl e)
    replace hv := Row.fr hv fa4 (fun k hk e => by have := (Row.lt hv k hk).1; omega)
    replace hB := Nat.le_trans hB fa4.size
    clear bxg
    have bxg := bxgx
    clear bxgx
    refine WL.nil ?_
    refine TW.reg ?_
    refine WL.op rfl rfl rfl (Go.Proofs.Ytdkjeiemjnmdlaa.W.quiet_move rfl rfl) ?_
    refine WL.op rfl rfl rfl (Go.Proofs.Ytdkjeiemjnmdlaa.W.quiet_move rfl rfl) ?_
    refine O.nck rfl rfl rfl rfl rfl ?_
    refine WL.op rfl rfl rfl (Go.Proofs.Ytdkjeiemjnmdlaa.W.quiet_field rfl rfl (fun W => (qa_power_buffer_0 W _ _))) ?_
    refine WL.ld rfl rfl rfl rfl rfl (ql_int _ _ _ (bxg.cell (j := 0) rfl)) ?_
    refine WL.op rfl rfl rfl (Go.Proofs.Ytdkjeiemjnmdlaa.W.quiet_bin rfl rfl rfl (fun W => qb_gtr_int W _ _ _ _)) ?_
    refine O.nck rfl rfl rfl rfl rfl ?_
    refine WL.op rfl rfl rfl (Go.Proofs.Ytdkjeiemjnmdlaa.W.quiet_field rfl rfl (fun W => (qa_power_buffer_1 W _ _))) ?_
    refine O.storeR rfl rfl rfl rfl rfl (qsF_bool wa4 _ 1 _ _ _ _ bxg rfl) ?_
    rintro wa5 ⟨fa5, bxgx⟩
    replace bx1 := bx1.fr fa5 (fun e => by omega)
    replace ff := ff.trans' fa5 (fun q hq e => .inl e)
    replace hv := Row.fr hv fa5 (fun k hk e => by have := (Row.lt hv k hk).1; omega)
    replace hB := Nat.le_trans hB fa5.size
    clear bxg
    have bxg := bxgx
    clear bxgx
    refine WL.end ?_
    refine O.end0 rfl ?_
    have hs := tick_on (room := room) (lim := lim) (lv := lv) (ex := ex) (en := en) (fl := fl)
    refine ⟨.slice a fl.length c, rfl, ?_, ?_, ff⟩
    · rw [hs]; exact bxg
    · rw [hs]; exact hv
  · skip
    have hon : on = false := ho
    subst hon
    refine W.op rfl rfl rfl (Go.Proofs.Ytdkjeiemjnmdlaa.W.quiet_not rfl rfl) ?_
    refine W.op rfl rfl rfl (Go.Proofs.Ytdkjeiemjnmdlaa.W.quiet_move rfl rfl) ?_
    refine W.op rfl rfl rfl (Go.Proofs.Ytdkjeiemjnmdlaa.W.quiet_move rfl rfl) ?_
    refine W.op rfl rfl rfl (Q.nck rfl rfl) ?_
    refine W.op rfl rfl rfl (Go.Proofs.Ytdkjeiemjnmdlaa.W.quiet_field rfl rfl (fun W => (qa_power_buffer_0 W _ _))) ?_
    refine W.op rfl rfl rfl (Go.Proofs.Ytdkjeiemjnmdlaa.W.quiet_load rfl rfl (fun W hW => (ql_int _ _ _ ((bxg.fr hW id).cell (j := 0) rfl)))) ?_
    refine W.op rfl rfl rfl (Go.Proofs.Ytdkjeiemjnmdlaa.W.quiet_field rfl rfl (fun W => (qa_power_Supply_2 W _ _))) ?_
    refine W.op rfl rfl rfl (Go.Proofs.Ytdkjeiemjnmdlaa.W.quiet_load rfl rfl (fun W hW => (ql_int _ _ _ ((bx1.fr hW id).cell (j := 2) rfl)))) ?_
    refine W.op rfl rfl rfl (Go.Proofs.Ytdkjeiemjnmdlaa.W.quiet_bin rfl rfl rfl (fun W => qb_geq_int W _ _ _ _)) ?_
    refine Q.split (fun hq => ?_) (fun hq => ?_)
    · skip
      have hsw := of_decide_eq_true hq
      refine W.op rfl rfl rfl (Go.Proofs.Ytdkjeiemjnmdlaa.W.quiet_pick rfl rfl rfl) ?_
      refine Q.nil (T.tw fun wq2 fq2 => ?_)
      replace bxg := bxg.fr fq2 id
      replace ff := ff.trans' fq2 (fun q hq e => e.elim)
      replace hv := Row.fr hv fq2 (fun _ _ => id)
      replace hB := Nat.le_trans hB fq2.size
      refine TW.cond rfl (fun _ => ?_) (fun hb => by cases hb)
      refine TW.reg ?_
      refine WL.op rfl rfl rfl (Go.Proofs.Ytdkjeiemjnmdlaa.W.quiet_move rfl rfl) ?_
      refine WL.call (hr := (t_swon B g _ ex false _ fl (by omega) _ bxg hg hB hv)) rfl rfl rfl rfl rfl (fun W => qk_power_buffer_switchOn W _) ?_
      rintro e w9 ⟨v9, rfl, bxg9, hv9, f9⟩
      refine ⟨_, rfl, ?_⟩
      replace ff := ff.trans' f9 (fun q hq e => e)
      replace hB := Nat.le_trans hB f9.size
      clear bxg hv
      have bxg := bxg9
      have hv := hv9
      obtain ⟨a9, c9, rfl⟩ := Row.form hv
      refine WL.nil ?_
      refine TW.sreg ?_
      refine WL.op rfl rfl rfl (Go.Proofs.Ytdkjeiemjnmdlaa.W.quiet_move rfl rfl) ?_
      refine O.nck rfl rfl rfl rfl rfl ?_
      refine WL.op rfl rfl rfl (Go.Proofs.Ytdkjeiemjnmdlaa.W.quiet_field rfl rfl (fun W => (qa_power_buffer_1 W _ _))) ?_
      refine WL.ld rfl rfl rfl rfl rfl (ql_bool _ _ _ (bxg.cell (j := 1) rfl)) ?_
      refine O.split (fun hb => ?_) (fun hb => by exfalso; revert hb; first | (simp; done) | (simp; omega))
      refine WL.nil ?_
      refine TW.cond rfl (fun _ => ?_) (fun hb => by cases hb)
      refine TW.sreg ?_
      refine WL.op rfl rfl rfl (Go.Proofs.Ytdkjeiemjnmdlaa.W.quiet_move rfl rfl) ?_
      refine O.nck rfl rfl rfl rfl rfl ?_
      refine WL.op rfl rfl rfl (Go.Proofs.Ytdkjeiemjnmdlaa.W.quiet_field rfl rfl (fun W => (qa_power_buffer_2 W _ _))) ?_
      refine WL.ld rfl rfl rfl rfl rfl (ql_int _ _ _ (bxg.cell (j := 2) rfl)) ?_
      refine WL.op rfl rfl rfl (Go.Proofs.Ytdkjeiemjnmdlaa.W.quiet_bin rfl rfl rfl (fun W => qb_add_int W _ _ _ _ (by omega) (by omega))) ?_
      refine O.nck rfl rfl rfl rfl rfl ?_
      refine WL.op rfl rfl rfl (Go.Proofs.Ytdkjeiemjnmdlaa.W.quiet_field rfl rfl (fun W => (qa_power_buffer_2 W _ _))) ?_
      refine O.storeR rfl rfl rfl rfl rfl (qsF_int w9 _ 2 _ _ _ _ bxg rfl) ?_
      rintro wa6 ⟨fa6, bxgx⟩
      replace ff := ff.trans' fa6 (fun q hq e => .inl e)
      replace hv := Row.fr hv fa6 (fun k hk e => by have := (Row.lt hv k hk).1; omega)
      replace hB := Nat.le_trans hB fa6.size
      clear bxg
      have bxg := bxgx
      clear bxgx
      refine WL.nil ?_
      refine TW.sreg ?_
      refine WL.op rfl rfl rfl (Go.Proofs.Ytdkjeiemjnmdlaa.W.quiet_move rfl rfl) ?_
      refine O.nck rfl rfl rfl rfl rfl ?_
      refine WL.op rfl rfl rfl (Go.Proofs.Ytdkjeiemjnmdlaa.W.quiet_field rfl rfl (fun W => (qa_power_buffer_0 W _ _))) ?_
      refine WL.ld rfl rfl rfl rfl rfl (ql_int _ _ _ (bxg.cell (j := 0) rfl)) ?_
      refine WL.op rfl rfl rfl (Go.Proofs.Ytdkjeiemjnmdlaa.W.quiet_bin rfl rfl rfl (fun W => qb_sub_int W _ _ _ _ (by omega) (by omega))) ?_
      refine O.nck rfl rfl rfl rfl rfl ?_
      refine WL.op rfl rfl rfl (Go.Proofs.Ytdkjeiemjnmdlaa.W.quiet_field rfl rfl (fun W => (qa_power_buffer_0 W _ _))) ?_
      refine O.storeR rfl rfl rfl rfl rfl (qsF_int wa6 _ 0 _ _ _ _ bxg rfl) ?_
      rintro wa7 ⟨fa7, bxgx⟩
      replace ff := ff.trans' fa7 (fun q hq e => .inl e)
      replace hv := Row.fr hv fa7 (fun k hk e => by have := (Row.lt hv k hk).1; omega)
      replace hB := Nat.le_trans hB fa7.size
      clear bxg
      have bxg := bxgx
      clear bxgx
      refine WL.nil ?_
      refine TW.reg ?_
      refine WL.op rfl rfl rfl (Go.Proofs.Ytdkjeiemjnmdlaa.W.quiet_move rfl rfl) ?_
      refine WL.op rfl rfl rfl (Go.Proofs.Ytdkjeiemjnmdlaa.W.quiet_move rfl rfl) ?_
      refine O.nck rfl rfl rfl rfl rfl ?_
      refine WL.op rfl rfl rfl (Go.Proofs.Ytdkjeiemjnmdlaa.W.quiet_field rfl rfl (fun W => (qa_power_buffer_0 W _ _))) ?_
      refine WL.ld rfl rfl rfl rfl rfl (ql_int _ _ _ (bxg.cell (j := 0) rfl)) ?_
      refine WL.op rfl rfl rfl (Go.Proofs.Ytdkjeiemjnmdlaa.W.quiet_bin rfl rfl rfl (fun W => qb_gtr_int W _ _ _ _)) ?_
      refine O.nck rfl rfl rfl rfl rfl ?_
      refine WL.op rfl rfl rfl (Go.Proofs.Ytdkjeiemjnmdlaa.W.quiet_field rfl rfl (fun W => (qa_power_buffer_1 W _ _))) ?_
      refine O.storeR rfl rfl rfl rfl rfl (qsF_bool wa7 _ 1 _ _ _ _ bxg rfl) ?_
      rintro wa8 ⟨fa8, bxgx⟩
      replace ff := ff.trans' fa8 (fun q hq e => .inl e)
      replace hv := Row.fr hv fa8 (fun k hk e => by have := (Row.lt hv k hk).1; omega)
      replace hB := Nat.le_trans hB fa8.size
      clear bxg
      have bxg := bxgx
      clear bxgx
      refine WL.end ?_
      refine O.end0 rfl ?_
      have hs := tick_sw (ex := ex) (fl := fl) hsw
      refine ⟨.slice a9 (if 0 < ex then fl ++ [ex] else fl).length c9, rfl, ?_, ?_, ff⟩
      · rw [hs]; exact bxg
      · rw [hs]; exact hv
    · skip
      refine W.op rfl rfl rfl (Go.Proofs.Ytdkjeiemjnmdlaa.W.quiet_pick rfl rfl rfl) ?_
      refine Q.nil (T.tw fun wq3 fq3 => ?_)
      replace bxg := bxg.fr fq3 id
      replace bx1 := bx1.fr fq3 id
      replace ff := ff.trans' fq3 (fun q hq e => e.elim)
      replace hv := Row.fr hv fq3 (fun _ _ => id)
      replace hB := Nat.le_trans hB fq3.size
      refine TW.cond rfl (fun hb => by cases hb) (fun _ => ?_)
      refine TW.skip ?_
      refine TW.sreg ?_
      refine WL.op rfl rfl rfl (Go.Proofs.Ytdkjeiemjnmdlaa.W.quiet_move rfl rfl) ?_
      refine O.nck rfl rfl rfl rfl rfl ?_
      refine WL.op rfl rfl rfl (Go.Proofs.Ytdkjeiemjnmdlaa.W.quiet_field rfl rfl (fun W => (qa_power_buffer_1 W _ _))) ?_
      refine WL.ld rfl rfl rfl rfl rfl (ql_bool _ _ _ (bxg.cell (j := 1) rfl)) ?_
      refine O.split (fun hb => by exfalso; revert hb; first | (simp; done) | (simp; omega)) (fun hb => ?_)
      refine WL.nil ?_
      refine TW.cond rfl (fun hb => by cases hb) (fun _ => ?_)
      refine TW.skipx ?_
      refine O.end0 rfl ?_
      have hs := tick_off (ex := ex) (fl := fl) (of_decide_eq_false hq)
      refine ⟨.slice a fl.length c, rfl, ?_, ?_, ff⟩
      · rw [hs]; exact bxg
      · rw [hs]; exact hv
end Go.Proofs.Ytdkjeiemjnmdlaa
