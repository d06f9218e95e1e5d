/-
  Listing (layer 6): a number, a register and a name, read.
-/
import Derived.Test.YtlagdgkjpnocfaaGreatDoorLsI
namespace Go.Proofs.YtlagdgkjpnocfaaGreatDoor
open Go.RowKit
set_option linter.unusedVariables false
set_option linter.unusedSimpArgs false
def RwL (w : World) (g : Nat) (z : Array Value) (t : TypeId) : Prop := w.heap[g]? = some (.cells z t (0, 0))
theorem RwL.fr {w w' : World} {g : Nat} {z : Array Value} {t : TypeId} {F : Nat → Prop} (h : RwL w g z t) (hf : Fr F w w') (hn : ¬F g) : RwL w' g z t := (hf.block g (Array.getElem?_eq_some_iff.1 h).1 hn).trans h
theorem RwL.cell {w : World} {g : Nat} {z : Array Value} {t : TypeId} (h : RwL w g z t) {j : Nat} {v : Value} (hv : z[j]? = some v) : w.cell? ⟨g, j, none⟩ = some v := by
  rw [cell_of_row w g j _ _ _ h]; exact hv
theorem RwL.free {w : World} {g : Nat} {z : Array Value} {t : TypeId} (h : RwL w g z t) (j : Nat) : w.frozen? ⟨g, j, none⟩ = false := frozen_of_row w g j _ _ h
theorem RwL.set {w : World} {g : Nat} {z : Array Value} {t : TypeId} (h : RwL w g z t) (j : Nat) (v : Value) : RwL (w.setCell ⟨g, j, none⟩ v) g (z.setIfInBounds j v) t := heap_setCell_same w g j _ _ _ h
theorem bytes_fr (w : World) (t : ByteArray) : Fr (fun _ => False) w (Lib.bytesWorld w 5 t) := ⟨rfl, rfl, by rw [Lib.bytesWorld_size]; omega, fun k hk _ => Lib.bytesWorld_at_old w _ t k hk⟩
/-- The errors that Atoi hands back are laid. -/
def ErW (w : World) : Prop := (∃ te pe, w.cell? ⟨1, 0, none⟩ = some (.iface te pe)) ∧ (∃ te pe, w.cell? ⟨2, 0, none⟩ = some (.iface te pe))
theorem ErW.fr {w w' : World} {F : Nat → Prop} (h : ErW w) (hf : Fr F w w') (h1 : ¬F 1) (h2 : ¬F 2) : ErW w' := by
  obtain ⟨⟨a, b, h3⟩, ⟨c, d, h4⟩⟩ := h
  exact ⟨⟨a, b, hf.cell h3 h1⟩, ⟨c, d, hf.cell h4 h2⟩⟩
def numR (s : List UInt8) : Int × Bool := match Lib.atoiAll s with
  | .ok v => (v, true)
  | .«syntax» => (0, false)
  | .range => (Lib.atoiSat s, false)
theorem t_atoi (s : List UInt8) (hs : s.length ≤ 1000000) (w : World) (he : ErW w) : Calls Tryz.prog 90 #[bts s] w fun e w' => (∃ er, e = .returned (.tuple #[.int .i64 (numR s).1, er]) ∧ ((numR s).2 = true ∧ er = .nilIface ∨ (numR s).2 = false ∧ ∃ t p, er = .iface t p)) ∧ Fr (fun _ => False) w w' := by
  have hsz : (⟨s.toArray⟩ : ByteArray).size = s.length := by simp [ByteArray.size]
  unfold numR
  cases h : Lib.atoiAll s with
  | ok v =>
    refine (Tryz.strconv_Atoi_ok ⟨s.toArray⟩ (by omega) v (by simpa using h) w).mono fun e w' q => ⟨⟨_, q.1, .inl ⟨rfl, rfl⟩⟩, ?_⟩
    rcases q.2 with rfl | ⟨t, rfl⟩
    · exact Fr.refl _ _
    · exact bytes_fr w t
  | «syntax» =>
    obtain ⟨te, pe, hv⟩ := he.1
    refine (Tryz.strconv_Atoi_syntax ⟨s.toArray⟩ (by omega) (by simpa using h) _ w hv (.inr ⟨te, pe, rfl⟩)).mono fun e w' q => ?_
    obtain ⟨N, q1, _, _, q2⟩ := q
    exact ⟨⟨_, q1, .inr ⟨rfl, _, _, rfl⟩⟩, Fr.of_below' q2⟩
  | range =>
    obtain ⟨te, pe, hv⟩ := he.2
    refine (Tryz.strconv_Atoi_range ⟨s.toArray⟩ (by omega) (by simpa using h) _ w hv (.inr ⟨te, pe, rfl⟩)).mono fun e w' q => ?_
    obtain ⟨N, q1, _, _, q2⟩ := q
    exact ⟨⟨_, by simpa using q1, .inr ⟨rfl, _, _, rfl⟩⟩, Fr.of_below' q2⟩
section
variable (w : World) (x y : Operand)
theorem bn_nil : (do eqGuard .eql 56 x (.const .nilIface) .nilIface .nilIface; binOp .eql 56 .nilIface .nilIface : Sem Value).run Tryz.prog w = .ok (.bool true) w := by simp [go_sem]
theorem bn_ifc (t : TypeId) (p : Value) : (do eqGuard .eql 56 x (.const .nilIface) (.iface t p) .nilIface; binOp .eql 56 (.iface t p) .nilIface : Sem Value).run Tryz.prog w = .ok (.bool false) w := by simp [go_sem]
theorem st_i (d : Addr) (v u : Int) (h : w.cell? d = some (.int .i64 v)) (hf : w.frozen? d = false) : (Instr.storeAt 3 (.pointer (some d)) (.int .i64 u)).run Tryz.prog w = .ok () (w.setCell d (.int .i64 u)) := by simp [go_sem, h, hf]
theorem cf_atoi (vs : Array Value) : (callFunc 90 vs).run Tryz.prog w = .ok (.enter 90 vs) w := by simp [go_sem]
theorem cf_cp (vs : Array Value) : (callFunc 50 vs).run Tryz.prog w = .ok (.enter 50 vs) w := by simp [go_sem]
theorem cf_pn (vs : Array Value) : (callFunc 63 vs).run Tryz.prog w = .ok (.enter 63 vs) w := by simp [go_sem]
end
theorem WL.nlc {P : Program} {ops : Array Oper} {N : Nat} {Q : Exit → Act → World → Prop} {s : List (Nat × Value)} {l : List Oper} {o : Oper} {d : Nat} {w : World} {x : Operand} {ad : Addr} (hop : o.op = .nilCheck x) (hd : o.dst = some d) (hN : Nat.blt d N = true) (hg : gd ops s o = some true) (hu : ev s x = some (.pointer (some ad))) (h : WL P ops N Q ((d, .pointer (some ad)) :: s) l w) : WL P ops N Q s (o :: l) w :=
  WL.run hd hN hg (fun a k => by
    have h1 := k.eval hu
    unfold execOp
    rw [hop]
    simp only [h1]
    rfl) h
/-- What a reading of a number into a cell leaves. -/
def PnP (s : List UInt8) (b o : Nat) (z : Array Value) (t : TypeId) (w : World) (e : Ending) (w' : World) : Prop := e = .returned (.bool (numR s).2) ∧ RwL w' b (z.setIfInBounds o (.int .i64 (numR s).1)) t ∧ Fr (fun q => q = b) w w'
theorem t_parseNumber (s : List UInt8) (hs : s.length ≤ 1000000) (b o : Nat) (z : Array Value) (t : TypeId) (v0 : Int) (hz : z[o]? = some (.int .i64 v0)) (w : World) (hr : RwL w b z t) (he : ErW w) : Calls Tryz.prog 63 #[.pointer (some ⟨b, o, none⟩), bts s] w (PnP s b o z t w) := by
  refine calls_tw Tryz.func63 rfl rfl (Nat.le_of_ble_eq_true rfl) ?_
  refine TW.sreg ?_
  refine WL.op rfl rfl rfl (Go.Proofs.YtlagdgkjpnocfaaGreatDoor.W.quiet_assign rfl rfl) ?_
  refine WL.nil ?_
  refine TW.sreg ?_
  refine WL.op rfl rfl rfl (Go.Proofs.YtlagdgkjpnocfaaGreatDoor.W.quiet_move rfl rfl) ?_
  refine WL.call (hr := t_atoi s hs w he) rfl rfl rfl rfl rfl (fun W => cf_atoi W _) ?_
  rintro e w1 ⟨⟨er, rfl, hq⟩, f1⟩
  refine ⟨_, rfl, ?_⟩
  refine WL.op rfl rfl rfl (Go.Proofs.YtlagdgkjpnocfaaGreatDoor.W.quiet_move rfl rfl) ?_
  refine WL.ext rfl rfl rfl rfl rfl rfl ?_
  refine WL.ext rfl rfl rfl rfl rfl rfl ?_
  refine WL.op rfl rfl rfl (Go.Proofs.YtlagdgkjpnocfaaGreatDoor.W.quiet_assign rfl rfl) ?_
  refine WL.op rfl rfl rfl (Go.Proofs.YtlagdgkjpnocfaaGreatDoor.W.quiet_assign rfl rfl) ?_
  refine WL.nil ?_
  have hr1 := hr.fr f1 id
  refine TW.sreg ?_
  refine WL.op rfl rfl rfl (Go.Proofs.YtlagdgkjpnocfaaGreatDoor.W.quiet_move rfl rfl) ?_
  refine WL.op rfl rfl rfl (Go.Proofs.YtlagdgkjpnocfaaGreatDoor.W.quiet_move rfl rfl) ?_
  refine WL.nlc rfl rfl rfl rfl rfl ?_
  refine WL.store rfl rfl rfl rfl rfl (st_i _ _ v0 _ (hr1.cell hz) (hr1.free _)) ?_
  refine WL.nil ?_
  have hr2 := hr1.set o (.int .i64 (numR s).1)
  have f2 : Fr (fun q => q = b) w (w1.setCell ⟨b, o, none⟩ (.int .i64 (numR s).1)) := (f1.mono fun _ _ e => e.elim).trans (Fr.setCell (F := fun q => q = b) w1 ⟨b, o, none⟩ _ rfl)
  generalize w1.setCell ⟨b, o, none⟩ (.int .i64 (numR s).1) = w2 at *
  refine TW.sreg ?_
  refine WL.op rfl rfl rfl (Go.Proofs.YtlagdgkjpnocfaaGreatDoor.W.quiet_move rfl rfl) ?_
  rcases hq with ⟨q, rfl⟩ | ⟨q, te, pe, rfl⟩
  · refine WL.op rfl rfl rfl (Go.Proofs.YtlagdgkjpnocfaaGreatDoor.W.quiet_bin rfl rfl rfl (fun W => bn_nil W _)) ?_
    refine WL.op rfl rfl rfl (Go.Proofs.YtlagdgkjpnocfaaGreatDoor.W.quiet_assign rfl rfl) ?_
    refine WL.nil ?_
    refine TW.rt ?_
    repeat (with_reducible first | refine Xw.thn (by simp) ?_ | refine Xw.rblk ?_)
    refine bodyw_ret rfl rfl ?_
    exact ⟨by rw [q], hr2, f2⟩
  · refine WL.op rfl rfl rfl (Go.Proofs.YtlagdgkjpnocfaaGreatDoor.W.quiet_bin rfl rfl rfl (fun W => bn_ifc W _ _ _)) ?_
    refine WL.op rfl rfl rfl (Go.Proofs.YtlagdgkjpnocfaaGreatDoor.W.quiet_assign rfl rfl) ?_
    refine WL.nil ?_
    refine TW.rt ?_
    repeat (with_reducible first | refine Xw.thn (by simp) ?_ | refine Xw.rblk ?_)
    refine bodyw_ret rfl rfl ?_
    exact ⟨by rw [q], hr2, f2⟩
/-- What a reading of a register leaves: is there an x ahead of it? -/
def regR (s : List UInt8) : Option (Int × Bool) := if Lib.hasPrefix s [120] = true then some (numR (Lib.trimPrefix s [120])) else none
def PrP (s : List UInt8) (b o : Nat) (z : Array Value) (t : TypeId) (w : World) (e : Ending) (w' : World) : Prop := match regR s with
  | some r => e = .returned (.bool r.2) ∧ RwL w' b (z.setIfInBounds o (.int .i64 r.1)) t ∧ Fr (fun q => q = b) w w'
  | none => e = .returned (.bool false) ∧ w' = w
theorem trim_len (s : List UInt8) : (Lib.trimPrefix s [120]).length ≤ s.length := by
  unfold Lib.trimPrefix
  split
  · simp
  · exact Nat.le_refl _
theorem t_parseRegister (s : List UInt8) (hs : s.length ≤ 1000000) (b o : Nat) (z : Array Value) (t : TypeId) (v0 : Int) (hz : z[o]? = some (.int .i64 v0)) (w : World) (hr : RwL w b z t) (he : ErW w) : Calls Tryz.prog 61 #[.pointer (some ⟨b, o, none⟩), bts s] w (PrP s b o z t w) := by
  have KC := Tryz.strings_CutPrefix ⟨s.toArray⟩ ⟨#[120]⟩ w
  have KN := t_parseNumber (Lib.trimPrefix s [120]) (by have := trim_len s; omega) b o z t v0 hz w hr he
  have hP : PrP s b o z t w = fun e w' => match regR s with
    | some r => e = .returned (.bool r.2) ∧ RwL w' b (z.setIfInBounds o (.int .i64 r.1)) t ∧ Fr (fun q => q = b) w w'
    | none => e = .returned (.bool false) ∧ w' = w := rfl
  have hR : regR s = if Lib.hasPrefix s [120] = true then some (numR (Lib.trimPrefix s [120])) else none := rfl
  have e1 : (⟨s.toArray⟩ : ByteArray).data.toList = s := by simp
  have e2 : (⟨#[120]⟩ : ByteArray).data.toList = [120] := rfl
  rw [e1, e2] at KC
  generalize Lib.trimPrefix s [120] = s2 at *
  generalize Lib.hasPrefix s [120] = hb at *
  refine calls_tw Tryz.func61 rfl rfl (Nat.le_of_ble_eq_true rfl) ?_
  refine TW.sreg ?_
  refine WL.op rfl rfl rfl (Go.Proofs.YtlagdgkjpnocfaaGreatDoor.W.quiet_assign rfl rfl) ?_
  refine WL.nil ?_
  refine TW.sreg ?_
  refine WL.op rfl rfl rfl (Go.Proofs.YtlagdgkjpnocfaaGreatDoor.W.quiet_move rfl rfl) ?_
  refine WL.call (hr := KC) rfl rfl rfl rfl rfl (fun W => cf_cp W _) ?_
  rintro e w1 ⟨rfl, rfl⟩
  refine ⟨_, rfl, ?_⟩
  refine WL.op rfl rfl rfl (Go.Proofs.YtlagdgkjpnocfaaGreatDoor.W.quiet_move rfl rfl) ?_
  refine WL.ext rfl rfl rfl rfl rfl rfl ?_
  refine WL.ext rfl rfl rfl rfl rfl rfl ?_
  refine WL.op rfl rfl rfl (Go.Proofs.YtlagdgkjpnocfaaGreatDoor.W.quiet_assign rfl rfl) ?_
  refine WL.op rfl rfl rfl (Go.Proofs.YtlagdgkjpnocfaaGreatDoor.W.quiet_assign rfl rfl) ?_
  refine WL.nil ?_
  refine TW.sreg ?_
  refine WL.op rfl rfl rfl (Go.Proofs.YtlagdgkjpnocfaaGreatDoor.W.quiet_move rfl rfl) ?_
  refine WL.op rfl rfl rfl (Go.Proofs.YtlagdgkjpnocfaaGreatDoor.W.quiet_move rfl rfl) ?_
  rw [hP, hR]
  cases hb
  · refine WL.skip rfl rfl rfl ?_
    refine WL.skip rfl rfl rfl ?_
    refine WL.skip rfl rfl rfl ?_
    refine WL.op rfl rfl rfl (Go.Proofs.YtlagdgkjpnocfaaGreatDoor.W.quiet_pick rfl rfl rfl) ?_
    refine WL.op rfl rfl rfl (Go.Proofs.YtlagdgkjpnocfaaGreatDoor.W.quiet_assign rfl rfl) ?_
    refine WL.nil ?_
    refine TW.rt ?_
    repeat (with_reducible first | refine Xw.thn (by simp) ?_ | refine Xw.rblk ?_)
    refine bodyw_ret rfl rfl ?_
    exact ⟨rfl, rfl⟩
  · refine WL.op rfl rfl rfl (Go.Proofs.YtlagdgkjpnocfaaGreatDoor.W.quiet_move rfl rfl) ?_
    refine WL.op rfl rfl rfl (Go.Proofs.YtlagdgkjpnocfaaGreatDoor.W.quiet_move rfl rfl) ?_
    refine WL.call (hr := KN) rfl rfl rfl rfl rfl (fun W => cf_pn W _) ?_
    rintro e w2 ⟨rfl, q1, q2⟩
    refine ⟨_, rfl, ?_⟩
    refine WL.op rfl rfl rfl (Go.Proofs.YtlagdgkjpnocfaaGreatDoor.W.quiet_pick rfl rfl rfl) ?_
    refine WL.op rfl rfl rfl (Go.Proofs.YtlagdgkjpnocfaaGreatDoor.W.quiet_assign rfl rfl) ?_
    refine WL.nil ?_
    refine TW.rt ?_
    repeat (with_reducible first | refine Xw.thn (by simp) ?_ | refine Xw.rblk ?_)
    refine bodyw_ret rfl rfl ?_
    exact ⟨rfl, q1, q2⟩
end Go.Proofs.YtlagdgkjpnocfaaGreatDoor
