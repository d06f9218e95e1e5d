/-
  Listing (layer 6): a number, a register and a name, read. Listing (layer 6): an operand, read. Listing (layer 6): the number of a name.
-/
import Derived.Test.YtlagdgkjpnocfaaGreatDoorQLsH
namespace Go.Proofs.YtlagdgkjpnocfaaGreatDoor
open Go.RowKit
set_option linter.unusedVariables false
set_option linter.unusedSimpArgs false
def RwL (w : World) (g : Nat) (z : Array Value) (t : TypeId) : Prop := w.heap[g]? = some (.cells z t (0, 0))
theorem RwL.fr {w w' : World} {g : Nat} {z : Array Value} {t : TypeId} {F : Nat → Prop} (h : RwL w g z t) (hf : Fr F w w') (hn : ¬F g) : RwL w' g z t := (hf.block g (Array.getElem?_eq_some_iff.1 h).1 hn).trans h
theorem RwL.cell {w : World} {g : Nat} {z : Array Value} {t : TypeId} (h : RwL w g z t) {j : Nat} {v : Value} (hv : z[j]? = some v) : w.cell? ⟨g, j, none⟩ = some v := by
  rw [cell_of_row w g j _ _ _ h]; exact hv
theorem RwL.free {w : World} {g : Nat} {z : Array Value} {t : TypeId} (h : RwL w g z t) (j : Nat) : w.frozen? ⟨g, j, none⟩ = false := frozen_of_row w g j _ _ h
theorem RwL.set {w : World} {g : Nat} {z : Array Value} {t : TypeId} (h : RwL w g z t) (j : Nat) (v : Value) : RwL (w.setCell ⟨g, j, none⟩ v) g (z.setIfInBounds j v) t := heap_setCell_same w g j _ _ _ h
theorem bytes_fr (w : World) (t : ByteArray) : Fr (fun _ => False) w (Lib.bytesWorld w 5 t) := ⟨rfl, rfl, by rw [Lib.bytesWorld_size]; omega, fun k hk _ => Lib.bytesWorld_at_old w _ t k hk⟩
/-- The errors that Atoi hands back are laid. -/
def ErW (w : World) : Prop := (∃ te pe, w.cell? ⟨1, 0, none⟩ = some (.iface te pe)) ∧ (∃ te pe, w.cell? ⟨2, 0, none⟩ = some (.iface te pe))
theorem ErW.fr {w w' : World} {F : Nat → Prop} (h : ErW w) (hf : Fr F w w') (h1 : ¬F 1) (h2 : ¬F 2) : ErW w' := by
  obtain ⟨⟨a, b, h3⟩, ⟨c, d, h4⟩⟩ := h
  exact ⟨⟨a, b, hf.cell h3 h1⟩, ⟨c, d, hf.cell h4 h2⟩⟩
def numR (s : List UInt8) : Int × Bool := match Lib.atoiAll s with
  | .ok v => (v, true)
  | .«syntax» => (0, false)
  | .range => (Lib.atoiSat s, false)
theorem t_atoi (s : List UInt8) (hs : s.length ≤ 1000000) (w : World) (he : ErW w) : Calls Tryz.prog 90 #[bts s] w fun e w' => (∃ er, e = .returned (.tuple #[.int .i64 (numR s).1, er]) ∧ ((numR s).2 = true ∧ er = .nilIface ∨ (numR s).2 = false ∧ ∃ t p, er = .iface t p)) ∧ Fr (fun _ => False) w w' := by
  have hsz : (⟨s.toArray⟩ : ByteArray).size = s.length := by simp [ByteArray.size]
  unfold numR
  cases h : Lib.atoiAll s with
  | ok v =>
    refine (Tryz.strconv_Atoi_ok ⟨s.toArray⟩ (by omega) v (by simpa using h) w).mono fun e w' q => ⟨⟨_, q.1, .inl ⟨rfl, rfl⟩⟩, ?_⟩
    rcases q.2 with rfl | ⟨t, rfl⟩
    · exact Fr.refl _ _
    · exact bytes_fr w t
  | «syntax» =>
    obtain ⟨te, pe, hv⟩ := he.1
    refine (Tryz.strconv_Atoi_syntax ⟨s.toArray⟩ (by omega) (by simpa using h) _ w hv (.inr ⟨te, pe, rfl⟩)).mono fun e w' q => ?_
    obtain ⟨N, q1, _, _, q2⟩ := q
    exact ⟨⟨_, q1, .inr ⟨rfl, _, _, rfl⟩⟩, Fr.of_below' q2⟩
  | range =>
    obtain ⟨te, pe, hv⟩ := he.2
    refine (Tryz.strconv_Atoi_range ⟨s.toArray⟩ (by omega) (by simpa using h) _ w hv (.inr ⟨te, pe, rfl⟩)).mono fun e w' q => ?_
    obtain ⟨N, q1, _, _, q2⟩ := q
    exact ⟨⟨_, by simpa using q1, .inr ⟨rfl, _, _, rfl⟩⟩, Fr.of_below' q2⟩
section
variable (w : World) (x y : Operand)
theorem bn_nil : (do eqGuard .eql 56 x (.const .nilIface) .nilIface .nilIface; binOp .eql 56 .nilIface .nilIface : Sem Value).run Tryz.prog w = .ok (.bool true) w := by simp [go_sem]
theorem bn_ifc (t : TypeId) (p : Value) : (do eqGuard .eql 56 x (.const .nilIface) (.iface t p) .nilIface; binOp .eql 56 (.iface t p) .nilIface : Sem Value).run Tryz.prog w = .ok (.bool false) w := by simp [go_sem]
theorem st_i (d : Addr) (v u : Int) (h : w.cell? d = some (.int .i64 v)) (hf : w.frozen? d = false) : (Instr.storeAt 3 (.pointer (some d)) (.int .i64 u)).run Tryz.prog w = .ok () (w.setCell d (.int .i64 u)) := by simp [go_sem, h, hf]
theorem cf_atoi (vs : Array Value) : (callFunc 90 vs).run Tryz.prog w = .ok (.enter 90 vs) w := by simp [go_sem]
theorem cf_cp (vs : Array Value) : (callFunc 50 vs).run Tryz.prog w = .ok (.enter 50 vs) w := by simp [go_sem]
theorem cf_pn (vs : Array Value) : (callFunc 63 vs).run Tryz.prog w = .ok (.enter 63 vs) w := by simp [go_sem]
end
theorem WL.nlc {P : Program} {ops : Array Oper} {N : Nat} {Q : Exit → Act → World → Prop} {s : List (Nat × Value)} {l : List Oper} {o : Oper} {d : Nat} {w : World} {x : Operand} {ad : Addr} (hop : o.op = .nilCheck x) (hd : o.dst = some d) (hN : Nat.blt d N = true) (hg : gd ops s o = some true) (hu : ev s x = some (.pointer (some ad))) (h : WL P ops N Q ((d, .pointer (some ad)) :: s) l w) : WL P ops N Q s (o :: l) w :=
  WL.run hd hN hg (fun a k => by
    have h1 := k.eval hu
    unfold execOp
    rw [hop]
    simp only [h1]
    rfl) h
/-- What a reading of a number into a cell leaves. -/
def PnP (s : List UInt8) (b o : Nat) (z : Array Value) (t : TypeId) (w : World) (e : Ending) (w' : World) : Prop := e = .returned (.bool (numR s).2) ∧ RwL w' b (z.setIfInBounds o (.int .i64 (numR s).1)) t ∧ Fr (fun q => q = b) w w'
theorem t_parseNumber (s : List UInt8) (hs : s.length ≤ 1000000) (b o : Nat) (z : Array Value) (t : TypeId) (v0 : Int) (hz : z[o]? = some (.int .i64 v0)) (w : World) (hr : RwL w b z t) (he : ErW w) : Calls Tryz.prog 63 #[.pointer (some ⟨b, o, none⟩), bts s] w (PnP s b o z t w) := by
  refine calls_tw Tryz.func63 rfl rfl (Nat.le_of_ble_eq_true rfl) ?_
  refine TW.sreg ?_
  refine WL.op rfl rfl rfl (Go.Proofs.YtlagdgkjpnocfaaGreatDoor.W.quiet_assign rfl rfl) ?_
  refine WL.nil ?_
  refine TW.sreg ?_
  refine WL.op rfl rfl rfl (Go.Proofs.YtlagdgkjpnocfaaGreatDoor.W.quiet_move rfl rfl) ?_
  refine WL.call (hr := t_atoi s hs w he) rfl rfl rfl rfl rfl (fun W => cf_atoi W _) ?_
  rintro e w1 ⟨⟨er, rfl, hq⟩, f1⟩
  refine ⟨_, rfl, ?_⟩
  refine WL.op rfl rfl rfl (Go.Proofs.YtlagdgkjpnocfaaGreatDoor.W.quiet_move rfl rfl) ?_
  refine WL.ext rfl rfl rfl rfl rfl rfl ?_
  refine WL.ext rfl rfl rfl rfl rfl rfl ?_
  refine WL.op rfl rfl rfl (Go.Proofs.YtlagdgkjpnocfaaGreatDoor.W.quiet_assign rfl rfl) ?_
  refine WL.op rfl rfl rfl (Go.Proofs.YtlagdgkjpnocfaaGreatDoor.W.quiet_assign rfl rfl) ?_
  refine WL.nil ?_
  have hr1 := hr.fr f1 id
  refine TW.sreg ?_
  refine WL.op rfl rfl rfl (Go.Proofs.YtlagdgkjpnocfaaGreatDoor.W.quiet_move rfl rfl) ?_
  refine WL.op rfl rfl rfl (Go.Proofs.YtlagdgkjpnocfaaGreatDoor.W.quiet_move rfl rfl) ?_
  refine WL.nlc rfl rfl rfl rfl rfl ?_
  refine WL.store rfl rfl rfl rfl rfl (st_i _ _ v0 _ (hr1.cell hz) (hr1.free _)) ?_
  refine WL.nil ?_
  have hr2 := hr1.set o (.int .i64 (numR s).1)
  have f2 : Fr (fun q => q = b) w (w1.setCell ⟨b, o, none⟩ (.int .i64 (numR s).1)) := (f1.mono fun _ _ e => e.elim).trans (Fr.setCell (F := fun q => q = b) w1 ⟨b, o, none⟩ _ rfl)
  generalize w1.setCell ⟨b, o, none⟩ (.int .i64 (numR s).1) = w2 at *
  refine TW.sreg ?_
  refine WL.op rfl rfl rfl (Go.Proofs.YtlagdgkjpnocfaaGreatDoor.W.quiet_move rfl rfl) ?_
  rcases hq with ⟨q, rfl⟩ | ⟨q, te, pe, rfl⟩
  · refine WL.op rfl rfl rfl (Go.Proofs.YtlagdgkjpnocfaaGreatDoor.W.quiet_bin rfl rfl rfl (fun W => bn_nil W _)) ?_
    refine WL.op rfl rfl rfl (Go.Proofs.YtlagdgkjpnocfaaGreatDoor.W.quiet_assign rfl rfl) ?_
    refine WL.nil ?_
    refine TW.rt ?_
    repeat (with_reducible first | refine Xw.thn (by simp) ?_ | refine Xw.rblk ?_)
    refine bodyw_ret rfl rfl ?_
    exact ⟨by rw [q], hr2, f2⟩
  · refine WL.op rfl rfl rfl (Go.Proofs.YtlagdgkjpnocfaaGreatDoor.W.quiet_bin rfl rfl rfl (fun W => bn_ifc W _ _ _)) ?_
    refine WL.op rfl rfl rfl (Go.Proofs.YtlagdgkjpnocfaaGreatDoor.W.quiet_assign rfl rfl) ?_
    refine WL.nil ?_
    refine TW.rt ?_
    repeat (with_reducible first | refine Xw.thn (by simp) ?_ | refine Xw.rblk ?_)
    refine bodyw_ret rfl rfl ?_
    exact ⟨by rw [q], hr2, f2⟩
/-- What a reading of a register leaves: is there an x ahead of it? -/
def regR (s : List UInt8) : Option (Int × Bool) := if Lib.hasPrefix s [120] = true then some (numR (Lib.trimPrefix s [120])) else none
def PrP (s : List UInt8) (b o : Nat) (z : Array Value) (t : TypeId) (w : World) (e : Ending) (w' : World) : Prop := match regR s with
  | some r => e = .returned (.bool r.2) ∧ RwL w' b (z.setIfInBounds o (.int .i64 r.1)) t ∧ Fr (fun q => q = b) w w'
  | none => e = .returned (.bool false) ∧ w' = w
theorem trim_len (s : List UInt8) : (Lib.trimPrefix s [120]).length ≤ s.length := by
  unfold Lib.trimPrefix
  split
  · simp
  · exact Nat.le_refl _
theorem t_parseRegister (s : List UInt8) (hs : s.length ≤ 1000000) (b o : Nat) (z : Array Value) (t : TypeId) (v0 : Int) (hz : z[o]? = some (.int .i64 v0)) (w : World) (hr : RwL w b z t) (he : ErW w) : Calls Tryz.prog 61 #[.pointer (some ⟨b, o, none⟩), bts s] w (PrP s b o z t w) := by
  have KC := Tryz.strings_CutPrefix ⟨s.toArray⟩ ⟨#[120]⟩ w
  have KN := t_parseNumber (Lib.trimPrefix s [120]) (by have := trim_len s; omega) b o z t v0 hz w hr he
  have hP : PrP s b o z t w = fun e w' => match regR s with
    | some r => e = .returned (.bool r.2) ∧ RwL w' b (z.setIfInBounds o (.int .i64 r.1)) t ∧ Fr (fun q => q = b) w w'
    | none => e = .returned (.bool false) ∧ w' = w := rfl
  have hR : regR s = if Lib.hasPrefix s [120] = true then some (numR (Lib.trimPrefix s [120])) else none := rfl
  have e1 : (⟨s.toArray⟩ : ByteArray).data.toList = s := by simp
  have e2 : (⟨#[120]⟩ : ByteArray).data.toList = [120] := rfl
  rw [e1, e2] at KC
  generalize Lib.trimPrefix s [120] = s2 at *
  generalize Lib.hasPrefix s [120] = hb at *
  refine calls_tw Tryz.func61 rfl rfl (Nat.le_of_ble_eq_true rfl) ?_
  refine TW.sreg ?_
  refine WL.op rfl rfl rfl (Go.Proofs.YtlagdgkjpnocfaaGreatDoor.W.quiet_assign rfl rfl) ?_
  refine WL.nil ?_
  refine TW.sreg ?_
  refine WL.op rfl rfl rfl (Go.Proofs.YtlagdgkjpnocfaaGreatDoor.W.quiet_move rfl rfl) ?_
  refine WL.call (hr := KC) rfl rfl rfl rfl rfl (fun W => cf_cp W _) ?_
  rintro e w1 ⟨rfl, rfl⟩
  refine ⟨_, rfl, ?_⟩
  refine WL.op rfl rfl rfl (Go.Proofs.YtlagdgkjpnocfaaGreatDoor.W.quiet_move rfl rfl) ?_
  refine WL.ext rfl rfl rfl rfl rfl rfl ?_
  refine WL.ext rfl rfl rfl rfl rfl rfl ?_
  refine WL.op rfl rfl rfl (Go.Proofs.YtlagdgkjpnocfaaGreatDoor.W.quiet_assign rfl rfl) ?_
  refine WL.op rfl rfl rfl (Go.Proofs.YtlagdgkjpnocfaaGreatDoor.W.quiet_assign rfl rfl) ?_
  refine WL.nil ?_
  refine TW.sreg ?_
  refine WL.op rfl rfl rfl (Go.Proofs.YtlagdgkjpnocfaaGreatDoor.W.quiet_move rfl rfl) ?_
  refine WL.op rfl rfl rfl (Go.Proofs.YtlagdgkjpnocfaaGreatDoor.W.quiet_move rfl rfl) ?_
  rw [hP, hR]
  cases hb
  · refine WL.skip rfl rfl rfl ?_
    refine WL.skip rfl rfl rfl ?_
    refine WL.skip rfl rfl rfl ?_
    refine WL.op rfl rfl rfl (Go.Proofs.YtlagdgkjpnocfaaGreatDoor.W.quiet_pick rfl rfl rfl) ?_
    refine WL.op rfl rfl rfl (Go.Proofs.YtlagdgkjpnocfaaGreatDoor.W.quiet_assign rfl rfl) ?_
    refine WL.nil ?_
    refine TW.rt ?_
    repeat (with_reducible first | refine Xw.thn (by simp) ?_ | refine Xw.rblk ?_)
    refine bodyw_ret rfl rfl ?_
    exact ⟨rfl, rfl⟩
  · refine WL.op rfl rfl rfl (Go.Proofs.YtlagdgkjpnocfaaGreatDoor.W.quiet_move rfl rfl) ?_
    refine WL.op rfl rfl rfl (Go.Proofs.YtlagdgkjpnocfaaGreatDoor.W.quiet_move rfl rfl) ?_
    refine WL.call (hr := KN) rfl rfl rfl rfl rfl (fun W => cf_pn W _) ?_
    rintro e w2 ⟨rfl, q1, q2⟩
    refine ⟨_, rfl, ?_⟩
    refine WL.op rfl rfl rfl (Go.Proofs.YtlagdgkjpnocfaaGreatDoor.W.quiet_pick rfl rfl rfl) ?_
    refine WL.op rfl rfl rfl (Go.Proofs.YtlagdgkjpnocfaaGreatDoor.W.quiet_assign rfl rfl) ?_
    refine WL.nil ?_
    refine TW.rt ?_
    repeat (with_reducible first | refine Xw.thn (by simp) ?_ | refine Xw.rblk ?_)
    refine bodyw_ret rfl rfl ?_
    exact ⟨rfl, q1, q2⟩
structure I5 where
  op : Int
  rd : Int
  r1 : Int
  r2 : Int
  imm : Int
def I5.vals (i : I5) : Array Value := #[.int .i64 i.op, .int .i64 i.rd, .int .i64 i.r1, .int .i64 i.r2, .int .i64 i.imm]
def MlW (w : World) : Prop := ∃ m, w.cell? ⟨0, 0, none⟩ = some (.int .i64 m)
theorem MlW.fr {w w' : World} {F : Nat → Prop} (h : MlW w) (hf : Fr F w w') (h1 : ¬F 0) : MlW w' := by
  obtain ⟨m, h⟩ := h
  exact ⟨m, hf.cell h h1⟩
/-- What an operand's text makes of an instruction, and whether it could be read. -/
def memR (s : List UInt8) (i : I5) : I5 × Bool :=
  let c := Lib.cut s [40]
  if Lib.hasSuffix c.2.1 [41] = true then
    let n := numR c.1
    if n.2 = true then match regR (Lib.trimSuffix c.2.1 [41]) with
      | some r => ({ i with imm := n.1, r1 := r.1 }, r.2)
      | none => ({ i with imm := n.1 }, false)
    else ({ i with imm := n.1 }, false)
  else (i, false)
def opR (o : UInt8) (s : List UInt8) (i : I5) : I5 × Bool :=
  if o = 100 then (match regR s with | some r => ({ i with rd := r.1 }, r.2) | none => (i, false))
  else if o = 97 then (match regR s with | some r => ({ i with r1 := r.1 }, r.2) | none => (i, false))
  else if o = 98 then (match regR s with | some r => ({ i with r2 := r.1 }, r.2) | none => (i, false))
  else if o = 109 then memR s i
  else ({ i with imm := (numR s).1 }, (numR s).2)
def OpP (o : UInt8) (s : List UInt8) (i : I5) (b : Nat) (t : TypeId) (w : World) (e : Ending) (w' : World) : Prop := e = .returned (.bool (opR o s i).2) ∧ RwL w' b (opR o s i).1.vals t ∧ Fr (fun q => q = b) w w'
section
variable (w : World) (vs : Array Value)
theorem cf_cut2 : (callFunc 30 vs).run Tryz.prog w = .ok (.enter 30 vs) w := by simp [go_sem]
theorem cf_csf : (callFunc 62 vs).run Tryz.prog w = .ok (.enter 62 vs) w := by simp [go_sem]
theorem cf_pr : (callFunc 61 vs).run Tryz.prog w = .ok (.enter 61 vs) w := by simp [go_sem]
theorem cf_po : (callFunc 40 vs).run Tryz.prog w = .ok (.enter 40 vs) w := by simp [go_sem]
end
theorem cut_len (s sep : List UInt8) : (Lib.cut s sep).1.length ≤ s.length ∧ (Lib.cut s sep).2.1.length ≤ s.length := by
  unfold Lib.cut
  split
  · simp; omega
  · simp
theorem tsf_len (s p : List UInt8) : (Lib.trimSuffix s p).length ≤ s.length := by
  unfold Lib.trimSuffix
  split
  · simp
  · exact Nat.le_refl _
set_option maxRecDepth 100000 in
set_option maxHeartbeats 1600000 in
theorem t_parseOperand (o : UInt8) (ho : o = 100 ∨ o = 97 ∨ o = 98 ∨ o = 109 ∨ o = 105) (s : List UInt8) (hs : s.length ≤ 1000000) (i : I5) (b : Nat) (t : TypeId) (w : World) (hr : RwL w b i.vals t) (he : ErW w) (hm : MlW w) (hg1 : ¬1 = b) (hg2 : ¬2 = b) : Calls Tryz.prog 40 #[.pointer (some ⟨b, 0, none⟩), .int .i32 (o.toNat : Int), bts s] w (OpP o s i b t w) := by
  refine calls_tw Tryz.func40 rfl rfl (Nat.le_of_ble_eq_true rfl) ?_
  refine TW.sreg ?_
  refine WL.op rfl rfl rfl (Go.Proofs.YtlagdgkjpnocfaaGreatDoor.W.quiet_assign rfl rfl) ?_
  refine WL.nil ?_
  refine TW.seq ?_
  refine TW.sreg ?_
  refine WL.op rfl rfl rfl (Go.Proofs.YtlagdgkjpnocfaaGreatDoor.W.quiet_move rfl rfl) ?_
  refine WL.nil ?_
  refine TW.block ?_
  rcases ho with rfl | rfl | rfl | rfl | rfl
  ·
    refine TW.sreg ?_
    refine WL.op rfl rfl rfl (Go.Proofs.YtlagdgkjpnocfaaGreatDoor.W.quiet_bin rfl rfl rfl (fun W => (bn_eq32 W _ _ _ _).trans (by rw [show ((((100 : UInt8).toNat : Nat) : Int) == 100) = true by decide]))) ?_
    refine WL.op rfl rfl rfl (Go.Proofs.YtlagdgkjpnocfaaGreatDoor.W.quiet_assign rfl rfl) ?_
    refine WL.nil ?_
    refine TW.cond rfl (fun _ => ?_) (fun hb => by cases hb)
    refine TW.sreg ?_
    refine WL.op rfl rfl rfl (Go.Proofs.YtlagdgkjpnocfaaGreatDoor.W.quiet_move rfl rfl) ?_
    refine WL.nlc rfl rfl rfl rfl rfl ?_
    refine WL.op rfl rfl rfl (Go.Proofs.YtlagdgkjpnocfaaGreatDoor.W.quiet_field rfl rfl (fun W => li1 W _ _)) ?_
    refine WL.op rfl rfl rfl (Go.Proofs.YtlagdgkjpnocfaaGreatDoor.W.quiet_move rfl rfl) ?_
    refine WL.call (hr := t_parseRegister s hs b (0 + 1) i.vals t i.rd rfl w hr he) rfl rfl rfl rfl rfl (fun W => cf_pr W _) ?_
    intro e w1 q
    unfold PrP at q
    have hop : opR 100 s i = (match regR s with | some r => ({ i with rd := r.1 }, r.2) | none => (i, false)) := rfl
    cases hq : regR s with
    | some r =>
      rw [hq] at q hop
      obtain ⟨rfl, q1, q2⟩ := q
      refine ⟨_, rfl, ?_⟩
      refine WL.op rfl rfl rfl (Go.Proofs.YtlagdgkjpnocfaaGreatDoor.W.quiet_assign rfl rfl) ?_
      refine WL.nil ?_
      refine TW.rt ?_
      repeat (with_reducible first | refine Xw.thn (by simp) ?_ | refine Xw.rblk ?_)
      refine bodyw_ret rfl rfl ?_
      exact ⟨by rw [hop], by rw [hop]; exact q1, q2⟩
    | none =>
      rw [hq] at q hop
      obtain ⟨rfl, rfl⟩ := q
      refine ⟨_, rfl, ?_⟩
      refine WL.op rfl rfl rfl (Go.Proofs.YtlagdgkjpnocfaaGreatDoor.W.quiet_assign rfl rfl) ?_
      refine WL.nil ?_
      refine TW.rt ?_
      repeat (with_reducible first | refine Xw.thn (by simp) ?_ | refine Xw.rblk ?_)
      refine bodyw_ret rfl rfl ?_
      exact ⟨by rw [hop], by rw [hop]; exact hr, Fr.refl _ _⟩
  ·
    refine TW.sreg ?_
    refine WL.op rfl rfl rfl (Go.Proofs.YtlagdgkjpnocfaaGreatDoor.W.quiet_bin rfl rfl rfl (fun W => (bn_eq32 W _ _ _ _).trans (by rw [show ((((97 : UInt8).toNat : Nat) : Int) == 100) = false by decide]))) ?_
    refine WL.op rfl rfl rfl (Go.Proofs.YtlagdgkjpnocfaaGreatDoor.W.quiet_assign rfl rfl) ?_
    refine WL.nil ?_
    refine TW.cond rfl (fun hb => by cases hb) (fun _ => ?_)
    refine TW.sreg ?_
    refine WL.op rfl rfl rfl (Go.Proofs.YtlagdgkjpnocfaaGreatDoor.W.quiet_bin rfl rfl rfl (fun W => (bn_eq32 W _ _ _ _).trans (by rw [show ((((97 : UInt8).toNat : Nat) : Int) == 97) = true by decide]))) ?_
    refine WL.op rfl rfl rfl (Go.Proofs.YtlagdgkjpnocfaaGreatDoor.W.quiet_assign rfl rfl) ?_
    refine WL.nil ?_
    refine TW.cond rfl (fun _ => ?_) (fun hb => by cases hb)
    refine TW.sreg ?_
    refine WL.op rfl rfl rfl (Go.Proofs.YtlagdgkjpnocfaaGreatDoor.W.quiet_move rfl rfl) ?_
    refine WL.nlc rfl rfl rfl rfl rfl ?_
    refine WL.op rfl rfl rfl (Go.Proofs.YtlagdgkjpnocfaaGreatDoor.W.quiet_field rfl rfl (fun W => li2 W _ _)) ?_
    refine WL.op rfl rfl rfl (Go.Proofs.YtlagdgkjpnocfaaGreatDoor.W.quiet_move rfl rfl) ?_
    refine WL.call (hr := t_parseRegister s hs b (0 + 2) i.vals t i.r1 rfl w hr he) rfl rfl rfl rfl rfl (fun W => cf_pr W _) ?_
    intro e w1 q
    unfold PrP at q
    have hop : opR 97 s i = (match regR s with | some r => ({ i with r1 := r.1 }, r.2) | none => (i, false)) := rfl
    cases hq : regR s with
    | some r =>
      rw [hq] at q hop
      obtain ⟨rfl, q1, q2⟩ := q
      refine ⟨_, rfl, ?_⟩
      refine WL.op rfl rfl rfl (Go.Proofs.YtlagdgkjpnocfaaGreatDoor.W.quiet_assign rfl rfl) ?_
      refine WL.nil ?_
      refine TW.rt ?_
      repeat (with_reducible first | refine Xw.thn (by simp) ?_ | refine Xw.rblk ?_)
      refine bodyw_ret rfl rfl ?_
      exact ⟨by rw [hop], by rw [hop]; exact q1, q2⟩
    | none =>
      rw [hq] at q hop
      obtain ⟨rfl, rfl⟩ := q
      refine ⟨_, rfl, ?_⟩
      refine WL.op rfl rfl rfl (Go.Proofs.YtlagdgkjpnocfaaGreatDoor.W.quiet_assign rfl rfl) ?_
      refine WL.nil ?_
      refine TW.rt ?_
      repeat (with_reducible first | refine Xw.thn (by simp) ?_ | refine Xw.rblk ?_)
      refine bodyw_ret rfl rfl ?_
      exact ⟨by rw [hop], by rw [hop]; exact hr, Fr.refl _ _⟩
  ·
    refine TW.sreg ?_
    refine WL.op rfl rfl rfl (Go.Proofs.YtlagdgkjpnocfaaGreatDoor.W.quiet_bin rfl rfl rfl (fun W => (bn_eq32 W _ _ _ _).trans (by rw [show ((((98 : UInt8).toNat : Nat) : Int) == 100) = false by decide]))) ?_
    refine WL.op rfl rfl rfl (Go.Proofs.YtlagdgkjpnocfaaGreatDoor.W.quiet_assign rfl rfl) ?_
    refine WL.nil ?_
    refine TW.cond rfl (fun hb => by cases hb) (fun _ => ?_)
    refine TW.sreg ?_
    refine WL.op rfl rfl rfl (Go.Proofs.YtlagdgkjpnocfaaGreatDoor.W.quiet_bin rfl rfl rfl (fun W => (bn_eq32 W _ _ _ _).trans (by rw [show ((((98 : UInt8).toNat : Nat) : Int) == 97) = false by decide]))) ?_
    refine WL.op rfl rfl rfl (Go.Proofs.YtlagdgkjpnocfaaGreatDoor.W.quiet_assign rfl rfl) ?_
    refine WL.nil ?_
    refine TW.cond rfl (fun hb => by cases hb) (fun _ => ?_)
    refine TW.sreg ?_
    refine WL.op rfl rfl rfl (Go.Proofs.YtlagdgkjpnocfaaGreatDoor.W.quiet_bin rfl rfl rfl (fun W => (bn_eq32 W _ _ _ _).trans (by rw [show ((((98 : UInt8).toNat : Nat) : Int) == 98) = true by decide]))) ?_
    refine WL.op rfl rfl rfl (Go.Proofs.YtlagdgkjpnocfaaGreatDoor.W.quiet_assign rfl rfl) ?_
    refine WL.nil ?_
    refine TW.cond rfl (fun _ => ?_) (fun hb => by cases hb)
    refine TW.sreg ?_
    refine WL.op rfl rfl rfl (Go.Proofs.YtlagdgkjpnocfaaGreatDoor.W.quiet_move rfl rfl) ?_
    refine WL.nlc rfl rfl rfl rfl rfl ?_
    refine WL.op rfl rfl rfl (Go.Proofs.YtlagdgkjpnocfaaGreatDoor.W.quiet_field rfl rfl (fun W => li3 W _ _)) ?_
    refine WL.op rfl rfl rfl (Go.Proofs.YtlagdgkjpnocfaaGreatDoor.W.quiet_move rfl rfl) ?_
    refine WL.call (hr := t_parseRegister s hs b (0 + 3) i.vals t i.r2 rfl w hr he) rfl rfl rfl rfl rfl (fun W => cf_pr W _) ?_
    intro e w1 q
    unfold PrP at q
    have hop : opR 98 s i = (match regR s with | some r => ({ i with r2 := r.1 }, r.2) | none => (i, false)) := rfl
    cases hq : regR s with
    | some r =>
      rw [hq] at q hop
      obtain ⟨rfl, q1, q2⟩ := q
      refine ⟨_, rfl, ?_⟩
      refine WL.op rfl rfl rfl (Go.Proofs.YtlagdgkjpnocfaaGreatDoor.W.quiet_assign rfl rfl) ?_
      refine WL.nil ?_
      refine TW.rt ?_
      repeat (with_reducible first | refine Xw.thn (by simp) ?_ | refine Xw.rblk ?_)
      refine bodyw_ret rfl rfl ?_
      exact ⟨by rw [hop], by rw [hop]; exact q1, q2⟩
    | none =>
      rw [hq] at q hop
      obtain ⟨rfl, rfl⟩ := q
      refine ⟨_, rfl, ?_⟩
      refine WL.op rfl rfl rfl (Go.Proofs.YtlagdgkjpnocfaaGreatDoor.W.quiet_assign rfl rfl) ?_
      refine WL.nil ?_
      refine TW.rt ?_
      repeat (with_reducible first | refine Xw.thn (by simp) ?_ | refine Xw.rblk ?_)
      refine bodyw_ret rfl rfl ?_
      exact ⟨by rw [hop], by rw [hop]; exact hr, Fr.refl _ _⟩
  ·
    refine TW.sreg ?_
    refine WL.op rfl rfl rfl (Go.Proofs.YtlagdgkjpnocfaaGreatDoor.W.quiet_bin rfl rfl rfl (fun W => (bn_eq32 W _ _ _ _).trans (by rw [show ((((109 : UInt8).toNat : Nat) : Int) == 100) = false by decide]))) ?_
    refine WL.op rfl rfl rfl (Go.Proofs.YtlagdgkjpnocfaaGreatDoor.W.quiet_assign rfl rfl) ?_
    refine WL.nil ?_
    refine TW.cond rfl (fun hb => by cases hb) (fun _ => ?_)
    refine TW.sreg ?_
    refine WL.op rfl rfl rfl (Go.Proofs.YtlagdgkjpnocfaaGreatDoor.W.quiet_bin rfl rfl rfl (fun W => (bn_eq32 W _ _ _ _).trans (by rw [show ((((109 : UInt8).toNat : Nat) : Int) == 97) = false by decide]))) ?_
    refine WL.op rfl rfl rfl (Go.Proofs.YtlagdgkjpnocfaaGreatDoor.W.quiet_assign rfl rfl) ?_
    refine WL.nil ?_
    refine TW.cond rfl (fun hb => by cases hb) (fun _ => ?_)
    refine TW.sreg ?_
    refine WL.op rfl rfl rfl (Go.Proofs.YtlagdgkjpnocfaaGreatDoor.W.quiet_bin rfl rfl rfl (fun W => (bn_eq32 W _ _ _ _).trans (by rw [show ((((109 : UInt8).toNat : Nat) : Int) == 98) = false by decide]))) ?_
    refine WL.op rfl rfl rfl (Go.Proofs.YtlagdgkjpnocfaaGreatDoor.W.quiet_assign rfl rfl) ?_
    refine WL.nil ?_
    refine TW.cond rfl (fun hb => by cases hb) (fun _ => ?_)
    refine TW.sreg ?_
    refine WL.op rfl rfl rfl (Go.Proofs.YtlagdgkjpnocfaaGreatDoor.W.quiet_bin rfl rfl rfl (fun W => (bn_eq32 W _ _ _ _).trans (by rw [show ((((109 : UInt8).toNat : Nat) : Int) == 109) = true by decide]))) ?_
    refine WL.op rfl rfl rfl (Go.Proofs.YtlagdgkjpnocfaaGreatDoor.W.quiet_assign rfl rfl) ?_
    refine WL.nil ?_
    refine TW.cond rfl (fun _ => ?_) (fun hb => by cases hb)
    have hop : opR 109 s i = memR s i := rfl
    have hmr : memR s i = (if Lib.hasSuffix (Lib.cut s [40]).2.1 [41] = true then (if (numR (Lib.cut s [40]).1).2 = true then (match regR (Lib.trimSuffix (Lib.cut s [40]).2.1 [41]) with | some r => ({ i with imm := (numR (Lib.cut s [40]).1).1, r1 := r.1 }, r.2) | none => ({ i with imm := (numR (Lib.cut s [40]).1).1 }, false)) else ({ i with imm := (numR (Lib.cut s [40]).1).1 }, false)) else (i, false)) := rfl
    obtain ⟨m, hm⟩ := hm
    have KC := Tryz.strings_Cut ⟨s.toArray⟩ ⟨#[40]⟩ m w (by simp [ByteArray.size]; omega) hm
    rw [show (⟨s.toArray⟩ : ByteArray).data.toList = s by simp, show (⟨#[40]⟩ : ByteArray).data.toList = [40] by rfl] at KC
    obtain ⟨cl1, cl2⟩ := cut_len s [40]
    generalize Lib.cut s [40] = c at *
    obtain ⟨ca, cb, cc⟩ := c
    simp only at KC hmr cl1 cl2
    refine TW.sreg ?_
    refine WL.op rfl rfl rfl (Go.Proofs.YtlagdgkjpnocfaaGreatDoor.W.quiet_move rfl rfl) ?_
    refine WL.call (hr := KC) rfl rfl rfl rfl rfl (fun W => cf_cut2 W _) ?_
    rintro e w1 ⟨rfl, nd, rfl⟩
    refine ⟨_, rfl, ?_⟩
    have fd : Fr (fun _ => False) w (w.drewN nd) := (Fr.refl _ _).drewN nd
    replace hr := hr.fr fd id
    replace he := he.fr fd id id
    have fd' : Fr (fun q => q = b) w (w.drewN nd) := (Fr.refl _ _).drewN nd
    generalize w.drewN nd = w1 at *
    refine WL.op rfl rfl rfl (Go.Proofs.YtlagdgkjpnocfaaGreatDoor.W.quiet_move rfl rfl) ?_
    refine WL.ext rfl rfl rfl rfl rfl rfl ?_
    refine WL.ext rfl rfl rfl rfl rfl rfl ?_
    refine WL.ext rfl rfl rfl rfl rfl rfl ?_
    refine WL.op rfl rfl rfl (Go.Proofs.YtlagdgkjpnocfaaGreatDoor.W.quiet_assign rfl rfl) ?_
    refine WL.op rfl rfl rfl (Go.Proofs.YtlagdgkjpnocfaaGreatDoor.W.quiet_assign rfl rfl) ?_
    refine WL.op rfl rfl rfl (Go.Proofs.YtlagdgkjpnocfaaGreatDoor.W.quiet_assign rfl rfl) ?_
    refine WL.nil ?_
    have KS := Tryz.strings_CutSuffix ⟨cb.toArray⟩ ⟨#[41]⟩ w1 (by simp [ByteArray.size]; omega)
    rw [show (⟨cb.toArray⟩ : ByteArray).data.toList = cb by simp, show (⟨#[41]⟩ : ByteArray).data.toList = [41] by rfl] at KS
    have tl := tsf_len cb [41]
    generalize Lib.hasSuffix cb [41] = hsf at *
    generalize Lib.trimSuffix cb [41] = bs at *
    refine TW.sreg ?_
    refine WL.op rfl rfl rfl (Go.Proofs.YtlagdgkjpnocfaaGreatDoor.W.quiet_move rfl rfl) ?_
    refine WL.call (hr := KS) rfl rfl rfl rfl rfl (fun W => cf_csf W _) ?_
    rintro e w2 ⟨rfl, rfl⟩
    refine ⟨_, rfl, ?_⟩
    refine WL.op rfl rfl rfl (Go.Proofs.YtlagdgkjpnocfaaGreatDoor.W.quiet_move rfl rfl) ?_
    refine WL.ext rfl rfl rfl rfl rfl rfl ?_
    refine WL.ext rfl rfl rfl rfl rfl rfl ?_
    refine WL.op rfl rfl rfl (Go.Proofs.YtlagdgkjpnocfaaGreatDoor.W.quiet_assign rfl rfl) ?_
    refine WL.op rfl rfl rfl (Go.Proofs.YtlagdgkjpnocfaaGreatDoor.W.quiet_assign rfl rfl) ?_
    refine WL.nil ?_
    refine TW.sreg ?_
    refine WL.op rfl rfl rfl (Go.Proofs.YtlagdgkjpnocfaaGreatDoor.W.quiet_move rfl rfl) ?_
    refine WL.op rfl rfl rfl (Go.Proofs.YtlagdgkjpnocfaaGreatDoor.W.quiet_move rfl rfl) ?_
    cases hsf
    ·
      refine WL.skip rfl rfl rfl ?_
      refine WL.skip rfl rfl rfl ?_
      refine WL.skip rfl rfl rfl ?_
      refine WL.skip rfl rfl rfl ?_
      refine WL.skip rfl rfl rfl ?_
      refine WL.op rfl rfl rfl (Go.Proofs.YtlagdgkjpnocfaaGreatDoor.W.quiet_pick rfl rfl rfl) ?_
      refine WL.op rfl rfl rfl (Go.Proofs.YtlagdgkjpnocfaaGreatDoor.W.quiet_move rfl rfl) ?_
      refine WL.skip rfl rfl rfl ?_
      refine WL.skip rfl rfl rfl ?_
      refine WL.skip rfl rfl rfl ?_
      refine WL.skip rfl rfl rfl ?_
      refine WL.skip rfl rfl rfl ?_
      refine WL.op rfl rfl rfl (Go.Proofs.YtlagdgkjpnocfaaGreatDoor.W.quiet_pick rfl rfl rfl) ?_
      refine WL.op rfl rfl rfl (Go.Proofs.YtlagdgkjpnocfaaGreatDoor.W.quiet_assign rfl rfl) ?_
      refine WL.nil ?_
      refine TW.rt ?_
      repeat (with_reducible first | refine Xw.thn (by simp) ?_ | refine Xw.rblk ?_)
      refine bodyw_ret rfl rfl ?_
      exact ⟨by rw [hop, hmr]; rfl, by rw [hop, hmr]; exact hr, fd'⟩
    · refine WL.op rfl rfl rfl (Go.Proofs.YtlagdgkjpnocfaaGreatDoor.W.quiet_move rfl rfl) ?_
      refine WL.nlc rfl rfl rfl rfl rfl ?_
      refine WL.op rfl rfl rfl (Go.Proofs.YtlagdgkjpnocfaaGreatDoor.W.quiet_field rfl rfl (fun W => li4 W _ _)) ?_
      refine WL.op rfl rfl rfl (Go.Proofs.YtlagdgkjpnocfaaGreatDoor.W.quiet_move rfl rfl) ?_
      refine WL.call (hr := t_parseNumber ca (by omega) b (0 + 4) i.vals t i.imm rfl _ hr he) rfl rfl rfl rfl rfl (fun W => cf_pn W _) ?_
      rintro e w3 ⟨rfl, q1, q2⟩
      refine ⟨_, rfl, ?_⟩
      have q1' : RwL w3 b ({ i with imm := (numR ca).1 } : I5).vals t := q1
      have he3 := he.fr q2 hg1 hg2
      rw [if_pos rfl] at hmr
      generalize numR ca = nn at *
      obtain ⟨nv, nb⟩ := nn
      simp only at hmr q1'
      refine WL.op rfl rfl rfl (Go.Proofs.YtlagdgkjpnocfaaGreatDoor.W.quiet_pick rfl rfl rfl) ?_
      refine WL.op rfl rfl rfl (Go.Proofs.YtlagdgkjpnocfaaGreatDoor.W.quiet_move rfl rfl) ?_
      cases nb
      ·
        refine WL.skip rfl rfl rfl ?_
        refine WL.skip rfl rfl rfl ?_
        refine WL.skip rfl rfl rfl ?_
        refine WL.skip rfl rfl rfl ?_
        refine WL.skip rfl rfl rfl ?_
        refine WL.op rfl rfl rfl (Go.Proofs.YtlagdgkjpnocfaaGreatDoor.W.quiet_pick rfl rfl rfl) ?_
        refine WL.op rfl rfl rfl (Go.Proofs.YtlagdgkjpnocfaaGreatDoor.W.quiet_assign rfl rfl) ?_
        refine WL.nil ?_
        refine TW.rt ?_
        repeat (with_reducible first | refine Xw.thn (by simp) ?_ | refine Xw.rblk ?_)
        refine bodyw_ret rfl rfl ?_
        exact ⟨by rw [hop, hmr]; rfl, by rw [hop, hmr]; exact q1', fd'.trans q2⟩
      · rw [if_pos rfl] at hmr
        refine WL.op rfl rfl rfl (Go.Proofs.YtlagdgkjpnocfaaGreatDoor.W.quiet_move rfl rfl) ?_
        refine WL.nlc rfl rfl rfl rfl rfl ?_
        refine WL.op rfl rfl rfl (Go.Proofs.YtlagdgkjpnocfaaGreatDoor.W.quiet_field rfl rfl (fun W => li2 W _ _)) ?_
        refine WL.op rfl rfl rfl (Go.Proofs.YtlagdgkjpnocfaaGreatDoor.W.quiet_move rfl rfl) ?_
        refine WL.call (hr := t_parseRegister bs (by omega) b (0 + 2) _ t i.r1 rfl w3 q1' he3) rfl rfl rfl rfl rfl (fun W => cf_pr W _) ?_
        intro e w4 q
        unfold PrP at q
        cases hq : regR bs with
        | some r =>
          rw [hq] at q hmr
          obtain ⟨rfl, q3, q4⟩ := q
          refine ⟨_, rfl, ?_⟩
          refine WL.op rfl rfl rfl (Go.Proofs.YtlagdgkjpnocfaaGreatDoor.W.quiet_pick rfl rfl rfl) ?_
          refine WL.op rfl rfl rfl (Go.Proofs.YtlagdgkjpnocfaaGreatDoor.W.quiet_assign rfl rfl) ?_
          refine WL.nil ?_
          refine TW.rt ?_
          repeat (with_reducible first | refine Xw.thn (by simp) ?_ | refine Xw.rblk ?_)
          refine bodyw_ret rfl rfl ?_
          exact ⟨by rw [hop, hmr], by rw [hop, hmr]; exact q3, fd'.trans (q2.trans q4)⟩
        | none =>
          rw [hq] at q hmr
          obtain ⟨rfl, rfl⟩ := q
          refine ⟨_, rfl, ?_⟩
          refine WL.op rfl rfl rfl (Go.Proofs.YtlagdgkjpnocfaaGreatDoor.W.quiet_pick rfl rfl rfl) ?_
          refine WL.op rfl rfl rfl (Go.Proofs.YtlagdgkjpnocfaaGreatDoor.W.quiet_assign rfl rfl) ?_
          refine WL.nil ?_
          refine TW.rt ?_
          repeat (with_reducible first | refine Xw.thn (by simp) ?_ | refine Xw.rblk ?_)
          refine bodyw_ret rfl rfl ?_
          exact ⟨by rw [hop, hmr], by rw [hop, hmr]; exact q1', fd'.trans q2⟩
  ·
    refine TW.sreg ?_
    refine WL.op rfl rfl rfl (Go.Proofs.YtlagdgkjpnocfaaGreatDoor.W.quiet_bin rfl rfl rfl (fun W => (bn_eq32 W _ _ _ _).trans (by rw [show ((((105 : UInt8).toNat : Nat) : Int) == 100) = false by decide]))) ?_
    refine WL.op rfl rfl rfl (Go.Proofs.YtlagdgkjpnocfaaGreatDoor.W.quiet_assign rfl rfl) ?_
    refine WL.nil ?_
    refine TW.cond rfl (fun hb => by cases hb) (fun _ => ?_)
    refine TW.sreg ?_
    refine WL.op rfl rfl rfl (Go.Proofs.YtlagdgkjpnocfaaGreatDoor.W.quiet_bin rfl rfl rfl (fun W => (bn_eq32 W _ _ _ _).trans (by rw [show ((((105 : UInt8).toNat : Nat) : Int) == 97) = false by decide]))) ?_
    refine WL.op rfl rfl rfl (Go.Proofs.YtlagdgkjpnocfaaGreatDoor.W.quiet_assign rfl rfl) ?_
    refine WL.nil ?_
    refine TW.cond rfl (fun hb => by cases hb) (fun _ => ?_)
    refine TW.sreg ?_
    refine WL.op rfl rfl rfl (Go.Proofs.YtlagdgkjpnocfaaGreatDoor.W.quiet_bin rfl rfl rfl (fun W => (bn_eq32 W _ _ _ _).trans (by rw [show ((((105 : UInt8).toNat : Nat) : Int) == 98) = false by decide]))) ?_
    refine WL.op rfl rfl rfl (Go.Proofs.YtlagdgkjpnocfaaGreatDoor.W.quiet_assign rfl rfl) ?_
    refine WL.nil ?_
    refine TW.cond rfl (fun hb => by cases hb) (fun _ => ?_)
    refine TW.sreg ?_
    refine WL.op rfl rfl rfl (Go.Proofs.YtlagdgkjpnocfaaGreatDoor.W.quiet_bin rfl rfl rfl (fun W => (bn_eq32 W _ _ _ _).trans (by rw [show ((((105 : UInt8).toNat : Nat) : Int) == 109) = false by decide]))) ?_
    refine WL.op rfl rfl rfl (Go.Proofs.YtlagdgkjpnocfaaGreatDoor.W.quiet_assign rfl rfl) ?_
    refine WL.nil ?_
    refine TW.cond rfl (fun hb => by cases hb) (fun _ => ?_)
    have hop : opR 105 s i = ({ i with imm := (numR s).1 }, (numR s).2) := rfl
    refine TW.skipx ?_
    repeat (with_reducible refine Xw.nblk ?_)
    refine Xw.nrm ?_
    refine TW.sreg ?_
    refine WL.op rfl rfl rfl (Go.Proofs.YtlagdgkjpnocfaaGreatDoor.W.quiet_move rfl rfl) ?_
    refine WL.nlc rfl rfl rfl rfl rfl ?_
    refine WL.op rfl rfl rfl (Go.Proofs.YtlagdgkjpnocfaaGreatDoor.W.quiet_field rfl rfl (fun W => li4 W _ _)) ?_
    refine WL.op rfl rfl rfl (Go.Proofs.YtlagdgkjpnocfaaGreatDoor.W.quiet_move rfl rfl) ?_
    refine WL.call (hr := t_parseNumber s hs b (0 + 4) i.vals t i.imm rfl w hr he) rfl rfl rfl rfl rfl (fun W => cf_pn W _) ?_
    rintro e w3 ⟨rfl, q1, q2⟩
    refine ⟨_, rfl, ?_⟩
    refine WL.op rfl rfl rfl (Go.Proofs.YtlagdgkjpnocfaaGreatDoor.W.quiet_assign rfl rfl) ?_
    refine WL.nil ?_
    refine TW.rt ?_
    repeat (with_reducible first | refine Xw.thn (by simp) ?_ | refine Xw.rblk ?_)
    refine bodyw_ret rfl rfl ?_
    exact ⟨by rw [hop], by rw [hop]; exact q1, q2⟩
theorem bn_eqs (w : World) (x y : Operand) (a b : List UInt8) : (do eqGuard .eql 9 x y (bts a) (bts b); binOp .eql 9 (bts a) (bts b) : Sem Value).run Tryz.prog w = .ok (.bool (decide (a = b))) w := by
  by_cases h : a = b
  · subst h; simp [go_sem]
  · simp [go_sem, h]
/-- The number of a name among those from k on. -/
def opF (s : List UInt8) (k : Nat) : Int := if k < 46 then (if nmT (k : Int) = s then (k : Int) else opF s (k + 1)) else 0
termination_by 46 - k
decreasing_by omega
theorem opF_step (s : List UInt8) (k : Nat) : opF s k = if k < 46 then (if nmT (k : Int) = s then (k : Int) else opF s (k + 1)) else 0 := by rw [opF]
theorem t_opNamed (s : List UInt8) (w : World) : Calls Tryz.prog 38 #[bts s] w fun e w' => e = .returned (.int .i64 (opF s 1)) ∧ Fr (fun _ => False) w w' := by
  refine calls_tw Tryz.func38 rfl rfl (Nat.le_of_ble_eq_true rfl) ?_
  refine TW.sreg ?_
  refine WL.op rfl rfl rfl (Go.Proofs.YtlagdgkjpnocfaaGreatDoor.W.quiet_assign rfl rfl) ?_
  refine WL.nil ?_
  refine TW.seq ?_
  refine TW.sreg ?_
  refine WL.op rfl rfl rfl (Go.Proofs.YtlagdgkjpnocfaaGreatDoor.W.quiet_assign rfl rfl) ?_
  refine WL.nil ?_
  refine TW.block ?_
  refine TW.loopG (n := 46) (fun a _ => (intOf (a.tmps.getD 3 undef)).toNat) (fun j b W => Kn Tryz.f38.ntmps [(3, .int .i64 ((j : Nat) : Int)), (0, bts s)] b ∧ Fr (fun _ => False) w W ∧ opF s 1 = opF s j) (fun j b W h => ?hval) 1 (by decide) (fun b h => ⟨(by (repeat (refine Kn.cons h rfl ?_)); exact h.base), Fr.refl _ _, rfl⟩) ?_
  case hval =>
    have := h.1.has 3 _ rfl
    simp [Array.getD_eq_getD_getElem?, this, intOf]
  rintro j b W hj ⟨hkn, hf, ho⟩
  refine TW.app ?_ hkn
  clear hkn b
  rw [opF_step s j] at ho
  refine TW.seq ?_
  refine TW.sreg ?_
  refine WL.op rfl rfl rfl (Go.Proofs.YtlagdgkjpnocfaaGreatDoor.W.quiet_move rfl rfl) ?_
  refine WL.op rfl rfl rfl (Go.Proofs.YtlagdgkjpnocfaaGreatDoor.W.quiet_bin rfl rfl rfl (fun W => bn_lei W _ _ _ _)) ?_
  refine WL.nil ?_
  refine TW.cond rfl (fun hle => ?_) (fun hgt => ?_)
  · have hj' : j < 46 := by have := of_decide_eq_true hle; omega
    rw [if_pos hj'] at ho
    refine TW.skip ?_
    refine TW.seq ?_
    refine TW.block ?_
    refine TW.sreg ?_
    refine WL.op rfl rfl rfl (Go.Proofs.YtlagdgkjpnocfaaGreatDoor.W.quiet_move rfl rfl) ?_
    refine WL.call (hr := t_name (j : Int) W) rfl rfl rfl rfl rfl (fun W => cf_name W _) ?_
    rintro e W2 ⟨rfl, f2⟩
    refine ⟨_, rfl, ?_⟩
    refine WL.op rfl rfl rfl (Go.Proofs.YtlagdgkjpnocfaaGreatDoor.W.quiet_move rfl rfl) ?_
    refine WL.op rfl rfl rfl (Go.Proofs.YtlagdgkjpnocfaaGreatDoor.W.quiet_bin rfl rfl rfl (fun W => bn_eqs W _ _ (nmT (j : Int)) s)) ?_
    refine WL.nil ?_
    refine TW.cond rfl (fun he => ?_) (fun he => ?_)
    · rw [if_pos (of_decide_eq_true he)] at ho
      refine TW.sreg ?_
      refine WL.op rfl rfl rfl (Go.Proofs.YtlagdgkjpnocfaaGreatDoor.W.quiet_move rfl rfl) ?_
      refine WL.op rfl rfl rfl (Go.Proofs.YtlagdgkjpnocfaaGreatDoor.W.quiet_assign rfl rfl) ?_
      refine WL.nil ?_
      refine TW.rt ?_
      repeat (with_reducible first | refine Xw.thn (by simp) ?_ | refine Xw.rblk ?_)
      refine bodyw_ret rfl rfl ?_
      exact ⟨by rw [ho], hf.trans f2⟩
    · rw [if_neg (of_decide_eq_false he)] at ho
      refine TW.skipx ?_
      repeat (with_reducible refine Xw.nblk ?_)
      refine Xw.nrm ?_
      refine TW.reg ?_
      refine WL.op rfl rfl rfl (Go.Proofs.YtlagdgkjpnocfaaGreatDoor.W.quiet_move rfl rfl) ?_
      refine WL.op rfl rfl rfl (Go.Proofs.YtlagdgkjpnocfaaGreatDoor.W.quiet_bin rfl rfl rfl (fun W => bn_add2 W _ _ (j : Int) 1 (by omega) (by omega))) ?_
      refine WL.op rfl rfl rfl (Go.Proofs.YtlagdgkjpnocfaaGreatDoor.W.quiet_assign rfl rfl) ?_
      refine WL.end ?_
      refine Xw.any fun b h => ⟨j + 1, by omega, by omega, (by (repeat (refine Kn.cons h rfl ?_)); exact h.base), hf.trans f2, ho⟩
  · have hj' : ¬j < 46 := by have := of_decide_eq_false hgt; omega
    rw [if_neg hj'] at ho
    refine TW.exit ?_
    repeat (with_reducible refine Xw.thn (by simp) ?_)
    refine Xw.hit ?_
    refine Xw.nrm ?_
    refine TW.sreg ?_
    refine WL.op rfl rfl rfl (Go.Proofs.YtlagdgkjpnocfaaGreatDoor.W.quiet_assign rfl rfl) ?_
    refine WL.nil ?_
    refine TW.rt ?_
    repeat (with_reducible first | refine Xw.thn (by simp) ?_ | refine Xw.rblk ?_)
    refine bodyw_ret rfl rfl ?_
    exact ⟨by rw [ho], hf⟩
end Go.Proofs.YtlagdgkjpnocfaaGreatDoor
