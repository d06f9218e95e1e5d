/-
  Listing (layer 6): an operand, read.
-/
import Derived.Test.YtlagdgkjpnocfaaGreatDoorLsJ
namespace Go.Proofs.YtlagdgkjpnocfaaGreatDoor
open Go.RowKit
set_option linter.unusedVariables false
set_option linter.unusedSimpArgs false
structure I5 where
  op : Int
  rd : Int
  r1 : Int
  r2 : Int
  imm : Int
def I5.vals (i : I5) : Array Value := #[.int .i64 i.op, .int .i64 i.rd, .int .i64 i.r1, .int .i64 i.r2, .int .i64 i.imm]
def MlW (w : World) : Prop := ∃ m, w.cell? ⟨0, 0, none⟩ = some (.int .i64 m)
theorem MlW.fr {w w' : World} {F : Nat → Prop} (h : MlW w) (hf : Fr F w w') (h1 : ¬F 0) : MlW w' := by
  obtain ⟨m, h⟩ := h
  exact ⟨m, hf.cell h h1⟩
/-- What an operand's text makes of an instruction, and whether it could be read. -/
def memR (s : List UInt8) (i : I5) : I5 × Bool :=
  let c := Lib.cut s [40]
  if Lib.hasSuffix c.2.1 [41] = true then
    let n := numR c.1
    if n.2 = true then match regR (Lib.trimSuffix c.2.1 [41]) with
      | some r => ({ i with imm := n.1, r1 := r.1 }, r.2)
      | none => ({ i with imm := n.1 }, false)
    else ({ i with imm := n.1 }, false)
  else (i, false)
def opR (o : UInt8) (s : List UInt8) (i : I5) : I5 × Bool :=
  if o = 100 then (match regR s with | some r => ({ i with rd := r.1 }, r.2) | none => (i, false))
  else if o = 97 then (match regR s with | some r => ({ i with r1 := r.1 }, r.2) | none => (i, false))
  else if o = 98 then (match regR s with | some r => ({ i with r2 := r.1 }, r.2) | none => (i, false))
  else if o = 109 then memR s i
  else ({ i with imm := (numR s).1 }, (numR s).2)
def OpP (o : UInt8) (s : List UInt8) (i : I5) (b : Nat) (t : TypeId) (w : World) (e : Ending) (w' : World) : Prop := e = .returned (.bool (opR o s i).2) ∧ RwL w' b (opR o s i).1.vals t ∧ Fr (fun q => q = b) w w'
section
variable (w : World) (vs : Array Value)
theorem cf_cut2 : (callFunc 30 vs).run Tryz.prog w = .ok (.enter 30 vs) w := by simp [go_sem]
theorem cf_csf : (callFunc 62 vs).run Tryz.prog w = .ok (.enter 62 vs) w := by simp [go_sem]
theorem cf_pr : (callFunc 61 vs).run Tryz.prog w = .ok (.enter 61 vs) w := by simp [go_sem]
theorem cf_po : (callFunc 40 vs).run Tryz.prog w = .ok (.enter 40 vs) w := by simp [go_sem]
end
theorem cut_len (s sep : List UInt8) : (Lib.cut s sep).1.length ≤ s.length ∧ (Lib.cut s sep).2.1.length ≤ s.length := by
  unfold Lib.cut
  split
  · simp; omega
  · simp
theorem tsf_len (s p : List UInt8) : (Lib.trimSuffix s p).length ≤ s.length := by
  unfold Lib.trimSuffix
  split
  · simp
  · exact Nat.le_refl _
set_option maxRecDepth 100000 in
set_option maxHeartbeats 1600000 in
theorem t_parseOperand (o : UInt8) (ho : o = 100 ∨ o = 97 ∨ o = 98 ∨ o = 109 ∨ o = 105) (s : List UInt8) (hs : s.length ≤ 1000000) (i : I5) (b : Nat) (t : TypeId) (w : World) (hr : RwL w b i.vals t) (he : ErW w) (hm : MlW w) (hg1 : ¬1 = b) (hg2 : ¬2 = b) : Calls Tryz.prog 40 #[.pointer (some ⟨b, 0, none⟩), .int .i32 (o.toNat : Int), bts s] w (OpP o s i b t w) := by
  refine calls_tw Tryz.func40 rfl rfl (Nat.le_of_ble_eq_true rfl) ?_
  refine TW.sreg ?_
  refine WL.op rfl rfl rfl (Go.Proofs.YtlagdgkjpnocfaaGreatDoor.W.quiet_assign rfl rfl) ?_
  refine WL.nil ?_
  refine TW.seq ?_
  refine TW.sreg ?_
  refine WL.op rfl rfl rfl (Go.Proofs.YtlagdgkjpnocfaaGreatDoor.W.quiet_move rfl rfl) ?_
  refine WL.nil ?_
  refine TW.block ?_
  rcases ho with rfl | rfl | rfl | rfl | rfl
  ·
    refine TW.sreg ?_
    refine WL.op rfl rfl rfl (Go.Proofs.YtlagdgkjpnocfaaGreatDoor.W.quiet_bin rfl rfl rfl (fun W => (bn_eq32 W _ _ _ _).trans (by rw [show ((((100 : UInt8).toNat : Nat) : Int) == 100) = true by decide]))) ?_
    refine WL.op rfl rfl rfl (Go.Proofs.YtlagdgkjpnocfaaGreatDoor.W.quiet_assign rfl rfl) ?_
    refine WL.nil ?_
    refine TW.cond rfl (fun _ => ?_) (fun hb => by cases hb)
    refine TW.sreg ?_
    refine WL.op rfl rfl rfl (Go.Proofs.YtlagdgkjpnocfaaGreatDoor.W.quiet_move rfl rfl) ?_
    refine WL.nlc rfl rfl rfl rfl rfl ?_
    refine WL.op rfl rfl rfl (Go.Proofs.YtlagdgkjpnocfaaGreatDoor.W.quiet_field rfl rfl (fun W => li1 W _ _)) ?_
    refine WL.op rfl rfl rfl (Go.Proofs.YtlagdgkjpnocfaaGreatDoor.W.quiet_move rfl rfl) ?_
    refine WL.call (hr := t_parseRegister s hs b (0 + 1) i.vals t i.rd rfl w hr he) rfl rfl rfl rfl rfl (fun W => cf_pr W _) ?_
    intro e w1 q
    unfold PrP at q
    have hop : opR 100 s i = (match regR s with | some r => ({ i with rd := r.1 }, r.2) | none => (i, false)) := rfl
    cases hq : regR s with
    | some r =>
      rw [hq] at q hop
      obtain ⟨rfl, q1, q2⟩ := q
      refine ⟨_, rfl, ?_⟩
      refine WL.op rfl rfl rfl (Go.Proofs.YtlagdgkjpnocfaaGreatDoor.W.quiet_assign rfl rfl) ?_
      refine WL.nil ?_
      refine TW.rt ?_
      repeat (with_reducible first | refine Xw.thn (by simp) ?_ | refine Xw.rblk ?_)
      refine bodyw_ret rfl rfl ?_
      exact ⟨by rw [hop], by rw [hop]; exact q1, q2⟩
    | none =>
      rw [hq] at q hop
      obtain ⟨rfl, rfl⟩ := q
      refine ⟨_, rfl, ?_⟩
      refine WL.op rfl rfl rfl (Go.Proofs.YtlagdgkjpnocfaaGreatDoor.W.quiet_assign rfl rfl) ?_
      refine WL.nil ?_
      refine TW.rt ?_
      repeat (with_reducible first | refine Xw.thn (by simp) ?_ | refine Xw.rblk ?_)
      refine bodyw_ret rfl rfl ?_
      exact ⟨by rw [hop], by rw [hop]; exact hr, Fr.refl _ _⟩
  ·
    refine TW.sreg ?_
    refine WL.op rfl rfl rfl (Go.Proofs.YtlagdgkjpnocfaaGreatDoor.W.quiet_bin rfl rfl rfl (fun W => (bn_eq32 W _ _ _ _).trans (by rw [show ((((97 : UInt8).toNat : Nat) : Int) == 100) = false by decide]))) ?_
    refine WL.op rfl rfl rfl (Go.Proofs.YtlagdgkjpnocfaaGreatDoor.W.quiet_assign rfl rfl) ?_
    refine WL.nil ?_
    refine TW.cond rfl (fun hb => by cases hb) (fun _ => ?_)
    refine TW.sreg ?_
    refine WL.op rfl rfl rfl (Go.Proofs.YtlagdgkjpnocfaaGreatDoor.W.quiet_bin rfl rfl rfl (fun W => (bn_eq32 W _ _ _ _).trans (by rw [show ((((97 : UInt8).toNat : Nat) : Int) == 97) = true by decide]))) ?_
    refine WL.op rfl rfl rfl (Go.Proofs.YtlagdgkjpnocfaaGreatDoor.W.quiet_assign rfl rfl) ?_
    refine WL.nil ?_
    refine TW.cond rfl (fun _ => ?_) (fun hb => by cases hb)
    refine TW.sreg ?_
    refine WL.op rfl rfl rfl (Go.Proofs.YtlagdgkjpnocfaaGreatDoor.W.quiet_move rfl rfl) ?_
    refine WL.nlc rfl rfl rfl rfl rfl ?_
    refine WL.op rfl rfl rfl (Go.Proofs.YtlagdgkjpnocfaaGreatDoor.W.quiet_field rfl rfl (fun W => li2 W _ _)) ?_
    refine WL.op rfl rfl rfl (Go.Proofs.YtlagdgkjpnocfaaGreatDoor.W.quiet_move rfl rfl) ?_
    refine WL.call (hr := t_parseRegister s hs b (0 + 2) i.vals t i.r1 rfl w hr he) rfl rfl rfl rfl rfl (fun W => cf_pr W _) ?_
    intro e w1 q
    unfold PrP at q
    have hop : opR 97 s i = (match regR s with | some r => ({ i with r1 := r.1 }, r.2) | none => (i, false)) := rfl
    cases hq : regR s with
    | some r =>
      rw [hq] at q hop
      obtain ⟨rfl, q1, q2⟩ := q
      refine ⟨_, rfl, ?_⟩
      refine WL.op rfl rfl rfl (Go.Proofs.YtlagdgkjpnocfaaGreatDoor.W.quiet_assign rfl rfl) ?_
      refine WL.nil ?_
      refine TW.rt ?_
      repeat (with_reducible first | refine Xw.thn (by simp) ?_ | refine Xw.rblk ?_)
      refine bodyw_ret rfl rfl ?_
      exact ⟨by rw [hop], by rw [hop]; exact q1, q2⟩
    | none =>
      rw [hq] at q hop
      obtain ⟨rfl, rfl⟩ := q
      refine ⟨_, rfl, ?_⟩
      refine WL.op rfl rfl rfl (Go.Proofs.YtlagdgkjpnocfaaGreatDoor.W.quiet_assign rfl rfl) ?_
      refine WL.nil ?_
      refine TW.rt ?_
      repeat (with_reducible first | refine Xw.thn (by simp) ?_ | refine Xw.rblk ?_)
      refine bodyw_ret rfl rfl ?_
      exact ⟨by rw [hop], by rw [hop]; exact hr, Fr.refl _ _⟩
  ·
    refine TW.sreg ?_
    refine WL.op rfl rfl rfl (Go.Proofs.YtlagdgkjpnocfaaGreatDoor.W.quiet_bin rfl rfl rfl (fun W => (bn_eq32 W _ _ _ _).trans (by rw [show ((((98 : UInt8).toNat : Nat) : Int) == 100) = false by decide]))) ?_
    refine WL.op rfl rfl rfl (Go.Proofs.YtlagdgkjpnocfaaGreatDoor.W.quiet_assign rfl rfl) ?_
    refine WL.nil ?_
    refine TW.cond rfl (fun hb => by cases hb) (fun _ => ?_)
    refine TW.sreg ?_
    refine WL.op rfl rfl rfl (Go.Proofs.YtlagdgkjpnocfaaGreatDoor.W.quiet_bin rfl rfl rfl (fun W => (bn_eq32 W _ _ _ _).trans (by rw [show ((((98 : UInt8).toNat : Nat) : Int) == 97) = false by decide]))) ?_
    refine WL.op rfl rfl rfl (Go.Proofs.YtlagdgkjpnocfaaGreatDoor.W.quiet_assign rfl rfl) ?_
    refine WL.nil ?_
    refine TW.cond rfl (fun hb => by cases hb) (fun _ => ?_)
    refine TW.sreg ?_
    refine WL.op rfl rfl rfl (Go.Proofs.YtlagdgkjpnocfaaGreatDoor.W.quiet_bin rfl rfl rfl (fun W => (bn_eq32 W _ _ _ _).trans (by rw [show ((((98 : UInt8).toNat : Nat) : Int) == 98) = true by decide]))) ?_
    refine WL.op rfl rfl rfl (Go.Proofs.YtlagdgkjpnocfaaGreatDoor.W.quiet_assign rfl rfl) ?_
    refine WL.nil ?_
    refine TW.cond rfl (fun _ => ?_) (fun hb => by cases hb)
    refine TW.sreg ?_
    refine WL.op rfl rfl rfl (Go.Proofs.YtlagdgkjpnocfaaGreatDoor.W.quiet_move rfl rfl) ?_
    refine WL.nlc rfl rfl rfl rfl rfl ?_
    refine WL.op rfl rfl rfl (Go.Proofs.YtlagdgkjpnocfaaGreatDoor.W.quiet_field rfl rfl (fun W => li3 W _ _)) ?_
    refine WL.op rfl rfl rfl (Go.Proofs.YtlagdgkjpnocfaaGreatDoor.W.quiet_move rfl rfl) ?_
    refine WL.call (hr := t_parseRegister s hs b (0 + 3) i.vals t i.r2 rfl w hr he) rfl rfl rfl rfl rfl (fun W => cf_pr W _) ?_
    intro e w1 q
    unfold PrP at q
    have hop : opR 98 s i = (match regR s with | some r => ({ i with r2 := r.1 }, r.2) | none => (i, false)) := rfl
    cases hq : regR s with
    | some r =>
      rw [hq] at q hop
      obtain ⟨rfl, q1, q2⟩ := q
      refine ⟨_, rfl, ?_⟩
      refine WL.op rfl rfl rfl (Go.Proofs.YtlagdgkjpnocfaaGreatDoor.W.quiet_assign rfl rfl) ?_
      refine WL.nil ?_
      refine TW.rt ?_
      repeat (with_reducible first | refine Xw.thn (by simp) ?_ | refine Xw.rblk ?_)
      refine bodyw_ret rfl rfl ?_
      exact ⟨by rw [hop], by rw [hop]; exact q1, q2⟩
    | none =>
      rw [hq] at q hop
      obtain ⟨rfl, rfl⟩ := q
      refine ⟨_, rfl, ?_⟩
      refine WL.op rfl rfl rfl (Go.Proofs.YtlagdgkjpnocfaaGreatDoor.W.quiet_assign rfl rfl) ?_
      refine WL.nil ?_
      refine TW.rt ?_
      repeat (with_reducible first | refine Xw.thn (by simp) ?_ | refine Xw.rblk ?_)
      refine bodyw_ret rfl rfl ?_
      exact ⟨by rw [hop], by rw [hop]; exact hr, Fr.refl _ _⟩
  ·
    refine TW.sreg ?_
    refine WL.op rfl rfl rfl (Go.Proofs.YtlagdgkjpnocfaaGreatDoor.W.quiet_bin rfl rfl rfl (fun W => (bn_eq32 W _ _ _ _).trans (by rw [show ((((109 : UInt8).toNat : Nat) : Int) == 100) = false by decide]))) ?_
    refine WL.op rfl rfl rfl (Go.Proofs.YtlagdgkjpnocfaaGreatDoor.W.quiet_assign rfl rfl) ?_
    refine WL.nil ?_
    refine TW.cond rfl (fun hb => by cases hb) (fun _ => ?_)
    refine TW.sreg ?_
    refine WL.op rfl rfl rfl (Go.Proofs.YtlagdgkjpnocfaaGreatDoor.W.quiet_bin rfl rfl rfl (fun W => (bn_eq32 W _ _ _ _).trans (by rw [show ((((109 : UInt8).toNat : Nat) : Int) == 97) = false by decide]))) ?_
    refine WL.op rfl rfl rfl (Go.Proofs.YtlagdgkjpnocfaaGreatDoor.W.quiet_assign rfl rfl) ?_
    refine WL.nil ?_
    refine TW.cond rfl (fun hb => by cases hb) (fun _ => ?_)
    refine TW.sreg ?_
    refine WL.op rfl rfl rfl (Go.Proofs.YtlagdgkjpnocfaaGreatDoor.W.quiet_bin rfl rfl rfl (fun W => (bn_eq32 W _ _ _ _).trans (by rw [show ((((109 : UInt8).toNat : Nat) : Int) == 98) = false by decide]))) ?_
    refine WL.op rfl rfl rfl (Go.Proofs.YtlagdgkjpnocfaaGreatDoor.W.quiet_assign rfl rfl) ?_
    refine WL.nil ?_
    refine TW.cond rfl (fun hb => by cases hb) (fun _ => ?_)
    refine TW.sreg ?_
    refine WL.op rfl rfl rfl (Go.Proofs.YtlagdgkjpnocfaaGreatDoor.W.quiet_bin rfl rfl rfl (fun W => (bn_eq32 W _ _ _ _).trans (by rw [show ((((109 : UInt8).toNat : Nat) : Int) == 109) = true by decide]))) ?_
    refine WL.op rfl rfl rfl (Go.Proofs.YtlagdgkjpnocfaaGreatDoor.W.quiet_assign rfl rfl) ?_
    refine WL.nil ?_
    refine TW.cond rfl (fun _ => ?_) (fun hb => by cases hb)
    have hop : opR 109 s i = memR s i := rfl
    have hmr : memR s i = (if Lib.hasSuffix (Lib.cut s [40]).2.1 [41] = true then (if (numR (Lib.cut s [40]).1).2 = true then (match regR (Lib.trimSuffix (Lib.cut s [40]).2.1 [41]) with | some r => ({ i with imm := (numR (Lib.cut s [40]).1).1, r1 := r.1 }, r.2) | none => ({ i with imm := (numR (Lib.cut s [40]).1).1 }, false)) else ({ i with imm := (numR (Lib.cut s [40]).1).1 }, false)) else (i, false)) := rfl
    obtain ⟨m, hm⟩ := hm
    have KC := Tryz.strings_Cut ⟨s.toArray⟩ ⟨#[40]⟩ m w (by simp [ByteArray.size]; omega) hm
    rw [show (⟨s.toArray⟩ : ByteArray).data.toList = s by simp, show (⟨#[40]⟩ : ByteArray).data.toList = [40] by rfl] at KC
    obtain ⟨cl1, cl2⟩ := cut_len s [40]
    generalize Lib.cut s [40] = c at *
    obtain ⟨ca, cb, cc⟩ := c
    simp only at KC hmr cl1 cl2
    refine TW.sreg ?_
    refine WL.op rfl rfl rfl (Go.Proofs.YtlagdgkjpnocfaaGreatDoor.W.quiet_move rfl rfl) ?_
    refine WL.call (hr := KC) rfl rfl rfl rfl rfl (fun W => cf_cut2 W _) ?_
    rintro e w1 ⟨rfl, nd, rfl⟩
    refine ⟨_, rfl, ?_⟩
    have fd : Fr (fun _ => False) w (w.drewN nd) := (Fr.refl _ _).drewN nd
    replace hr := hr.fr fd id
    replace he := he.fr fd id id
    have fd' : Fr (fun q => q = b) w (w.drewN nd) := (Fr.refl _ _).drewN nd
    generalize w.drewN nd = w1 at *
    refine WL.op rfl rfl rfl (Go.Proofs.YtlagdgkjpnocfaaGreatDoor.W.quiet_move rfl rfl) ?_
    refine WL.ext rfl rfl rfl rfl rfl rfl ?_
    refine WL.ext rfl rfl rfl rfl rfl rfl ?_
    refine WL.ext rfl rfl rfl rfl rfl rfl ?_
    refine WL.op rfl rfl rfl (Go.Proofs.YtlagdgkjpnocfaaGreatDoor.W.quiet_assign rfl rfl) ?_
    refine WL.op rfl rfl rfl (Go.Proofs.YtlagdgkjpnocfaaGreatDoor.W.quiet_assign rfl rfl) ?_
    refine WL.op rfl rfl rfl (Go.Proofs.YtlagdgkjpnocfaaGreatDoor.W.quiet_assign rfl rfl) ?_
    refine WL.nil ?_
    have KS := Tryz.strings_CutSuffix ⟨cb.toArray⟩ ⟨#[41]⟩ w1 (by simp [ByteArray.size]; omega)
    rw [show (⟨cb.toArray⟩ : ByteArray).data.toList = cb by simp, show (⟨#[41]⟩ : ByteArray).data.toList = [41] by rfl] at KS
    have tl := tsf_len cb [41]
    generalize Lib.hasSuffix cb [41] = hsf at *
    generalize Lib.trimSuffix cb [41] = bs at *
    refine TW.sreg ?_
    refine WL.op rfl rfl rfl (Go.Proofs.YtlagdgkjpnocfaaGreatDoor.W.quiet_move rfl rfl) ?_
    refine WL.call (hr := KS) rfl rfl rfl rfl rfl (fun W => cf_csf W _) ?_
    rintro e w2 ⟨rfl, rfl⟩
    refine ⟨_, rfl, ?_⟩
    refine WL.op rfl rfl rfl (Go.Proofs.YtlagdgkjpnocfaaGreatDoor.W.quiet_move rfl rfl) ?_
    refine WL.ext rfl rfl rfl rfl rfl rfl ?_
    refine WL.ext rfl rfl rfl rfl rfl rfl ?_
    refine WL.op rfl rfl rfl (Go.Proofs.YtlagdgkjpnocfaaGreatDoor.W.quiet_assign rfl rfl) ?_
    refine WL.op rfl rfl rfl (Go.Proofs.YtlagdgkjpnocfaaGreatDoor.W.quiet_assign rfl rfl) ?_
    refine WL.nil ?_
    refine TW.sreg ?_
    refine WL.op rfl rfl rfl (Go.Proofs.YtlagdgkjpnocfaaGreatDoor.W.quiet_move rfl rfl) ?_
    refine WL.op rfl rfl rfl (Go.Proofs.YtlagdgkjpnocfaaGreatDoor.W.quiet_move rfl rfl) ?_
    cases hsf
    ·
      refine WL.skip rfl rfl rfl ?_
      refine WL.skip rfl rfl rfl ?_
      refine WL.skip rfl rfl rfl ?_
      refine WL.skip rfl rfl rfl ?_
      refine WL.skip rfl rfl rfl ?_
      refine WL.op rfl rfl rfl (Go.Proofs.YtlagdgkjpnocfaaGreatDoor.W.quiet_pick rfl rfl rfl) ?_
      refine WL.op rfl rfl rfl (Go.Proofs.YtlagdgkjpnocfaaGreatDoor.W.quiet_move rfl rfl) ?_
      refine WL.skip rfl rfl rfl ?_
      refine WL.skip rfl rfl rfl ?_
      refine WL.skip rfl rfl rfl ?_
      refine WL.skip rfl rfl rfl ?_
      refine WL.skip rfl rfl rfl ?_
      refine WL.op rfl rfl rfl (Go.Proofs.YtlagdgkjpnocfaaGreatDoor.W.quiet_pick rfl rfl rfl) ?_
      refine WL.op rfl rfl rfl (Go.Proofs.YtlagdgkjpnocfaaGreatDoor.W.quiet_assign rfl rfl) ?_
      refine WL.nil ?_
      refine TW.rt ?_
      repeat (with_reducible first | refine Xw.thn (by simp) ?_ | refine Xw.rblk ?_)
      refine bodyw_ret rfl rfl ?_
      exact ⟨by rw [hop, hmr]; rfl, by rw [hop, hmr]; exact hr, fd'⟩
    · refine WL.op rfl rfl rfl (Go.Proofs.YtlagdgkjpnocfaaGreatDoor.W.quiet_move rfl rfl) ?_
      refine WL.nlc rfl rfl rfl rfl rfl ?_
      refine WL.op rfl rfl rfl (Go.Proofs.YtlagdgkjpnocfaaGreatDoor.W.quiet_field rfl rfl (fun W => li4 W _ _)) ?_
      refine WL.op rfl rfl rfl (Go.Proofs.YtlagdgkjpnocfaaGreatDoor.W.quiet_move rfl rfl) ?_
      refine WL.call (hr := t_parseNumber ca (by omega) b (0 + 4) i.vals t i.imm rfl _ hr he) rfl rfl rfl rfl rfl (fun W => cf_pn W _) ?_
      rintro e w3 ⟨rfl, q1, q2⟩
      refine ⟨_, rfl, ?_⟩
      have q1' : RwL w3 b ({ i with imm := (numR ca).1 } : I5).vals t := q1
      have he3 := he.fr q2 hg1 hg2
      rw [if_pos rfl] at hmr
      generalize numR ca = nn at *
      obtain ⟨nv, nb⟩ := nn
      simp only at hmr q1'
      refine WL.op rfl rfl rfl (Go.Proofs.YtlagdgkjpnocfaaGreatDoor.W.quiet_pick rfl rfl rfl) ?_
      refine WL.op rfl rfl rfl (Go.Proofs.YtlagdgkjpnocfaaGreatDoor.W.quiet_move rfl rfl) ?_
      cases nb
      ·
        refine WL.skip rfl rfl rfl ?_
        refine WL.skip rfl rfl rfl ?_
        refine WL.skip rfl rfl rfl ?_
        refine WL.skip rfl rfl rfl ?_
        refine WL.skip rfl rfl rfl ?_
        refine WL.op rfl rfl rfl (Go.Proofs.YtlagdgkjpnocfaaGreatDoor.W.quiet_pick rfl rfl rfl) ?_
        refine WL.op rfl rfl rfl (Go.Proofs.YtlagdgkjpnocfaaGreatDoor.W.quiet_assign rfl rfl) ?_
        refine WL.nil ?_
        refine TW.rt ?_
        repeat (with_reducible first | refine Xw.thn (by simp) ?_ | refine Xw.rblk ?_)
        refine bodyw_ret rfl rfl ?_
        exact ⟨by rw [hop, hmr]; rfl, by rw [hop, hmr]; exact q1', fd'.trans q2⟩
      · rw [if_pos rfl] at hmr
        refine WL.op rfl rfl rfl (Go.Proofs.YtlagdgkjpnocfaaGreatDoor.W.quiet_move rfl rfl) ?_
        refine WL.nlc rfl rfl rfl rfl rfl ?_
        refine WL.op rfl rfl rfl (Go.Proofs.YtlagdgkjpnocfaaGreatDoor.W.quiet_field rfl rfl (fun W => li2 W _ _)) ?_
        refine WL.op rfl rfl rfl (Go.Proofs.YtlagdgkjpnocfaaGreatDoor.W.quiet_move rfl rfl) ?_
        refine WL.call (hr := t_parseRegister bs (by omega) b (0 + 2) _ t i.r1 rfl w3 q1' he3) rfl rfl rfl rfl rfl (fun W => cf_pr W _) ?_
        intro e w4 q
        unfold PrP at q
        cases hq : regR bs with
        | some r =>
          rw [hq] at q hmr
          obtain ⟨rfl, q3, q4⟩ := q
          refine ⟨_, rfl, ?_⟩
          refine WL.op rfl rfl rfl (Go.Proofs.YtlagdgkjpnocfaaGreatDoor.W.quiet_pick rfl rfl rfl) ?_
          refine WL.op rfl rfl rfl (Go.Proofs.YtlagdgkjpnocfaaGreatDoor.W.quiet_assign rfl rfl) ?_
          refine WL.nil ?_
          refine TW.rt ?_
          repeat (with_reducible first | refine Xw.thn (by simp) ?_ | refine Xw.rblk ?_)
          refine bodyw_ret rfl rfl ?_
          exact ⟨by rw [hop, hmr], by rw [hop, hmr]; exact q3, fd'.trans (q2.trans q4)⟩
        | none =>
          rw [hq] at q hmr
          obtain ⟨rfl, rfl⟩ := q
          refine ⟨_, rfl, ?_⟩
          refine WL.op rfl rfl rfl (Go.Proofs.YtlagdgkjpnocfaaGreatDoor.W.quiet_pick rfl rfl rfl) ?_
          refine WL.op rfl rfl rfl (Go.Proofs.YtlagdgkjpnocfaaGreatDoor.W.quiet_assign rfl rfl) ?_
          refine WL.nil ?_
          refine TW.rt ?_
          repeat (with_reducible first | refine Xw.thn (by simp) ?_ | refine Xw.rblk ?_)
          refine bodyw_ret rfl rfl ?_
          exact ⟨by rw [hop, hmr], by rw [hop, hmr]; exact q1', fd'.trans q2⟩
  ·
    refine TW.sreg ?_
    refine WL.op rfl rfl rfl (Go.Proofs.YtlagdgkjpnocfaaGreatDoor.W.quiet_bin rfl rfl rfl (fun W => (bn_eq32 W _ _ _ _).trans (by rw [show ((((105 : UInt8).toNat : Nat) : Int) == 100) = false by decide]))) ?_
    refine WL.op rfl rfl rfl (Go.Proofs.YtlagdgkjpnocfaaGreatDoor.W.quiet_assign rfl rfl) ?_
    refine WL.nil ?_
    refine TW.cond rfl (fun hb => by cases hb) (fun _ => ?_)
    refine TW.sreg ?_
    refine WL.op rfl rfl rfl (Go.Proofs.YtlagdgkjpnocfaaGreatDoor.W.quiet_bin rfl rfl rfl (fun W => (bn_eq32 W _ _ _ _).trans (by rw [show ((((105 : UInt8).toNat : Nat) : Int) == 97) = false by decide]))) ?_
    refine WL.op rfl rfl rfl (Go.Proofs.YtlagdgkjpnocfaaGreatDoor.W.quiet_assign rfl rfl) ?_
    refine WL.nil ?_
    refine TW.cond rfl (fun hb => by cases hb) (fun _ => ?_)
    refine TW.sreg ?_
    refine WL.op rfl rfl rfl (Go.Proofs.YtlagdgkjpnocfaaGreatDoor.W.quiet_bin rfl rfl rfl (fun W => (bn_eq32 W _ _ _ _).trans (by rw [show ((((105 : UInt8).toNat : Nat) : Int) == 98) = false by decide]))) ?_
    refine WL.op rfl rfl rfl (Go.Proofs.YtlagdgkjpnocfaaGreatDoor.W.quiet_assign rfl rfl) ?_
    refine WL.nil ?_
    refine TW.cond rfl (fun hb => by cases hb) (fun _ => ?_)
    refine TW.sreg ?_
    refine WL.op rfl rfl rfl (Go.Proofs.YtlagdgkjpnocfaaGreatDoor.W.quiet_bin rfl rfl rfl (fun W => (bn_eq32 W _ _ _ _).trans (by rw [show ((((105 : UInt8).toNat : Nat) : Int) == 109) = false by decide]))) ?_
    refine WL.op rfl rfl rfl (Go.Proofs.YtlagdgkjpnocfaaGreatDoor.W.quiet_assign rfl rfl) ?_
    refine WL.nil ?_
    refine TW.cond rfl (fun hb => by cases hb) (fun _ => ?_)
    have hop : opR 105 s i = ({ i with imm := (numR s).1 }, (numR s).2) := rfl
    refine TW.skipx ?_
    repeat (with_reducible refine Xw.nblk ?_)
    refine Xw.nrm ?_
    refine TW.sreg ?_
    refine WL.op rfl rfl rfl (Go.Proofs.YtlagdgkjpnocfaaGreatDoor.W.quiet_move rfl rfl) ?_
    refine WL.nlc rfl rfl rfl rfl rfl ?_
    refine WL.op rfl rfl rfl (Go.Proofs.YtlagdgkjpnocfaaGreatDoor.W.quiet_field rfl rfl (fun W => li4 W _ _)) ?_
    refine WL.op rfl rfl rfl (Go.Proofs.YtlagdgkjpnocfaaGreatDoor.W.quiet_move rfl rfl) ?_
    refine WL.call (hr := t_parseNumber s hs b (0 + 4) i.vals t i.imm rfl w hr he) rfl rfl rfl rfl rfl (fun W => cf_pn W _) ?_
    rintro e w3 ⟨rfl, q1, q2⟩
    refine ⟨_, rfl, ?_⟩
    refine WL.op rfl rfl rfl (Go.Proofs.YtlagdgkjpnocfaaGreatDoor.W.quiet_assign rfl rfl) ?_
    refine WL.nil ?_
    refine TW.rt ?_
    repeat (with_reducible first | refine Xw.thn (by simp) ?_ | refine Xw.rblk ?_)
    refine bodyw_ret rfl rfl ?_
    exact ⟨by rw [hop], by rw [hop]; exact q1, q2⟩
end Go.Proofs.YtlagdgkjpnocfaaGreatDoor
