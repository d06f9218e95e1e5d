/-
  Listing (layer 6): Read.
-/
import Derived.Test.YtlagdgkjpnocfaaGreatDoorLsN
namespace Go.Proofs.YtlagdgkjpnocfaaGreatDoor
open Go.RowKit
set_option linter.unusedVariables false
set_option linter.unusedSimpArgs false
/-- The instruction of a line. -/
def readT (s : List UInt8) : Option I5 := match parseR s with
  | some i => if fitsB i.rd i.r1 i.r2 i.imm (fm (ix i.op)) = true ∧ lineT i.op i.rd i.r1 i.r2 i.imm = s then some i else none
  | none => none
def RdV (o : Option I5) : Value := match o with | some i => .tuple #[.agg i.vals, .int .i64 0] | none => .tuple #[.agg z5.vals, .int .i64 3]
theorem cf_pa (w : World) (vs : Array Value) : (callFunc 22 vs).run Tryz.prog w = .ok (.enter 22 vs) w := by simp [go_sem]
theorem bn_nes (w : World) (x y : Operand) (a b : List UInt8) : (do eqGuard .neq 9 x y (bts a) (bts b); binOp .neq 9 (bts a) (bts b) : Sem Value).run Tryz.prog w = .ok (.bool (!decide (a = b))) w := by
  have h : ((⟨a.toArray⟩ : ByteArray) = ⟨b.toArray⟩) ↔ a = b := ⟨fun h => by simpa using h, fun h => by rw [h]⟩
  by_cases e : a = b
  · subst e; simp [go_sem, bts]
  · have e2 : ¬ ((⟨a.toArray⟩ : ByteArray) = ⟨b.toArray⟩) := fun z => e (h.1 z)
    simp [go_sem, bts, e, e2]
set_option maxRecDepth 100000 in
set_option maxHeartbeats 3200000 in
theorem t_Read (s : List UInt8) (hs : s.length ≤ 1000000) (HI : ∀ i, parseR s = some i → I64 i.rd ∧ I64 i.r1 ∧ I64 i.r2 ∧ I64 i.imm ∧ 0 < (layT i.op).length) (w : World) (he : ErW w) (hm : MlW w) (ht : TabW w) : Calls Tryz.prog 11 #[bts s] w fun e w' => e = .returned (RdV (readT s)) ∧ Fr (fun _ => False) w w' := by
  have hRT : readT s = (match parseR s with | some i => if fitsB i.rd i.r1 i.r2 i.imm (fm (ix i.op)) = true ∧ lineT i.op i.rd i.r1 i.r2 i.imm = s then some i else none | none => none) := rfl
  refine calls_tw Tryz.func11 rfl rfl (Nat.le_of_ble_eq_true rfl) ?_
  refine TW.sreg ?_
  refine WL.alloc rfl rfl rfl rfl (pal_ins _) ?_
  refine WL.op rfl rfl rfl (Go.Proofs.YtlagdgkjpnocfaaGreatDoor.W.quiet_assign rfl rfl) ?_
  refine WL.nil ?_
  have f1 := fr_al (Fr.refl (fun _ => False) w) (.cells #[.int .i64 0, .int .i64 0, .int .i64 0, .int .i64 0, .int .i64 0] 23)
  have r2 : RwL (w.alloc (.cells #[.int .i64 0, .int .i64 0, .int .i64 0, .int .i64 0, .int .i64 0] 23)) w.heap.size #[.int .i64 0, .int .i64 0, .int .i64 0, .int .i64 0, .int .i64 0] 23 := heap_alloc_new w _
  generalize w.alloc (.cells #[.int .i64 0, .int .i64 0, .int .i64 0, .int .i64 0, .int .i64 0] 23) = w1 at *
  obtain ⟨b2, hb2⟩ : ∃ z, w.heap.size = z := ⟨_, rfl⟩
  rw [hb2] at r2 ⊢
  refine TW.sreg ?_
  refine WL.op rfl rfl rfl (Go.Proofs.YtlagdgkjpnocfaaGreatDoor.W.quiet_move rfl rfl) ?_
  refine WL.call (hr := t_parse s hs w1 (he.fr f1 id id) (hm.fr f1 id)) rfl rfl rfl rfl rfl (fun W => cf_pa W _) ?_
  rintro e w2 ⟨rfl, f2⟩
  replace r2 := r2.fr f2 id
  replace f1 := f1.trans f2
  clear f2
  have r2o := r2
  cases hp : parseR s with
  | none =>
    rw [hp] at hRT
    dsimp only at hRT
    refine ⟨.tuple #[.agg z5.vals, .bool false], rfl, ?_⟩
    dsimp only [z5, I5.vals]
    refine WL.op rfl rfl rfl (Go.Proofs.YtlagdgkjpnocfaaGreatDoor.W.quiet_move rfl rfl) ?_
    refine WL.ext rfl rfl rfl rfl rfl rfl ?_
    refine WL.ext rfl rfl rfl rfl rfl rfl ?_
    refine WL.alloc rfl rfl rfl rfl (pal_ins _) ?_
    have f3 := fr_al (Fr.refl (fun _ => False) w2) (.cells #[.int .i64 0, .int .i64 0, .int .i64 0, .int .i64 0, .int .i64 0] 23)
    have r4 : RwL (w2.alloc (.cells #[.int .i64 0, .int .i64 0, .int .i64 0, .int .i64 0, .int .i64 0] 23)) w2.heap.size #[.int .i64 0, .int .i64 0, .int .i64 0, .int .i64 0, .int .i64 0] 23 := heap_alloc_new w2 _
    replace r2 := r2.fr f3 id
    generalize w2.alloc (.cells #[.int .i64 0, .int .i64 0, .int .i64 0, .int .i64 0, .int .i64 0] 23) = w3 at *
    obtain ⟨b4, hb4⟩ : ∃ z, w2.heap.size = z := ⟨_, rfl⟩
    rw [hb4] at r4 ⊢
    obtain ⟨w4, s4, q4, f4⟩ := st_ins w3 b4 _ _ _ _ _ 0 0 0 0 0 r4
    refine WL.store rfl rfl rfl rfl rfl s4 ?_
    refine WL.op rfl rfl rfl (Go.Proofs.YtlagdgkjpnocfaaGreatDoor.W.quiet_assign rfl rfl) ?_
    refine WL.nil ?_
    have hbb : ¬ b2 = b4 := by
      have := (Array.getElem?_eq_some_iff.1 r2o).1
      omega
    replace r2 := r2.fr f4 hbb
    refine TW.seq ?_
    refine TW.sreg ?_
    refine WL.op rfl rfl rfl (Go.Proofs.YtlagdgkjpnocfaaGreatDoor.W.quiet_move rfl rfl) ?_
    refine WL.op rfl rfl rfl (Go.Proofs.YtlagdgkjpnocfaaGreatDoor.W.quiet_not rfl rfl) ?_
    refine WL.op rfl rfl rfl (Go.Proofs.YtlagdgkjpnocfaaGreatDoor.W.quiet_move rfl rfl) ?_
    refine WL.skip rfl rfl rfl ?_
    refine WL.skip rfl rfl rfl ?_
    refine WL.skip rfl rfl rfl ?_
    refine WL.op rfl rfl rfl (Go.Proofs.YtlagdgkjpnocfaaGreatDoor.W.quiet_pick rfl rfl rfl) ?_
    refine WL.op rfl rfl rfl (Go.Proofs.YtlagdgkjpnocfaaGreatDoor.W.quiet_move rfl rfl) ?_
    refine WL.skip rfl rfl rfl ?_
    refine WL.skip rfl rfl rfl ?_
    refine WL.skip rfl rfl rfl ?_
    refine WL.skip rfl rfl rfl ?_
    refine WL.op rfl rfl rfl (Go.Proofs.YtlagdgkjpnocfaaGreatDoor.W.quiet_pick rfl rfl rfl) ?_
    refine WL.nil ?_
    refine TW.cond rfl (fun _ => ?_) (fun hb => by cases hb)
    refine TW.sreg ?_
    refine WL.gen rfl rfl rfl (fun e h _ => by simp only [execOp, List.map_toArray, List.map_nil, Sem.run_bind, bd_no, Result.andThen_ok, Sem.run_pure]; rfl) ?_
    obtain ⟨w8, s8, q9, f8⟩ := st_ins w4 b2 _ _ _ _ _ 0 0 0 0 0 r2
    refine WL.store rfl rfl rfl rfl rfl s8 ?_
    refine WL.op rfl rfl rfl (Go.Proofs.YtlagdgkjpnocfaaGreatDoor.W.quiet_assign rfl rfl) ?_
    refine WL.nil ?_
    refine TW.rt ?_
    repeat (with_reducible first | refine Xw.thn (by simp) ?_ | refine Xw.rblk ?_)
    refine bodyw_retct rfl rfl rfl q9 Tryz.underlying23 rfl (by kernel_rfl) ?_
    exact ⟨by rw [hRT]; rfl, ((f1.trans f3).trans' f4 (fun q hq e => by have := f1.size; omega)).trans' f8 (fun q hq e => by omega)⟩
  | some i =>
    rw [hp] at hRT
    dsimp only at hRT
    refine ⟨.tuple #[.agg i.vals, .bool true], rfl, ?_⟩
    dsimp only [I5.vals]
    refine WL.op rfl rfl rfl (Go.Proofs.YtlagdgkjpnocfaaGreatDoor.W.quiet_move rfl rfl) ?_
    refine WL.ext rfl rfl rfl rfl rfl rfl ?_
    refine WL.ext rfl rfl rfl rfl rfl rfl ?_
    refine WL.alloc rfl rfl rfl rfl (pal_ins _) ?_
    have f3 := fr_al (Fr.refl (fun _ => False) w2) (.cells #[.int .i64 0, .int .i64 0, .int .i64 0, .int .i64 0, .int .i64 0] 23)
    have r4 : RwL (w2.alloc (.cells #[.int .i64 0, .int .i64 0, .int .i64 0, .int .i64 0, .int .i64 0] 23)) w2.heap.size #[.int .i64 0, .int .i64 0, .int .i64 0, .int .i64 0, .int .i64 0] 23 := heap_alloc_new w2 _
    replace r2 := r2.fr f3 id
    generalize w2.alloc (.cells #[.int .i64 0, .int .i64 0, .int .i64 0, .int .i64 0, .int .i64 0] 23) = w3 at *
    obtain ⟨b4, hb4⟩ : ∃ z, w2.heap.size = z := ⟨_, rfl⟩
    rw [hb4] at r4 ⊢
    obtain ⟨w4, s4, q4, f4⟩ := st_ins w3 b4 _ _ _ _ _ i.op i.rd i.r1 i.r2 i.imm r4
    refine WL.store rfl rfl rfl rfl rfl s4 ?_
    refine WL.op rfl rfl rfl (Go.Proofs.YtlagdgkjpnocfaaGreatDoor.W.quiet_assign rfl rfl) ?_
    refine WL.nil ?_
    have hbb : ¬ b2 = b4 := by
      have := (Array.getElem?_eq_some_iff.1 r2o).1
      omega
    replace r2 := r2.fr f4 hbb
    have f5 : Fr (fun _ => False) w w4 := (f1.trans f3).trans' f4 (fun q hq e => by have := f1.size; omega)
    obtain ⟨h1, h2, h3, h4, h0⟩ := HI i hp
    have KR := fun w => c13 i.op i.rd i.r1 i.r2 i.imm w
    generalize fitsB i.rd i.r1 i.r2 i.imm (fm (ix i.op)) = fb at *
    refine TW.seq ?_
    refine TW.sreg ?_
    refine WL.op rfl rfl rfl (Go.Proofs.YtlagdgkjpnocfaaGreatDoor.W.quiet_move rfl rfl) ?_
    refine WL.op rfl rfl rfl (Go.Proofs.YtlagdgkjpnocfaaGreatDoor.W.quiet_not rfl rfl) ?_
    refine WL.op rfl rfl rfl (Go.Proofs.YtlagdgkjpnocfaaGreatDoor.W.quiet_move rfl rfl) ?_
    refine WL.ld rfl rfl rfl rfl rfl (ldins _ _ _ _ _ _ _ _ (q4.cell (j := 0) rfl) (by rw [Nat.zero_add]; exact q4.cell (j := 1) rfl) (by rw [Nat.zero_add]; exact q4.cell (j := 2) rfl) (by rw [Nat.zero_add]; exact q4.cell (j := 3) rfl) (by rw [Nat.zero_add]; exact q4.cell (j := 4) rfl)) ?_
    refine WL.call (hr := KR w4) rfl rfl rfl rfl rfl (fun W => cf_rt W _) ?_
    rintro e w5 ⟨rfl, hg⟩
    refine ⟨_, rfl, ?_⟩
    have f6 : Fr (fun _ => False) w4 w5 := Fr.of_grown hg
    replace r2 := r2.fr f6 id
    replace q4 := q4.fr f6 id
    refine WL.op rfl rfl rfl (Go.Proofs.YtlagdgkjpnocfaaGreatDoor.W.quiet_not rfl rfl) ?_
    refine WL.op rfl rfl rfl (Go.Proofs.YtlagdgkjpnocfaaGreatDoor.W.quiet_pick rfl rfl rfl) ?_
    refine WL.op rfl rfl rfl (Go.Proofs.YtlagdgkjpnocfaaGreatDoor.W.quiet_move rfl rfl) ?_
    cases fb
    · refine WL.skip rfl rfl rfl ?_
      refine WL.skip rfl rfl rfl ?_
      refine WL.skip rfl rfl rfl ?_
      refine WL.skip rfl rfl rfl ?_
      refine WL.op rfl rfl rfl (Go.Proofs.YtlagdgkjpnocfaaGreatDoor.W.quiet_pick rfl rfl rfl) ?_
      refine WL.nil ?_
      refine TW.cond rfl (fun _ => ?_) (fun hb => by cases hb)
      refine TW.sreg ?_
      refine WL.gen rfl rfl rfl (fun e h _ => by simp only [execOp, List.map_toArray, List.map_nil, Sem.run_bind, bd_no, Result.andThen_ok, Sem.run_pure]; rfl) ?_
      obtain ⟨w8, s8, q9, f8⟩ := st_ins w5 b2 _ _ _ _ _ 0 0 0 0 0 r2
      refine WL.store rfl rfl rfl rfl rfl s8 ?_
      refine WL.op rfl rfl rfl (Go.Proofs.YtlagdgkjpnocfaaGreatDoor.W.quiet_assign rfl rfl) ?_
      refine WL.nil ?_
      refine TW.rt ?_
      repeat (with_reducible first | refine Xw.thn (by simp) ?_ | refine Xw.rblk ?_)
      refine bodyw_retct rfl rfl rfl q9 Tryz.underlying23 rfl (by kernel_rfl) ?_
      exact ⟨by rw [hRT]; rfl, (f5.trans f6).trans' f8 (fun q hq e => by omega)⟩
    · refine WL.ld rfl rfl rfl rfl rfl (ldins _ _ _ _ _ _ _ _ (q4.cell (j := 0) rfl) (by rw [Nat.zero_add]; exact q4.cell (j := 1) rfl) (by rw [Nat.zero_add]; exact q4.cell (j := 2) rfl) (by rw [Nat.zero_add]; exact q4.cell (j := 3) rfl) (by rw [Nat.zero_add]; exact q4.cell (j := 4) rfl)) ?_
      refine WL.call (hr := t_line i.op i.rd i.r1 i.r2 i.imm h1 h2 h3 h4 h0 w5 ((ht.fr f5 id).fr f6 id)) rfl rfl rfl rfl rfl (fun W => cf_ln W _) ?_
      rintro e w6 ⟨rfl, f7⟩
      refine ⟨_, rfl, ?_⟩
      replace r2 := r2.fr f7 id
      replace q4 := q4.fr f7 id
      refine WL.op rfl rfl rfl (Go.Proofs.YtlagdgkjpnocfaaGreatDoor.W.quiet_move rfl rfl) ?_
      refine WL.op rfl rfl rfl (Go.Proofs.YtlagdgkjpnocfaaGreatDoor.W.quiet_bin rfl rfl rfl (fun W => bn_nes W _ _ _ _)) ?_
      refine WL.op rfl rfl rfl (Go.Proofs.YtlagdgkjpnocfaaGreatDoor.W.quiet_pick rfl rfl rfl) ?_
      refine WL.nil ?_
      by_cases hl : lineT i.op i.rd i.r1 i.r2 i.imm = s
      · simp only [hl, decide_true, Bool.not_true]
        refine TW.cond rfl (fun hb => by cases hb) (fun _ => ?_)
        refine TW.skip ?_
        refine TW.sreg ?_
        refine WL.ld rfl rfl rfl rfl rfl (ldins _ _ _ _ _ _ _ _ (q4.cell (j := 0) rfl) (by rw [Nat.zero_add]; exact q4.cell (j := 1) rfl) (by rw [Nat.zero_add]; exact q4.cell (j := 2) rfl) (by rw [Nat.zero_add]; exact q4.cell (j := 3) rfl) (by rw [Nat.zero_add]; exact q4.cell (j := 4) rfl)) ?_
        obtain ⟨w8, s8, q9, f8⟩ := st_ins w6 b2 _ _ _ _ _ i.op i.rd i.r1 i.r2 i.imm r2
        refine WL.store rfl rfl rfl rfl rfl s8 ?_
        refine WL.op rfl rfl rfl (Go.Proofs.YtlagdgkjpnocfaaGreatDoor.W.quiet_assign rfl rfl) ?_
        refine WL.nil ?_
        refine TW.rt ?_
        repeat (with_reducible first | refine Xw.thn (by simp) ?_ | refine Xw.rblk ?_)
        refine bodyw_retct rfl rfl rfl q9 Tryz.underlying23 rfl (by kernel_rfl) ?_
        exact ⟨by rw [hRT, if_pos ⟨rfl, hl⟩]; rfl, ((f5.trans f6).trans f7).trans' f8 (fun q hq e => by omega)⟩
      · simp only [hl, decide_false, Bool.not_false]
        refine TW.cond rfl (fun _ => ?_) (fun hb => by cases hb)
        refine TW.sreg ?_
        refine WL.gen rfl rfl rfl (fun e h _ => by simp only [execOp, List.map_toArray, List.map_nil, Sem.run_bind, bd_no, Result.andThen_ok, Sem.run_pure]; rfl) ?_
        obtain ⟨w8, s8, q9, f8⟩ := st_ins w6 b2 _ _ _ _ _ 0 0 0 0 0 r2
        refine WL.store rfl rfl rfl rfl rfl s8 ?_
        refine WL.op rfl rfl rfl (Go.Proofs.YtlagdgkjpnocfaaGreatDoor.W.quiet_assign rfl rfl) ?_
        refine WL.nil ?_
        refine TW.rt ?_
        repeat (with_reducible first | refine Xw.thn (by simp) ?_ | refine Xw.rblk ?_)
        refine bodyw_retct rfl rfl rfl q9 Tryz.underlying23 rfl (by kernel_rfl) ?_
        exact ⟨by rw [hRT, if_neg (fun z => hl z.2)]; rfl, ((f5.trans f6).trans f7).trans' f8 (fun q hq e => by omega)⟩
end Go.Proofs.YtlagdgkjpnocfaaGreatDoor
