/-
  Items (layer 5): the walk of the law on what is made of any items.
-/
import Derived.Test.YtnjlcimeaoedcaaQPad
import Derived.Test.YtnjlcimeaoedcaaQAsmAw
namespace Go.Proofs.Ytnjlcimeaoedcaa
open Go.RowKit
set_option linter.unusedVariables false
set_option linter.unusedSimpArgs false
section
variable (w : World) (b o n c j : Nat)
theorem ixu (hj : j < n) : (Instr.indexAt 25 (.slice (some ⟨b, o, none⟩) n c) (.int .i64 (j : Int))).run Try.prog w = .ok (.pointer (some ⟨b, o + j, none⟩)) w := by
  have h : (j : Int) < (n : Int) := by omega
  simp [go_sem, h, hj]
theorem ln_w (a : Option Addr) (k l : Nat) : (Builtin.len_ #[25] 3 #[.slice a k l]).run Try.prog w = .ok (.int .i64 k) w := by simp [go_sem]
theorem ld_u (m : Int) (d : Addr) (h : w.cell? d = some (.int .u32 m)) : (Instr.loadAt 35 (.pointer (some d))).run Try.prog w = .ok (.int .u32 m) w := by simp [go_sem, h]
theorem bn_neu (x y : Operand) (m n : Int) : (do eqGuard .neq 35 x y (.int .u32 m) (.int .u32 n); binOp .neq 35 (.int .u32 m) (.int .u32 n) : Sem Value).run Try.prog w = .ok (.bool (m != n)) w := by simp [go_sem]
theorem fm2 : (Instr.fieldAt TM (.pointer (some ⟨b, o, none⟩)) 2).run Try.prog w = .ok (.pointer (some ⟨b, o + 2, none⟩)) w := by simp [go_sem]
theorem cf_awk (vs : Array Value) : (callFunc 5 vs).run Try.prog w = .ok (.enter 5 vs) w := by simp [go_sem]
theorem cf_pad (vs : Array Value) : (callFunc 6 vs).run Try.prog w = .ok (.enter 6 vs) w := by simp [go_sem]
theorem cf_asm (vs : Array Value) : (callFunc 7 vs).run Try.prog w = .ok (.enter 7 vs) w := by simp [go_sem]
theorem cf_ref (vs : Array Value) : (callFunc 9 vs).run Try.prog w = .ok (.enter 9 vs) w := by simp [go_sem]
theorem cf_rasm (vs : Array Value) : (callFunc 8 vs).run Try.prog w = .ok (.enter 8 vs) w := by simp [go_sem]
end
theorem WL.ext {P : Program} {ops : Array Oper} {N : Nat} {Q : Exit → Act → World → Prop} {s : List (Nat × Value)} {l : List Oper} {o : Oper} {d : Nat} {w : World} {x : Operand} {j : Nat} {vs : Array Value} {v : Value} (hop : o.op = .extract x j) (hd : o.dst = some d) (hN : Nat.blt d N = true) (hg : gd ops s o = some true) (hu : ev s x = some (.tuple vs)) (hv : vs[j]? = some v) (h : WL P ops N Q ((d, v) :: s) l w) : WL P ops N Q s (o :: l) w :=
  WL.run hd hN hg (fun a k => RH.extract (S := fun _ => True) hop hu hv a k w trivial) h
set_option maxRecDepth 100000 in
set_option maxHeartbeats 1600000 in
theorem asmMakes_walk (l : List It) (a : Option Addr) (n c : Nat) (p q : Int) (hn : n = l.length) (w : World) (hat : ItAt w.heap.size w a l) : Calls Try.prog 3 #[.slice a n c, .int .i64 p, .int .i64 q] w fun e w' => e = .returned (.bool true) ∧ Fr (fun _ => False) w w' := by
  refine calls_tw Try.func3 rfl rfl (Nat.le_of_ble_eq_true rfl) ?_
  refine TW.sreg ?_
  refine WL.op rfl rfl rfl (Go.Proofs.Ytnjlcimeaoedcaa.W.quiet_assign rfl rfl) ?_
  refine WL.nil ?_
  refine TW.seq ?_
  refine TW.sreg ?_
  refine WL.op rfl rfl rfl (Go.Proofs.Ytnjlcimeaoedcaa.W.quiet_move rfl rfl) ?_
  refine WL.op rfl rfl rfl (Go.Proofs.Ytnjlcimeaoedcaa.W.quiet_len rfl rfl (fun W => pln W _ _ _)) ?_
  refine WL.op rfl rfl rfl (Go.Proofs.Ytnjlcimeaoedcaa.W.quiet_bin rfl rfl rfl (fun W => bn_gt W _ _ _ _)) ?_
  refine WL.nil ?_
  refine TW.cond rfl (fun hb => ?_) (fun hb => ?_)
  · refine TW.sreg ?_
    refine WL.call (hr := c5 w) rfl rfl rfl rfl rfl (fun W => cf_awk W _) ?_
    rintro e w1 ⟨rfl, f1⟩
    refine ⟨_, rfl, ?_⟩
    refine WL.op rfl rfl rfl (Go.Proofs.Ytnjlcimeaoedcaa.W.quiet_assign rfl rfl) ?_
    refine WL.nil ?_
    refine TW.rt ?_
    repeat (with_reducible first | refine Xw.thn (by simp) ?_ | refine Xw.rblk ?_)
    refine bodyw_ret rfl rfl ?_
    exact ⟨rfl, f1⟩
  have h60 : n ≤ 60 := by have := of_decide_eq_false hb; omega
  refine TW.skip ?_
  refine TW.sreg ?_
  refine WL.op rfl rfl rfl (Go.Proofs.Ytnjlcimeaoedcaa.W.quiet_move rfl rfl) ?_
  refine WL.op rfl rfl rfl (Go.Proofs.Ytnjlcimeaoedcaa.W.quiet_move rfl rfl) ?_
  refine WL.op rfl rfl rfl (Go.Proofs.Ytnjlcimeaoedcaa.W.quiet_move rfl rfl) ?_
  refine WL.call (hr := r_padded l a n c p q hn h60 w hat) rfl rfl rfl rfl rfl (fun W => cf_pad W _) ?_
  rintro e w1 ⟨ap, cp, rfl, hat1, f1⟩
  refine ⟨_, rfl, ?_⟩
  refine WL.op rfl rfl rfl (Go.Proofs.Ytnjlcimeaoedcaa.W.quiet_assign rfl rfl) ?_
  refine WL.nil ?_
  have hlen := padL_len l p q n
  have hlen2 : (padL l p q n).length ≤ 32768 := by split at hlen <;> omega
  generalize padL l p q n = P at *
  obtain ⟨ws, ls, er, ⟨hwl, hll⟩, H1, H2⟩ := both_asm P hlen2
  refine TW.sreg ?_
  refine WL.op rfl rfl rfl (Go.Proofs.Ytnjlcimeaoedcaa.W.quiet_move rfl rfl) ?_
  refine WL.call (hr := H1 ap cp w1 hat1) rfl rfl rfl rfl rfl (fun W => cf_asm W _) ?_
  rintro e w2 ⟨a1, c1, b1, d1, rfl, f2, hu, hi⟩
  refine ⟨_, rfl, ?_⟩
  refine WL.op rfl rfl rfl (Go.Proofs.Ytnjlcimeaoedcaa.W.quiet_move rfl rfl) ?_
  refine WL.ext rfl rfl rfl rfl rfl rfl ?_
  refine WL.ext rfl rfl rfl rfl rfl rfl ?_
  refine WL.ext rfl rfl rfl rfl rfl rfl ?_
  refine WL.op rfl rfl rfl (Go.Proofs.Ytnjlcimeaoedcaa.W.quiet_assign rfl rfl) ?_
  refine WL.op rfl rfl rfl (Go.Proofs.Ytnjlcimeaoedcaa.W.quiet_assign rfl rfl) ?_
  refine WL.op rfl rfl rfl (Go.Proofs.Ytnjlcimeaoedcaa.W.quiet_assign rfl rfl) ?_
  refine WL.nil ?_
  replace hat1 := (hat1.fr f2 (fun _ h => h.elim)).mono f2.size
  replace f1 := f1.trans f2
  clear f2 hlen
  refine TW.sreg ?_
  refine WL.op rfl rfl rfl (Go.Proofs.Ytnjlcimeaoedcaa.W.quiet_move rfl rfl) ?_
  refine WL.call (hr := c9 ap P.length cp P rfl (by omega) w2 hat1) rfl rfl rfl rfl rfl (fun W => cf_ref W _) ?_
  rintro e w3 ⟨ar, cr, rfl, hat3, f3⟩
  refine ⟨_, rfl, ?_⟩
  replace hu := hu.fr f3
  replace hi := hi.fr f3
  replace f1 := f1.trans f3
  clear f3 hat1
  refine WL.call (hr := H2 ar cr w3 hat3) rfl rfl rfl rfl rfl (fun W => cf_rasm W _) ?_
  rintro e w4 ⟨a2, c2, b2, d2, rfl, f4, hu2, hi2⟩
  refine ⟨_, rfl, ?_⟩
  replace hu := hu.fr f4
  replace hi := hi.fr f4
  replace f1 := f1.trans f4
  clear f4 hat3
  refine WL.alloc rfl rfl rfl rfl (al_m _) ?_
  have f5 := fr_al (Fr.refl (fun _ => False) w4) (.cells #[.slice none 0 0, .slice none 0 0, .int .i64 0] TM)
  have r5 := Rw.new w4 #[.slice none 0 0, .slice none 0 0, .int .i64 0] TM
  generalize hw5 : w4.alloc (.cells #[.slice none 0 0, .slice none 0 0, .int .i64 0] TM) = w5 at *
  obtain ⟨bm, hbm⟩ : ∃ z, w4.heap.size = z := ⟨_, rfl⟩
  rw [hbm] at r5 ⊢
  refine WL.store rfl rfl rfl rfl rfl (st_m _ _ _ r5 rfl _ _ _ _ _ _ _) ?_
  have r6 := ((r5.set 0 (.slice a2 ws.length c2)).set 1 (.slice b2 ls.length d2)).set 2 (.int .i64 er)
  have f6 : Fr (fun _ => False) w4 (((w5.setCell ⟨bm, 0, none⟩ (.slice a2 ws.length c2)).setCell ⟨bm, 1, none⟩ (.slice b2 ls.length d2)).setCell ⟨bm, 2, none⟩ (.int .i64 er)) := fr_set (fr_set (fr_set f5 (by omega) 0 _) (by omega) 1 _) (by omega) 2 _
  generalize (((w5.setCell ⟨bm, 0, none⟩ (.slice a2 ws.length c2)).setCell ⟨bm, 1, none⟩ (.slice b2 ls.length d2)).setCell ⟨bm, 2, none⟩ (.int .i64 er)) = w6 at *
  replace f1 := f1.trans f6
  replace hu := hu.fr f6
  replace hi := hi.fr f6
  replace hu2 := hu2.fr f6
  replace hi2 := hi2.fr f6
  clear f5 f6 r5 hw5 hbm hlen2 H1 H2 w4 w5
  refine WL.nil ?_
  have BE : (er != er) = false := by simp
  have BW : ((ws.length : Int) != (ws.length : Int)) = false := by simp
  have BL : ((ls.length : Int) != (ls.length : Int)) = false := by simp
  refine TW.seq ?_
  refine TW.sreg ?_
  refine WL.op rfl rfl rfl (Go.Proofs.Ytnjlcimeaoedcaa.W.quiet_move rfl rfl) ?_
  refine WL.op rfl rfl rfl (Go.Proofs.Ytnjlcimeaoedcaa.W.quiet_field rfl rfl (fun W => fm2 W _ _)) ?_
  refine WL.ld rfl rfl rfl rfl rfl (ld_int _ _ _ (r6.cell rfl)) ?_
  refine WL.op rfl rfl rfl (Go.Proofs.Ytnjlcimeaoedcaa.W.quiet_bin rfl rfl rfl (fun W => (bn_ne W _ _ _ _).trans (by rw [BE]))) ?_
  refine WL.op rfl rfl rfl (Go.Proofs.Ytnjlcimeaoedcaa.W.quiet_move rfl rfl) ?_
  refine WL.op rfl rfl rfl (Go.Proofs.Ytnjlcimeaoedcaa.W.quiet_move rfl rfl) ?_
  refine WL.op rfl rfl rfl (Go.Proofs.Ytnjlcimeaoedcaa.W.quiet_len rfl rfl (fun W => ln_w W _ _ _)) ?_
  refine WL.op rfl rfl rfl (Go.Proofs.Ytnjlcimeaoedcaa.W.quiet_field rfl rfl (fun W => fm0 W _ _)) ?_
  refine WL.ld rfl rfl rfl rfl rfl (ld_sw _ _ _ (r6.cell rfl)) ?_
  refine WL.op rfl rfl rfl (Go.Proofs.Ytnjlcimeaoedcaa.W.quiet_len rfl rfl (fun W => ln_w W _ _ _)) ?_
  refine WL.op rfl rfl rfl (Go.Proofs.Ytnjlcimeaoedcaa.W.quiet_bin rfl rfl rfl (fun W => (bn_ne W _ _ _ _).trans (by rw [BW]))) ?_
  refine WL.op rfl rfl rfl (Go.Proofs.Ytnjlcimeaoedcaa.W.quiet_pick rfl rfl rfl) ?_
  refine WL.op rfl rfl rfl (Go.Proofs.Ytnjlcimeaoedcaa.W.quiet_move rfl rfl) ?_
  refine WL.op rfl rfl rfl (Go.Proofs.Ytnjlcimeaoedcaa.W.quiet_move rfl rfl) ?_
  refine WL.op rfl rfl rfl (Go.Proofs.Ytnjlcimeaoedcaa.W.quiet_len rfl rfl (fun W => ln_i W _ _ _)) ?_
  refine WL.op rfl rfl rfl (Go.Proofs.Ytnjlcimeaoedcaa.W.quiet_field rfl rfl (fun W => fm1 W _ _)) ?_
  refine WL.ld rfl rfl rfl rfl rfl (ld_si _ _ _ (r6.cell rfl)) ?_
  refine WL.op rfl rfl rfl (Go.Proofs.Ytnjlcimeaoedcaa.W.quiet_len rfl rfl (fun W => ln_i W _ _ _)) ?_
  refine WL.op rfl rfl rfl (Go.Proofs.Ytnjlcimeaoedcaa.W.quiet_bin rfl rfl rfl (fun W => (bn_ne W _ _ _ _).trans (by rw [BL]))) ?_
  refine WL.op rfl rfl rfl (Go.Proofs.Ytnjlcimeaoedcaa.W.quiet_pick rfl rfl rfl) ?_
  refine WL.nil ?_
  refine TW.cond rfl (fun hb => by cases hb) (fun _ => ?_)
  refine TW.skip ?_
  clear BE BW BL
  refine TW.seq ?_
  refine TW.seq ?_
  refine TW.reg ?_
  refine WL.op rfl rfl rfl (Go.Proofs.Ytnjlcimeaoedcaa.W.quiet_assign rfl rfl) ?_
  refine WL.nil ?_
  refine TW.block ?_
  refine TW.loop (t := 12) (n := ws.length) (fun k b W => Kn Try.f3.ntmps [(12, .int .i64 ((k : Nat) : Int)), (8, .slice a1 ws.length c1), (9, .slice b1 ls.length d1), (11, .pointer (some ⟨bm, 0, none⟩))] b ∧ Fr (fun _ => False) w6 W) (fun k b wr h => h.1.has 12 _ rfl) (fun b h => ⟨(by (repeat (refine Kn.cons h rfl ?_)); exact h.base), Fr.refl _ _⟩) ?_
  rintro k b W hk ⟨hkn, hf⟩
  refine TW.app ?_ hkn
  clear hkn b
  refine TW.seq ?_
  refine TW.sreg ?_
  refine WL.op rfl rfl rfl (Go.Proofs.Ytnjlcimeaoedcaa.W.quiet_move rfl rfl) ?_
  refine WL.op rfl rfl rfl (Go.Proofs.Ytnjlcimeaoedcaa.W.quiet_move rfl rfl) ?_
  refine WL.op rfl rfl rfl (Go.Proofs.Ytnjlcimeaoedcaa.W.quiet_len rfl rfl (fun W => ln_w W _ _ _)) ?_
  refine WL.op rfl rfl rfl (Go.Proofs.Ytnjlcimeaoedcaa.W.quiet_bin rfl rfl rfl (fun W => bn_lt W _ _ (k : Int) (ws.length : Int))) ?_
  refine WL.nil ?_
  refine TW.cond rfl (fun hlt => ?_) (fun hge => ?_)
  · have hk' : k < ws.length := by have := of_decide_eq_true hlt; omega
    obtain ⟨g1, rfl, q1⟩ := hu k hk'
    obtain ⟨g2, rfl, q2⟩ := hu2 k hk'
    refine TW.skip ?_
    refine TW.seq ?_
    refine TW.block ?_
    have IX1 := fun W => ixu W g1 0 ws.length c1 k hk'
    have IX2 := fun W => ixu W g2 0 ws.length c2 k hk'
    have L1 : ∀ W', Fr (fun _ => False) w6 W' → (Instr.loadAt 35 (.pointer (some ⟨g1, 0 + k, none⟩))).run Try.prog W' = .ok (.int .u32 (ws.getD k 0)) W' := fun W' hf => ld_u _ _ _ (hf.cell (by rw [Nat.zero_add]; exact q1) id)
    have L2 : ∀ W', Fr (fun _ => False) w6 W' → (Instr.loadAt 35 (.pointer (some ⟨g2, 0 + k, none⟩))).run Try.prog W' = .ok (.int .u32 (ws.getD k 0)) W' := fun W' hf => ld_u _ _ _ (hf.cell (by rw [Nat.zero_add]; exact q2) id)
    have LS : ∀ W', Fr (fun _ => False) w6 W' → (Instr.loadAt 25 (.pointer (some ⟨bm, 0, none⟩))).run Try.prog W' = .ok (.slice (some ⟨g2, 0, none⟩) ws.length c2) W' := fun W' hf => ld_sw _ _ _ ((r6.fr hf id).cell rfl)
    have BN := fun xo yo W => (bn_neu W xo yo (ws.getD k 0) (ws.getD k 0)).trans (by rw [show (ws.getD k 0 != ws.getD k 0) = false by simp])
    refine TW.to (fun W' => Fr (fun _ => False) w6 W') hf ?_
    refine T.sregD (by kernel_rfl) (by kernel_rfl) (fun W hW => hW.drewN 1) [(66, .bool false), (12, .int .i64 ((k : Nat) : Int)), (8, .slice (some ⟨g1, 0, none⟩) ws.length c1), (9, .slice b1 ls.length d1), (11, .pointer (some ⟨bm, 0, none⟩))] ?_ ?_
    · refine Go.Proofs.Ytnjlcimeaoedcaa.W.op rfl rfl rfl (Go.Proofs.Ytnjlcimeaoedcaa.W.quiet_move rfl rfl) ?_
      refine Go.Proofs.Ytnjlcimeaoedcaa.W.op rfl rfl rfl (Go.Proofs.Ytnjlcimeaoedcaa.W.quiet_move rfl rfl) ?_
      refine Go.Proofs.Ytnjlcimeaoedcaa.W.op rfl rfl rfl (Go.Proofs.Ytnjlcimeaoedcaa.W.quiet_index rfl rfl rfl IX1) ?_
      refine Go.Proofs.Ytnjlcimeaoedcaa.W.op rfl rfl rfl (Go.Proofs.Ytnjlcimeaoedcaa.W.quiet_load rfl rfl L1) ?_
      refine Go.Proofs.Ytnjlcimeaoedcaa.W.op rfl rfl rfl (Go.Proofs.Ytnjlcimeaoedcaa.W.quiet_field rfl rfl (fun W => fm0 W _ _)) ?_
      refine Go.Proofs.Ytnjlcimeaoedcaa.W.op rfl rfl rfl (Go.Proofs.Ytnjlcimeaoedcaa.W.quiet_load rfl rfl LS) ?_
      refine Go.Proofs.Ytnjlcimeaoedcaa.W.op rfl rfl rfl (Go.Proofs.Ytnjlcimeaoedcaa.W.quiet_move rfl rfl) ?_
      refine Go.Proofs.Ytnjlcimeaoedcaa.W.op rfl rfl rfl (Go.Proofs.Ytnjlcimeaoedcaa.W.quiet_index rfl rfl rfl IX2) ?_
      refine Go.Proofs.Ytnjlcimeaoedcaa.W.op rfl rfl rfl (Go.Proofs.Ytnjlcimeaoedcaa.W.quiet_load rfl rfl L2) ?_
      refine Go.Proofs.Ytnjlcimeaoedcaa.W.op rfl rfl rfl (Go.Proofs.Ytnjlcimeaoedcaa.W.quiet_bin rfl rfl rfl (BN _ _)) ?_
      exact Go.Proofs.Ytnjlcimeaoedcaa.W.nil (fun a h => (by (repeat (refine Kn.cons h rfl ?_)); exact h.base))
    refine T.cond rfl (fun hb => by cases hb) (fun _ => ?_)
    refine T.tw fun W2 hf2 => ?_
    refine TW.skipx ?_
    repeat (with_reducible refine Xw.nblk ?_)
    refine Xw.nrm ?_
    refine TW.reg ?_
    refine WL.op rfl rfl rfl (Go.Proofs.Ytnjlcimeaoedcaa.W.quiet_move rfl rfl) ?_
    refine WL.op rfl rfl rfl (Go.Proofs.Ytnjlcimeaoedcaa.W.quiet_bin rfl rfl rfl (fun W => bn_add W _ _ (k : Int) 1 (by omega) (by omega))) ?_
    refine WL.op rfl rfl rfl (Go.Proofs.Ytnjlcimeaoedcaa.W.quiet_assign rfl rfl) ?_
    refine WL.end ?_
    refine Xw.any fun b h => ⟨k + 1, by omega, by omega, (by (repeat (refine Kn.cons h rfl ?_)); exact h.base), hf2⟩
  refine TW.exit ?_
  repeat (with_reducible refine Xw.thn (by simp) ?_)
  refine Xw.hit ?_
  refine Xw.nrm ?_
  clear hge hk
  refine TW.seq ?_
  refine TW.seq ?_
  refine TW.reg ?_
  refine WL.op rfl rfl rfl (Go.Proofs.Ytnjlcimeaoedcaa.W.quiet_assign rfl rfl) ?_
  refine WL.nil ?_
  refine TW.block ?_
  refine TW.loop (t := 13) (n := ls.length) (fun k b W => Kn Try.f3.ntmps [(13, .int .i64 ((k : Nat) : Int)), (8, .slice a1 ws.length c1), (9, .slice b1 ls.length d1), (11, .pointer (some ⟨bm, 0, none⟩))] b ∧ Fr (fun _ => False) w6 W) (fun k b wr h => h.1.has 13 _ rfl) (fun b h => ⟨(by (repeat (refine Kn.cons h rfl ?_)); exact h.base), hf⟩) ?_
  clear hf
  rintro k b W hk ⟨hkn, hf⟩
  refine TW.app ?_ hkn
  clear hkn b
  refine TW.seq ?_
  refine TW.sreg ?_
  refine WL.op rfl rfl rfl (Go.Proofs.Ytnjlcimeaoedcaa.W.quiet_move rfl rfl) ?_
  refine WL.op rfl rfl rfl (Go.Proofs.Ytnjlcimeaoedcaa.W.quiet_move rfl rfl) ?_
  refine WL.op rfl rfl rfl (Go.Proofs.Ytnjlcimeaoedcaa.W.quiet_len rfl rfl (fun W => ln_i W _ _ _)) ?_
  refine WL.op rfl rfl rfl (Go.Proofs.Ytnjlcimeaoedcaa.W.quiet_bin rfl rfl rfl (fun W => bn_lt W _ _ (k : Int) (ls.length : Int))) ?_
  refine WL.nil ?_
  refine TW.cond rfl (fun hlt => ?_) (fun hge => ?_)
  · have hk' : k < ls.length := by have := of_decide_eq_true hlt; omega
    obtain ⟨g1, rfl, q1⟩ := hi k hk'
    obtain ⟨g2, rfl, q2⟩ := hi2 k hk'
    refine TW.skip ?_
    refine TW.seq ?_
    refine TW.block ?_
    have IX1 := fun W => ixi W g1 0 ls.length d1 k hk'
    have IX2 := fun W => ixi W g2 0 ls.length d2 k hk'
    have L1 : ∀ W', Fr (fun _ => False) w6 W' → (Instr.loadAt 3 (.pointer (some ⟨g1, 0 + k, none⟩))).run Try.prog W' = .ok (.int .i64 (ls.getD k 0)) W' := fun W' hf => ld_int _ _ _ (hf.cell (by rw [Nat.zero_add]; exact q1) id)
    have L2 : ∀ W', Fr (fun _ => False) w6 W' → (Instr.loadAt 3 (.pointer (some ⟨g2, 0 + k, none⟩))).run Try.prog W' = .ok (.int .i64 (ls.getD k 0)) W' := fun W' hf => ld_int _ _ _ (hf.cell (by rw [Nat.zero_add]; exact q2) id)
    have LS : ∀ W', Fr (fun _ => False) w6 W' → (Instr.loadAt 26 (.pointer (some ⟨bm, 0 + 1, none⟩))).run Try.prog W' = .ok (.slice (some ⟨g2, 0, none⟩) ls.length d2) W' := fun W' hf => ld_si _ _ _ ((r6.fr hf id).cell rfl)
    have BN := fun xo yo W => (bn_ne W xo yo (ls.getD k 0) (ls.getD k 0)).trans (by rw [show (ls.getD k 0 != ls.getD k 0) = false by simp])
    refine TW.to (fun W' => Fr (fun _ => False) w6 W') hf ?_
    refine T.sregD (by kernel_rfl) (by kernel_rfl) (fun W hW => hW.drewN 1) [(82, .bool false), (13, .int .i64 ((k : Nat) : Int)), (8, .slice a1 ws.length c1), (9, .slice (some ⟨g1, 0, none⟩) ls.length d1), (11, .pointer (some ⟨bm, 0, none⟩))] ?_ ?_
    · refine Go.Proofs.Ytnjlcimeaoedcaa.W.op rfl rfl rfl (Go.Proofs.Ytnjlcimeaoedcaa.W.quiet_move rfl rfl) ?_
      refine Go.Proofs.Ytnjlcimeaoedcaa.W.op rfl rfl rfl (Go.Proofs.Ytnjlcimeaoedcaa.W.quiet_move rfl rfl) ?_
      refine Go.Proofs.Ytnjlcimeaoedcaa.W.op rfl rfl rfl (Go.Proofs.Ytnjlcimeaoedcaa.W.quiet_index rfl rfl rfl IX1) ?_
      refine Go.Proofs.Ytnjlcimeaoedcaa.W.op rfl rfl rfl (Go.Proofs.Ytnjlcimeaoedcaa.W.quiet_load rfl rfl L1) ?_
      refine Go.Proofs.Ytnjlcimeaoedcaa.W.op rfl rfl rfl (Go.Proofs.Ytnjlcimeaoedcaa.W.quiet_field rfl rfl (fun W => fm1 W _ _)) ?_
      refine Go.Proofs.Ytnjlcimeaoedcaa.W.op rfl rfl rfl (Go.Proofs.Ytnjlcimeaoedcaa.W.quiet_load rfl rfl LS) ?_
      refine Go.Proofs.Ytnjlcimeaoedcaa.W.op rfl rfl rfl (Go.Proofs.Ytnjlcimeaoedcaa.W.quiet_move rfl rfl) ?_
      refine Go.Proofs.Ytnjlcimeaoedcaa.W.op rfl rfl rfl (Go.Proofs.Ytnjlcimeaoedcaa.W.quiet_index rfl rfl rfl IX2) ?_
      refine Go.Proofs.Ytnjlcimeaoedcaa.W.op rfl rfl rfl (Go.Proofs.Ytnjlcimeaoedcaa.W.quiet_load rfl rfl L2) ?_
      refine Go.Proofs.Ytnjlcimeaoedcaa.W.op rfl rfl rfl (Go.Proofs.Ytnjlcimeaoedcaa.W.quiet_bin rfl rfl rfl (BN _ _)) ?_
      exact Go.Proofs.Ytnjlcimeaoedcaa.W.nil (fun a h => (by (repeat (refine Kn.cons h rfl ?_)); exact h.base))
    refine T.cond rfl (fun hb => by cases hb) (fun _ => ?_)
    refine T.tw fun W2 hf2 => ?_
    refine TW.skipx ?_
    repeat (with_reducible refine Xw.nblk ?_)
    refine Xw.nrm ?_
    refine TW.reg ?_
    refine WL.op rfl rfl rfl (Go.Proofs.Ytnjlcimeaoedcaa.W.quiet_move rfl rfl) ?_
    refine WL.op rfl rfl rfl (Go.Proofs.Ytnjlcimeaoedcaa.W.quiet_bin rfl rfl rfl (fun W => bn_add W _ _ (k : Int) 1 (by omega) (by omega))) ?_
    refine WL.op rfl rfl rfl (Go.Proofs.Ytnjlcimeaoedcaa.W.quiet_assign rfl rfl) ?_
    refine WL.end ?_
    refine Xw.any fun b h => ⟨k + 1, by omega, by omega, (by (repeat (refine Kn.cons h rfl ?_)); exact h.base), hf2⟩
  refine TW.exit ?_
  repeat (with_reducible refine Xw.thn (by simp) ?_)
  refine Xw.hit ?_
  refine Xw.nrm ?_
  refine TW.sreg ?_
  refine WL.call (hr := c5 W) rfl rfl rfl rfl rfl (fun W => cf_awk W _) ?_
  rintro e w7 ⟨rfl, f7⟩
  refine ⟨_, rfl, ?_⟩
  refine WL.op rfl rfl rfl (Go.Proofs.Ytnjlcimeaoedcaa.W.quiet_assign rfl rfl) ?_
  refine WL.nil ?_
  refine TW.rt ?_
  repeat (with_reducible first | refine Xw.thn (by simp) ?_ | refine Xw.rblk ?_)
  refine bodyw_ret rfl rfl ?_
  exact ⟨rfl, f1.trans (hf.trans f7)⟩
end Go.Proofs.Ytnjlcimeaoedcaa
