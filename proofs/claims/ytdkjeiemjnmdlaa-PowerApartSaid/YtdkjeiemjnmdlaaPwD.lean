/-
  Power (layer 33): what comes, tick by tick.
-/
import Derived.Test.YtdkjeiemjnmdlaaPwD0
namespace Go.Proofs.Ytdkjeiemjnmdlaa
open Go.RowKit
set_option linter.unusedVariables false
set_option linter.unusedSimpArgs false
set_option linter.unnecessarySimpa false
theorem qb_rem_int (w : World) (x y : Operand) (m n : Int) (hn : n ≠ 0) (h0 : -9223372036854775808 ≤ m.tmod n) (h1 : m.tmod n ≤ 9223372036854775807) : ((do eqGuard .rem 3 x y (.int .i64 m) (.int .i64 n); binOp .rem 3 (.int .i64 m) (.int .i64 n) : Sem Value)).run Try.prog w = .ok (.int .i64 (m.tmod n)) w := by
  have h : IntKind.i64.wrap (m.tmod n) = m.tmod n := IntWalk.i64_in _ (by omega)
  simp [go_sem, h, hn]
end Go.Proofs.Ytdkjeiemjnmdlaa
namespace Go.Proofs.Ytdkjeiemjnmdlaa.M
open Go.RowKit
set_option linter.unusedVariables false
set_option linter.unusedSimpArgs false
set_option maxRecDepth 100000 in
theorem arr_stops (sb tb : Nat) (oa : Option Addr) (c : Nat) (s : List Int) (hs : 0 < s.length) (hsl : s.length ≤ 1000000) (room lim : Int) (T : Nat) (hT : T ≤ 4000000) (w : World) (Hd : World → Prop) (hHd : ∀ W, Hd W → Bx W sb #[.slice oa s.length c, .int .i64 room, .int .i64 lim] 24 ∧ Bx W tb #[.int .i64 (T : Int)] 3 ∧ IntsAt W oa s) (hfr : ∀ W W', Hd W → Fr (fun _ => False) W W' → Hd W') (hbl : ∀ W, Below w.heap.size w W → Hd W) (dd : Nat) : SeqStopsK Fence.wide dd Try.prog 17 #[.pointer (some ⟨tb, 0, none⟩), .pointer (some ⟨sb, 0, none⟩)] (fun x : {t : Nat // t < T} => (#[.int .i64 (evT s x.1)] : Array Value)) (fun A B => Hd A → Hd B) (fun xs => xs.map (·.1) = List.range T) (fun _ => True) T w := by
  intro lp J Jx W hW hJ hJx hY h0
  have hd0 := hbl W hW
  obtain ⟨_, hbt0, _⟩ := hHd W hd0
  show CallsIn Fence.wide dd Try.prog 17 #[.func (.yield lp) #[] #[], .pointer (some ⟨tb, 0, none⟩), .pointer (some ⟨sb, 0, none⟩)] W _
  refine callsIn_tw Try.func17 rfl rfl (Nat.le_of_ble_eq_true rfl) (by intro w h; revert h; simp) ?_
  refine TW.sreg ?_
  refine WL.ld rfl rfl rfl rfl rfl (ql_int _ _ _ (hbt0.cell (j := 0) rfl)) ?_
  refine WL.op rfl rfl rfl (Go.Proofs.Ytdkjeiemjnmdlaa.M.W.quiet_move rfl rfl) ?_
  refine WL.nil ?_
  refine TW.block ?_
  refine O.loopX (n := T) (fun j a W => Kn ⟨Try.f17.ntmps, [], none, dd⟩ [(0, .func (.yield lp) #[] #[]), (2, .pointer (some ⟨sb, 0, none⟩)), (5, .int .i64 (T : Int)), (6, .int .i64 (j : Int))] a ∧ (∃ pre : List {t : Nat // t < T}, pre.map (·.1) = List.range j ∧ J pre W ∧ Hd W)) 0 (Nat.zero_le _) (fun a k => ⟨(by (repeat (refine Kn.cons k rfl ?_)); exact k.base), [], rfl, h0, hd0⟩) ?_
  rintro j a wl hj ⟨k, pre, hpre, hj0, hdj⟩
  refine TW.app (s := [(0, .func (.yield lp) #[] #[]), (2, .pointer (some ⟨sb, 0, none⟩)), (5, .int .i64 (T : Int)), (6, .int .i64 (j : Int))]) ?_ k
  have hpl : pre.length = j := by have := congrArg List.length hpre; simpa using this
  refine TW.sreg ?_
  refine WL.op rfl rfl rfl (Go.Proofs.Ytdkjeiemjnmdlaa.M.W.quiet_bin rfl rfl rfl (fun W => qb_lss_int W _ _ _ _)) ?_
  refine O.split (fun hb1 => ?_) (fun hb1 => ?_)
  · skip
    have hj2 : j < T := by have := of_decide_eq_true hb1; omega
    refine WL.nil ?_
    refine TW.seq ?_
    refine TW.cond rfl (fun _ => ?_) (fun hb => by cases hb)
    refine TW.skip ?_
    refine TW.seq ?_
    refine TW.block ?_
    refine TW.sreg ?_
    refine WL.op rfl rfl rfl (Go.Proofs.Ytdkjeiemjnmdlaa.M.W.quiet_move rfl rfl) ?_
    refine WL.op rfl rfl rfl (Go.Proofs.Ytdkjeiemjnmdlaa.M.W.quiet_assign rfl rfl) ?_
    refine WL.nil ?_
    obtain ⟨hbs0, hbt0, hat0⟩ := hHd _ hdj
    have hml : j % s.length < s.length := Nat.mod_lt _ hs
    obtain ⟨go, oo, hoa, hc0⟩ := hat0 (j % s.length) hml
    refine TW.sregHI (by kernel_rfl) ?_
    have fd : Fr (fun _ => False) wl wl.drew := (Fr.refl _ _).drewN 1
    have gd : wl.grownBy wl.drew none := ⟨rfl, rfl, rfl, Nat.le_refl _, fun _ _ _ => rfl⟩
    have hbs := hbs0.fr fd id
    have hc := fd.cell hc0 id
    replace hj0 := hJ _ _ _ _ hj0 gd (fun r e => by cases e)
    replace hdj := hfr _ _ hdj fd
    generalize hV : wl.drew = V1 at *
    clear hV
    refine WHI.take 0 rfl rfl (by kernel_rfl) (by kernel_rfl) (by kernel_rfl) (fun _ _ _ _ _ h => h) rfl rfl rfl (ab_no rfl) (RH.move rfl rfl) ?_
    refine WHI.take 1 rfl rfl (by kernel_rfl) (by kernel_rfl) (by kernel_rfl) (fun _ _ _ _ _ h => h) rfl rfl rfl (ab_no rfl) (RH.field rfl rfl (fun W => qa_power_Supply_0 W _ _)) ?_
    refine WHI.take 3 rfl rfl (by kernel_rfl) (by kernel_rfl) (by kernel_rfl) (fun _ _ _ _ _ h => h) rfl rfl rfl (ab_no rfl) (RH.move rfl rfl) ?_
    refine WHI.take 4 rfl rfl (by kernel_rfl) (by kernel_rfl) (by kernel_rfl) (fun _ _ _ _ _ h => h) rfl rfl rfl (ab_no rfl) (RH.field rfl rfl (fun W => qa_power_Supply_0 W _ _)) ?_
    refine WHI.two 2 5 (by kernel_rfl) rfl rfl ?_ ?_ 
    · skip
      refine WLI.op rfl rfl rfl (by rintro c e; cases e) (Go.Proofs.Ytdkjeiemjnmdlaa.M.W.quiet_load rfl rfl (fun W hW => by subst hW; exact (ql_s_int _ _ _ _ _ (hbs.cell (j := 0) rfl)))) ?_
      refine WLI.fin ?_
      refine WHI.one 5 (by kernel_rfl) rfl ?_ 
      refine WLI.op rfl rfl rfl (by rintro c e; cases e) (Go.Proofs.Ytdkjeiemjnmdlaa.M.W.quiet_load rfl rfl (fun W hW => by subst hW; exact (ql_s_int _ _ _ _ _ (hbs.cell (j := 0) rfl)))) ?_
      refine WLI.fin ?_
      refine WHI.take 6 rfl rfl (by kernel_rfl) (by kernel_rfl) (by kernel_rfl) (fun _ _ _ _ _ h => h) rfl rfl rfl (ab_len rfl) (RH.len rfl rfl (fun W => qn_s_int _ _ _ _)) ?_
      refine WHI.take 7 rfl rfl (by kernel_rfl) (by kernel_rfl) (by kernel_rfl) (fun _ _ _ _ _ h => h) rfl rfl rfl (ab_no rfl) (RH.bin rfl rfl rfl (fun W => (qb_rem_int W _ _ _ _ (by omega) (by rw [mod_of]; omega) (by rw [mod_of]; omega)).trans (by rw [mod_of]))) ?_
      refine WHI.take 8 rfl rfl (by kernel_rfl) (by kernel_rfl) (by kernel_rfl) (fun _ _ _ _ _ h => h) rfl rfl rfl (ab_no rfl) (RH.index rfl rfl rfl (fun W => (by rw [hoa]; exact qi_s_int _ _ _ _ _ _ (by omega)))) ?_
      refine WHI.one 9 (by kernel_rfl) rfl ?_ 
      refine WLI.op rfl rfl rfl (by rintro c e; cases e) (Go.Proofs.Ytdkjeiemjnmdlaa.M.W.quiet_load rfl rfl (fun W hW => by subst hW; exact (ql_int _ _ _ hc))) ?_
      refine WLI.fin ?_
      refine WHI.one 10 (by kernel_rfl) rfl ?_ 
      refine WLI.yield rfl rfl rfl rfl rfl rfl (hY pre ⟨j, hj2⟩ _ hj0 (by omega)) ?_
      rintro e w2y (⟨rfl, hJ2, hk2⟩ | ⟨rfl, hJx2⟩)
      · refine ⟨_, rfl, ?_⟩
        refine WLI.fin ?_
        refine WHI.take 11 rfl rfl (by kernel_rfl) (by kernel_rfl) (by kernel_rfl) (fun _ _ _ _ _ h => h) rfl rfl rfl (ab_no rfl) (RH.not rfl rfl) ?_
        refine WHI.done (by kernel_rfl) ?_
        refine TW.cond rfl (fun hb => by cases hb) (fun _ => ?_)
        refine TW.skipx ?_
        refine Xw.nblk ?_
        refine Xw.nrm ?_
        refine TW.reg ?_
        refine WL.op rfl rfl rfl (Go.Proofs.Ytdkjeiemjnmdlaa.M.W.quiet_bin rfl rfl rfl (fun W => qb_add_int W _ _ _ _ (by omega) (by omega))) ?_
        refine WL.op rfl rfl rfl (Go.Proofs.Ytdkjeiemjnmdlaa.M.W.quiet_move rfl rfl) ?_
        refine WL.end ?_
        refine Xw.any (fun a k => ?_)
        refine ⟨j + 1, by omega, by omega, ?_, pre ++ [⟨j, hj2⟩], ?_, hJ2, hk2 hdj⟩
        · (repeat (refine Kn.cons k rfl ?_)); exact k.base
        · rw [List.map_append, hpre, List.range_succ]; rfl
      · refine ⟨_, rfl, ?_⟩
        refine WLI.fin ?_
        refine WHI.take 11 rfl rfl (by kernel_rfl) (by kernel_rfl) (by kernel_rfl) (fun _ _ _ _ _ h => h) rfl rfl rfl (ab_no rfl) (RH.not rfl rfl) ?_
        refine WHI.done (by kernel_rfl) ?_
        refine TW.cond rfl (fun _ => ?_) (fun hb => by cases hb)
        refine TW.rt ?_
        refine Xw.rblk ?_
        refine Xw.thn (by simp) ?_
        refine Xw.thn (by simp) ?_
        refine Xw.rblk ?_
        refine O.retn rfl (Mks.nil _) ?_
        rintro wz ⟨fz, ez⟩
        exact ⟨⟨_, rfl⟩, .inr ⟨_, trivial, (by rw [ez rfl]; exact hJx2)⟩⟩
    · skip
      refine WLI.op rfl rfl rfl (by rintro c e; cases e) (Go.Proofs.Ytdkjeiemjnmdlaa.M.W.quiet_load rfl rfl (fun W hW => by subst hW; exact (ql_s_int _ _ _ _ _ (hbs.cell (j := 0) rfl)))) ?_
      refine WLI.fin ?_
      refine WHI.take 6 rfl rfl (by kernel_rfl) (by kernel_rfl) (by kernel_rfl) (fun _ _ _ _ _ h => h) rfl rfl rfl (ab_len rfl) (RH.len rfl rfl (fun W => qn_s_int _ _ _ _)) ?_
      refine WHI.take 7 rfl rfl (by kernel_rfl) (by kernel_rfl) (by kernel_rfl) (fun _ _ _ _ _ h => h) rfl rfl rfl (ab_no rfl) (RH.bin rfl rfl rfl (fun W => (qb_rem_int W _ _ _ _ (by omega) (by rw [mod_of]; omega) (by rw [mod_of]; omega)).trans (by rw [mod_of]))) ?_
      refine WHI.one 2 (by kernel_rfl) rfl ?_ 
      refine WLI.op rfl rfl rfl (by rintro c e; cases e) (Go.Proofs.Ytdkjeiemjnmdlaa.M.W.quiet_load rfl rfl (fun W hW => by subst hW; exact (ql_s_int _ _ _ _ _ (hbs.cell (j := 0) rfl)))) ?_
      refine WLI.fin ?_
      refine WHI.take 8 rfl rfl (by kernel_rfl) (by kernel_rfl) (by kernel_rfl) (fun _ _ _ _ _ h => h) rfl rfl rfl (ab_no rfl) (RH.index rfl rfl rfl (fun W => (by rw [hoa]; exact qi_s_int _ _ _ _ _ _ (by omega)))) ?_
      refine WHI.one 9 (by kernel_rfl) rfl ?_ 
      refine WLI.op rfl rfl rfl (by rintro c e; cases e) (Go.Proofs.Ytdkjeiemjnmdlaa.M.W.quiet_load rfl rfl (fun W hW => by subst hW; exact (ql_int _ _ _ hc))) ?_
      refine WLI.fin ?_
      refine WHI.one 10 (by kernel_rfl) rfl ?_ 
      refine WLI.yield rfl rfl rfl rfl rfl rfl (hY pre ⟨j, hj2⟩ _ hj0 (by omega)) ?_
      rintro e w2y (⟨rfl, hJ2, hk2⟩ | ⟨rfl, hJx2⟩)
      · refine ⟨_, rfl, ?_⟩
        refine WLI.fin ?_
        refine WHI.take 11 rfl rfl (by kernel_rfl) (by kernel_rfl) (by kernel_rfl) (fun _ _ _ _ _ h => h) rfl rfl rfl (ab_no rfl) (RH.not rfl rfl) ?_
        refine WHI.done (by kernel_rfl) ?_
        refine TW.cond rfl (fun hb => by cases hb) (fun _ => ?_)
        refine TW.skipx ?_
        refine Xw.nblk ?_
        refine Xw.nrm ?_
        refine TW.reg ?_
        refine WL.op rfl rfl rfl (Go.Proofs.Ytdkjeiemjnmdlaa.M.W.quiet_bin rfl rfl rfl (fun W => qb_add_int W _ _ _ _ (by omega) (by omega))) ?_
        refine WL.op rfl rfl rfl (Go.Proofs.Ytdkjeiemjnmdlaa.M.W.quiet_move rfl rfl) ?_
        refine WL.end ?_
        refine Xw.any (fun a k => ?_)
        refine ⟨j + 1, by omega, by omega, ?_, pre ++ [⟨j, hj2⟩], ?_, hJ2, hk2 hdj⟩
        · (repeat (refine Kn.cons k rfl ?_)); exact k.base
        · rw [List.map_append, hpre, List.range_succ]; rfl
      · refine ⟨_, rfl, ?_⟩
        refine WLI.fin ?_
        refine WHI.take 11 rfl rfl (by kernel_rfl) (by kernel_rfl) (by kernel_rfl) (fun _ _ _ _ _ h => h) rfl rfl rfl (ab_no rfl) (RH.not rfl rfl) ?_
        refine WHI.done (by kernel_rfl) ?_
        refine TW.cond rfl (fun _ => ?_) (fun hb => by cases hb)
        refine TW.rt ?_
        refine Xw.rblk ?_
        refine Xw.thn (by simp) ?_
        refine Xw.thn (by simp) ?_
        refine Xw.rblk ?_
        refine O.retn rfl (Mks.nil _) ?_
        rintro wz ⟨fz, ez⟩
        exact ⟨⟨_, rfl⟩, .inr ⟨_, trivial, (by rw [ez rfl]; exact hJx2)⟩⟩
  · skip
    have hje : j = T := by have := of_decide_eq_false hb1; omega
    subst hje
    refine WL.nil ?_
    refine TW.seq ?_
    refine TW.cond rfl (fun hb => by cases hb) (fun _ => ?_)
    refine TW.exit ?_
    refine Xw.thn (by simp) ?_
    refine Xw.thn (by simp) ?_
    refine Xw.hit ?_
    refine O.end0 rfl (Mks.nil _) ?_
    rintro wz ⟨fz, ez⟩
    refine ⟨⟨_, rfl⟩, .inl ⟨pre, ?_, (by rw [ez rfl]; exact hj0)⟩⟩
    exact hpre
end Go.Proofs.Ytdkjeiemjnmdlaa.M
