/-
  Power (layer 33): the failures of a supply.
-/
import Derived.Test.YtdkjeiemjnmdlaaPwD
namespace Go.Proofs.Ytdkjeiemjnmdlaa
open Go.RowKit
set_option linter.unusedVariables false
set_option linter.unusedSimpArgs false
set_option linter.unnecessarySimpa false
theorem qlB_power_Supply (w : World) (g : Nat) (up0 : Option Addr) (uk0 ul0 : Nat) (um1 : Int) (um2 : Int) (tt : TypeId) (h : Bx w g #[.slice up0 uk0 ul0, .int .i64 um1, .int .i64 um2] tt) : (Instr.loadAt 24 (.pointer (some ⟨g, 0, none⟩))).run Try.prog w = .ok (.agg #[.slice up0 uk0 ul0, .int .i64 um1, .int .i64 um2]) w := by
  have c0 := h.cell (j := 0) rfl
  have c1 := h.cell (j := 1) rfl
  have c2 := h.cell (j := 2) rfl
  simp [go_sem, c0, c1, c2]
theorem qk_power_Right (w : World) (vs : Array Value) : (callFunc 9 vs).run Try.prog w = .ok (.enter 9 vs) w := by simp [go_sem]
theorem qzR_power_buffer (w : World) : ∃ w', (Instr.alloc 36 true (.tuple #[])).run Try.prog w = .ok (.pointer (some ⟨w.heap.size, 0, none⟩)) w' ∧ (Fr (fun _ => False) w w' ∧ Bx w' w.heap.size #[.int .i64 0, .bool false, .int .i64 0, .slice none 0 0] 36) := ⟨w.alloc (.cells #[.int .i64 0, .bool false, .int .i64 0, .slice none 0 0] 36), by simp [go_sem], fr_al (Fr.refl _ _) _, Bx.new _ _ _⟩
theorem qk_power_Supply_arrivals (w : World) (vs : Array Value) : (callFunc 12 vs).run Try.prog w = .ok (.enter 12 vs) w := by simp [go_sem]
theorem qk_power_Supply_arrivals_1 (w : World) (vs : Array Value) : (callFunc 17 vs).run Try.prog w = .ok (.enter 17 vs) w := by simp [go_sem]
theorem qk_power_buffer_tick (w : World) (vs : Array Value) : (callFunc 13 vs).run Try.prog w = .ok (.enter 13 vs) w := by simp [go_sem]
end Go.Proofs.Ytdkjeiemjnmdlaa
namespace Go.Proofs.Ytdkjeiemjnmdlaa.M
open Go.RowKit
set_option linter.unusedVariables false
set_option linter.unusedSimpArgs false
theorem below_fr {w W : World} (h : Below w.heap.size w W) : Fr (fun _ => False) w W := ⟨h.os, h.output, h.size, fun k hk _ => h.block k hk⟩
set_option maxRecDepth 100000 in
theorem t_fails (oa : Option Addr) (c : Nat) (s : List Int) (room lim tm : Int) (w : World) (htm : tm ≤ 1000000) (hat : IntsAt w oa s) : Calls Try.prog 7 #[.agg #[.slice oa s.length c, .int .i64 room, .int .i64 lim], .int .i64 tm] w fun e w' => (SupOk s room lim → ∃ v, e = .returned (.tuple #[v, .int .i64 (Pw.run room lim (evT s) (List.range (tmN tm))).ex, .int .i64 0]) ∧ Ints w.heap.size w' v (Pw.run room lim (evT s) (List.range (tmN tm))).fl ∧ Fr (fun _ => False) w w') ∧ (¬SupOk s room lim → e = .returned (.tuple #[.slice none 0 0, .int .i64 0, .int .i64 1]) ∧ Fr (fun _ => False) w w') := by
  have ff := Fr.refl (fun _ => False) w
  refine calls_tw Try.func7 rfl rfl (Nat.le_of_ble_eq_true rfl) (by intro w h; revert h; simp) ?_
  refine TW.sreg ?_
  have lw1 := ff.size
  refine O.boxR rfl rfl rfl rfl rfl (qxR_power_Supply w _ _ _ _ _) ?_
  rintro wa1 ⟨fa1, bx1⟩
  replace ff := ff.trans fa1
  refine WL.op rfl rfl rfl (Go.Proofs.Ytdkjeiemjnmdlaa.M.W.quiet_assign rfl rfl) ?_
  refine WL.op rfl rfl rfl (Go.Proofs.Ytdkjeiemjnmdlaa.M.W.quiet_assign rfl rfl) ?_
  refine WL.op rfl rfl rfl (Go.Proofs.Ytdkjeiemjnmdlaa.M.W.quiet_assign rfl rfl) ?_
  refine WL.nil ?_
  refine TW.seq ?_
  refine TW.sreg ?_
  refine WL.ld rfl rfl rfl rfl rfl (qlB_power_Supply _ _ _ _ _ _ _ _ bx1) ?_
  refine WL.call (hr := (t_right oa c s room lim _ (hat.fr ff))) rfl rfl rfl rfl rfl (fun W => qk_power_Right W _) ?_
  rintro e w1 ⟨b, rfl, hb, f1⟩
  refine ⟨_, rfl, ?_⟩
  replace bx1 := bx1.fr f1 id
  replace ff := ff.trans f1
  refine O.split (fun hbt0 => ?_) (fun hbt0 => ?_)
  · skip
    have hR := hb.1 hbt0
    have hs1 : 0 < s.length := hR.1
    have hs2 : s.length ≤ 4096 := hR.2.1
    obtain ⟨TN, hT, hT2⟩ : ∃ TN : Nat, (TN : Int) = min (max tm 0) 4000000 ∧ TN = tmN tm := ⟨(min (max tm 0) 4000000).toNat, by omega, rfl⟩
    refine WL.op rfl rfl rfl (Go.Proofs.Ytdkjeiemjnmdlaa.M.W.quiet_not rfl rfl) ?_
    refine WL.nil ?_
    refine TW.cond rfl (fun hb => by cases hb) (fun _ => ?_)
    refine TW.skip ?_
    refine TW.sreg ?_
    have lt2_bx1 := bx1.lt
    have lw2 := ff.size
    refine O.allocR rfl rfl rfl rfl (qzR_power_buffer w1) ?_
    rintro wa2 ⟨fa2, bx2⟩
    replace bx1 := bx1.fr fa2 id
    replace ff := ff.trans fa2
    have hgl0 := bx2.lt
    refine WL.nil ?_
    refine TW.seq ?_
    refine TW.sreg ?_
    refine WL.ld rfl rfl rfl rfl rfl (qlB_power_Supply _ _ _ _ _ _ _ _ bx1) ?_
    refine WL.op rfl rfl rfl (Go.Proofs.Ytdkjeiemjnmdlaa.M.W.quiet_move rfl rfl) ?_
    refine M.O.bmax rfl rfl rfl rfl rfl rfl (bi_max _ _ _ _) ?_
    refine M.O.bmin rfl rfl rfl rfl rfl rfl (bi_min _ _ _ _) ?_
    rw [← hT]
    refine WL.call (hr := (t_arr oa c s room lim _ _)) rfl rfl rfl rfl rfl (fun W => qk_power_Supply_arrivals W _) ?_
    rintro e wK ⟨sb, tb, rfl, hbs, hbt, hsb, htb, fK⟩
    refine ⟨_, rfl, ?_⟩
    replace bx1 := bx1.fr fK id
    replace bx2 := bx2.fr fK id
    replace ff := ff.trans fK
    have hgl := bx2.lt
    have hgk := fK.size
    obtain ⟨wB, hwB⟩ : ∃ g, g = w1.heap.size := ⟨_, rfl⟩
    rw [← hwB] at bx2
    rw [← hwB]
    have hwg : w.heap.size < wB := by omega
    have hsg : sb ≠ wB := by omega
    have htg : tb ≠ wB := by omega
    refine WL.nil ?_
    refine TW.block ?_
    have hkz := ff.size
    have hgW := bx2.lt
    have hsW := hbs.lt
    have htW := hbt.lt
    skip
    refine TW.rangeN (α := {t : Nat // t < TN}) (Hd := fun W => (Bx W sb #[.slice oa s.length c, .int .i64 room, .int .i64 lim] 24 ∧ Bx W tb #[.int .i64 (TN : Int)] 3 ∧ Fr (fun _ => False) w W)) rfl (Nat.le_of_ble_eq_true rfl) rfl (fun _ _ => qk_power_Supply_arrivals_1 _ _) (arr_stops sb tb oa c s hs1 (by omega) room lim TN (by omega) wK _ (fun W h => ⟨h.1, h.2.1, hat.fr h.2.2⟩) (fun W W' h f => ⟨h.1.fr f id, h.2.1.fr f id, h.2.2.trans f⟩) (fun W hb => ⟨hbs.fr (below_fr hb) id, hbt.fr (below_fr hb) id, ff.trans (below_fr hb)⟩) 999) (fun W W' F0 h hf nc => ⟨h.1.fr hf (nc.bx h.1), h.2.1.fr hf (nc.bx h.2.1), nc.ff h.2.2 hkz hf⟩) (Below.refl _ _) (fun _ => rfl) (fun (pre : List {t : Nat // t < TN}) W => ∃ v : Value, (Bx W sb #[.slice oa s.length c, .int .i64 room, .int .i64 lim] 24 ∧ Bx W tb #[.int .i64 (TN : Int)] 3 ∧ Fr (fun _ => False) w W) ∧ Bx W w.heap.size #[.slice oa s.length c, .int .i64 room, .int .i64 lim] 24 ∧ BufAt W wB (Pw.run room lim (evT s) (pre.map (·.1))) v ∧ Ints wK.heap.size W v (Pw.run room lim (evT s) (pre.map (·.1))).fl ∧ wK.heap.size ≤ W.heap.size ∧ pre.length ≤ TN) (by rintro s9 W W' F0 ⟨v, ⟨h0, h1, h2⟩, b1, b2, i1, z, hl⟩ hf nc; exact ⟨v, ⟨h0.fr hf (nc.bx h0), h1.fr hf (nc.bx h1), nc.ff h2 hkz hf⟩, b1.fr hf (nc.bx b1), b2.fr hf (nc.bx b2), Row.fr i1 hf (nc.row i1), Nat.le_trans z hf.size, hl⟩) ⟨.slice none 0 0, ⟨hbs, hbt, ff⟩, bx1, bx2, Row.nil _ _ _ _ _, Nat.le_refl _, Nat.zero_le _⟩ (_) (fun x a k => put1 k rfl) (fun x a W => Kn ⟨Try.f7.ntmps, [], none, 0⟩ [(2, .pointer (some ⟨w.heap.size, 0, none⟩)), (7, .pointer (some ⟨wB, 0, none⟩)), (8, .int .i64 (evT s x.1))] a) (by rintro x a' W W' F0 k hf nc; exact k) ?_ ?_ ?_
    · rintro l pre x Wa ⟨v, ⟨hbs, hbt, ff⟩, bx1, bxg, hv, hz, hpl⟩
      have hK := KeepsOthers.refl Wa
      refine TW.reg ?_
      refine WL.op rfl rfl rfl (Go.Proofs.Ytdkjeiemjnmdlaa.M.W.quiet_assign rfl rfl) ?_
      refine WL.end ?_
      refine Xw.any (fun a k => ?_)
      have k9 := k.to (N' := ⟨Try.f7.ntmps, [], none, 0⟩)
      exact ⟨hK.from _, fun _ => ⟨hbs, hbt, ff⟩, ⟨v, ⟨hbs, hbt, ff⟩, bx1, bxg, hv, hz, hpl⟩, (by (repeat (refine Kn.cons k9 rfl ?_)); exact k9.base)⟩
    · rintro l pre x a Wb ⟨v, ⟨hbs, hbt, ff⟩, bx1, bxg, hv, hz, hpl⟩ k hlt
      have hK := KeepsOthers.refl Wb
      have hvb : ∀ k, v.ownBlock = some k → wK.heap.size ≤ k := fun k hk => (Row.lt hv k hk).1
      obtain ⟨i0, i1, i2, i3, i4, _, _, _, _, _, _, _⟩ := hR.inv (pre.map (·.1))
      rw [List.length_map] at i3 i4
      obtain ⟨e0, e1⟩ := hR.ev x.1
      have hpT := hlt
      refine TW.app (N' := ⟨Try.f7.ntmps, [], some l, 998⟩) (s := [(2, .pointer (some ⟨w.heap.size, 0, none⟩)), (7, .pointer (some ⟨wB, 0, none⟩)), (8, .int .i64 (evT s x.1))]) ?_ k.to
      have hq1 : room ≤ 1048576 := hR.2.2.2.2.2
      have hq2 : 1 ≤ lim := hR.2.2.2.1
      have hq3 : lim ≤ room := hR.2.2.2.2.1
      refine TW.block ?_
      refine TW.reg ?_
      refine WL.ld rfl rfl rfl rfl rfl (qlB_power_Supply _ _ _ _ _ _ _ _ bx1) ?_
      refine WL.op rfl rfl rfl (Go.Proofs.Ytdkjeiemjnmdlaa.M.W.quiet_move rfl rfl) ?_
      refine WL.call (hr := (t_tick wK.heap.size wB oa s.length c room lim _ _ _ _ v _ (by omega) (by omega) i0 (by omega) e0 e1 i2 (by omega) (by omega) _ bxg hgW hz hv)) rfl rfl rfl rfl rfl (fun W => qk_power_buffer_tick W _) ?_
      rintro e w9 ⟨v9, rfl, hb9, hv9, f9⟩
      refine ⟨_, rfl, ?_⟩
      have f9k : ∀ k, k < wK.heap.size → k ≠ wB → ¬(fun q => q = wB ∨ v.ownBlock = some q) k := fun k hk hne e => e.elim hne (fun e => by have := hvb k e; omega)
      have hK9 := hK.trans (keepsF f9 (fun k e => e.elim (fun e => by subst e; exact ⟨_, _, _, bxg⟩) (fun e => by obtain ⟨cur, hc⟩ := Row.typ hv k e; exact ⟨_, _, _, hc⟩)))
      have c1 := bx1.fr f9 (f9k _ (by omega) (by omega))
      have cs := hbs.fr f9 (f9k _ hsW hsg)
      have ct := hbt.fr f9 (f9k _ htW htg)
      have g9 := ff.trans' f9 (fun q hq e => f9k q (by omega) (by omega) e)
      refine WL.end ?_
      refine Xw.nblk ?_
      refine fun a k => (?_ : _ ∧ _ ∧ _)
      refine ⟨hK9.from _, fun _ => ⟨cs, ct, g9⟩, v9, ⟨cs, ct, g9⟩, c1, ?_, ?_, Nat.le_trans hz f9.size, by rw [List.length_append, List.length_singleton]; omega⟩
      · rw [List.map_append, List.map_cons, List.map_nil, run_app]; exact hb9
      · rw [List.map_append, List.map_cons, List.map_nil, run_app]; exact hv9
    · rintro D xs Wd hD hXs ⟨v, ⟨hbs, hbt, ff⟩, bx1, bxg, hv, hz, hpl⟩ hDd
      rw [hXs] at bxg hv
      have hM2 := (Mks.nil Wd).cons (D := D) (fun d hd => by cases hd) hDd
      have hvb : ∀ k, v.ownBlock = some k → wK.heap.size ≤ k := fun k hk => (Row.lt hv k hk).1
      have hDg : D ≠ wB := fun e => by subst e; have h4 := bxg; unfold BufAt Bx at h4; rw [hDd] at h4; cases h4
      have hDv : v.ownBlock ≠ some D := fun e => by obtain ⟨cur, hc⟩ := Row.typ hv D e; rw [hDd] at hc; cases hc
      unfold BufAt at bxg
      obtain ⟨va, vc, rfl⟩ := Row.form hv
      refine Xw.nblk ?_
      refine Xw.nrm ?_
      refine Q.sreg (C := fun W => Fr (fun _ => False) Wd W) (by kernel_rfl) (by kernel_rfl) (fun W h => h.drewN 1) (Fr.refl _ _) ?_
      refine W.op rfl rfl rfl (Go.Proofs.Ytdkjeiemjnmdlaa.M.W.quiet_field rfl rfl (fun W => (qa_power_buffer_3 W _ _))) ?_
      refine W.op rfl rfl rfl (Go.Proofs.Ytdkjeiemjnmdlaa.M.W.quiet_load rfl rfl (fun W hW => (ql_s_int _ _ _ _ _ ((bxg.fr hW id).cell (j := 3) rfl)))) ?_
      refine W.op rfl rfl rfl (Go.Proofs.Ytdkjeiemjnmdlaa.M.W.quiet_field rfl rfl (fun W => (qa_power_buffer_2 W _ _))) ?_
      refine W.op rfl rfl rfl (Go.Proofs.Ytdkjeiemjnmdlaa.M.W.quiet_load rfl rfl (fun W hW => (ql_int _ _ _ ((bxg.fr hW id).cell (j := 2) rfl)))) ?_
      refine W.op rfl rfl rfl (Go.Proofs.Ytdkjeiemjnmdlaa.M.W.quiet_assign rfl rfl) ?_
      refine W.op rfl rfl rfl (Go.Proofs.Ytdkjeiemjnmdlaa.M.W.quiet_assign rfl rfl) ?_
      refine W.op rfl rfl rfl (Go.Proofs.Ytdkjeiemjnmdlaa.M.W.quiet_assign rfl rfl) ?_
      refine Q.nil (T.tw fun wq1 fq1 => ?_)
      replace bxg := bxg.fr fq1 id
      replace hv := Row.fr hv fq1 (fun _ _ => id)
      replace hM2 := hM2.fr0 fq1
      replace ff := ff.trans fq1
      refine TW.rt ?_
      refine O.ret3 rfl rfl rfl rfl hM2 ?_
      rintro wz ⟨fz, ez⟩
      subst hT2
      refine ⟨fun _ => ⟨_, rfl, Row.base (Row.fr hv fz (fun k hk e => by obtain rfl : k = D := List.mem_singleton.1 e; exact hDv hk)) (fun k hk => by have := hvb k hk; omega), ff.trans' fz (fun q hq e => by obtain rfl : q = D := List.mem_singleton.1 e; omega)⟩, fun h => absurd hR h⟩
  · skip
    refine WL.op rfl rfl rfl (Go.Proofs.Ytdkjeiemjnmdlaa.M.W.quiet_not rfl rfl) ?_
    refine WL.nil ?_
    refine TW.cond rfl (fun _ => ?_) (fun hb => by cases hb)
    refine TW.sreg ?_
    refine WL.op rfl rfl rfl (Go.Proofs.Ytdkjeiemjnmdlaa.M.W.quiet_assign rfl rfl) ?_
    refine WL.op rfl rfl rfl (Go.Proofs.Ytdkjeiemjnmdlaa.M.W.quiet_assign rfl rfl) ?_
    refine WL.op rfl rfl rfl (Go.Proofs.Ytdkjeiemjnmdlaa.M.W.quiet_assign rfl rfl) ?_
    refine WL.nil ?_
    refine TW.rt ?_
    refine Xw.thn (by simp) ?_
    refine O.ret3 rfl rfl rfl rfl (Mks.nil _) ?_
    rintro wz ⟨fz, ez⟩
    refine ⟨fun h => absurd (hb.2 h) (by rw [hbt0]; decide), fun _ => ⟨rfl, by rw [ez rfl]; exact ff⟩⟩
end Go.Proofs.Ytdkjeiemjnmdlaa.M
