/-
  Runs (layer 14): room for a call. Runs (layer 14): an input is read; the cells of a call.
-/
import Derived.Test.YthdkmjbeemfbbaaQRnB
namespace Go.Proofs.Ythdkmjbeemfbbaa
open Go.RowKit
set_option linter.unusedVariables false
set_option linter.unusedSimpArgs false
theorem qb_eql_int (w : World) (x y : Operand) (m n : Int) : ((do eqGuard .eql 3 x y (.int .i64 m) (.int .i64 n); binOp .eql 3 (.int .i64 m) (.int .i64 n) : Sem Value)).run Try.prog w = .ok (.bool (m == n)) w := by simp [go_sem]
theorem qd_irrun_call_ (w : World)  : (Instr.build 67 #[]).run Try.prog w = .ok (.agg #[.slice none 0 0, .int .i64 0, .pointer none, .int .i64 0, .int .i64 0, .int .i64 0]) w := by simp [go_sem]
theorem qv_s_irrun_call_1 (w : World) (u0_p0 : Option Addr) (u0_k0 u0_l0 : Nat) (u0_m1 : Int) (u0_p2 : Option Addr) (u0_m3 : Int) (u0_m4 : Int) (u0_m5 : Int) : (Instr.buildSlice 53 1 #[(0, .agg #[.slice u0_p0 u0_k0 u0_l0, .int .i64 u0_m1, .pointer u0_p2, .int .i64 u0_m3, .int .i64 u0_m4, .int .i64 u0_m5])]).run Try.prog w = .ok (.slice (some ⟨w.heap.size, 0, none⟩) 1 1) (w.alloc (.cells #[.slice u0_p0 u0_k0 u0_l0, .int .i64 u0_m1, .pointer u0_p2, .int .i64 u0_m3, .int .i64 u0_m4, .int .i64 u0_m5] 67)) := by simp [go_sem]
theorem qsF_s_irrun_call (w : World) (g j : Nat) (z : Array Value) (tt : TypeId) (y : Value) (up0 : Option Addr) (uk0 ul0 : Nat) (h : Bx w g z tt) (hj : z[j]? = some y) : ∃ w', (Instr.storeAt 53 (.pointer (some ⟨g, j, none⟩)) (.slice up0 uk0 ul0)).run Try.prog w = .ok () w' ∧ (Fr (fun q => q = g) w w' ∧ Bx w' g (z.setIfInBounds j (.slice up0 uk0 ul0)) tt) := by
  have c0 := h.cell hj
  have e0 := h.free j
  exact ⟨w.setCell ⟨g, j, none⟩ (.slice up0 uk0 ul0), by simp [go_sem, c0, e0], Fr.setCell _ _ _ rfl, h.set j _⟩
theorem qk_irrun_machine_current (w : World) (vs : Array Value) : (callFunc 17 vs).run Try.prog w = .ok (.enter 17 vs) w := by simp [go_sem]
theorem info_call : (Try.prog.info? 67).map (fun i => (i.zero, i.size, i.bytes)) = some (some (.agg #[.slice none 0 0, .int .i64 0, .pointer none, .int .i64 0, .int .i64 0, .int .i64 0]), 6, 64) := by kernel_rfl
def zcL : List Value := [.slice none 0 0, .int .i64 0, .pointer none, .int .i64 0, .int .i64 0, .int .i64 0]
def zcF (i : Nat) : Value := zcL.getD i (.slice none 0 0)
theorem zc_get {i : Nat} (hi : i < 6) : zcL[i]? = some (zcF i) := by
  match i, hi with
  | 0, _ => rfl
  | 1, _ => rfl
  | 2, _ => rfl
  | 3, _ => rfl
  | 4, _ => rfl
  | 5, _ => rfl
theorem zeroCells_get (z : Array Value) (n j : Nat) (hj : j < n * z.size) : (Builtin.zeroCells z n)[j]? = some z[j % z.size]! := by
  simp [Builtin.zeroCells, hj]
theorem zc_tail (n k i : Nat) (hk : k < n) (hi : i < 6) : (Builtin.zeroCells (Value.agg #[.slice none 0 0, .int .i64 0, .pointer none, .int .i64 0, .int .i64 0, .int .i64 0]).cells n)[k * 6 + i]? = some (zcF i) := by
  have hs : (Value.agg #[.slice none 0 0, .int .i64 0, .pointer none, .int .i64 0, .int .i64 0, .int .i64 0]).cells.size = 6 := rfl
  rw [zeroCells_get _ _ _ (by rw [hs]; omega), hs, show (k * 6 + i) % 6 = i by omega]
  match i, hi with
  | 0, _ => rfl
  | 1, _ => rfl
  | 2, _ => rfl
  | 3, _ => rfl
  | 4, _ => rfl
  | 5, _ => rfl
def grF (d : Nat) (F : Nat → Nat → Value) : Nat → Nat → Value := fun k i => if k < d then F k i else zcF i
theorem RA.grow {c : RC} {W : World} {L : RL} {x : RSt} (hc : c.ok) (h : RA c W L x) (hd : x.d = L.cc) (hd5 : x.d < 5000) {b : Nat} (hb : Bx W b #[.slice none 0 0, .int .i64 0, .pointer none, .int .i64 0, .int .i64 0, .int .i64 0] 67) (ty : TypeId) :
    ∃ v' w', (Builtin.append_ #[53, 53] ty #[.slice L.ca x.d L.cc, .slice (some ⟨b, 0, none⟩) 1 1]).run Try.prog W = .ok v' w' ∧ ∃ cap, v' = .slice (some ⟨W.heap.size, 0, none⟩) (x.d + 1) cap ∧ x.d < cap ∧ Fr (fun _ => False) W w' ∧ RA c w' ⟨L.ov, some ⟨W.heap.size, 0, none⟩, cap, grF x.d L.F⟩ x := by
  obtain ⟨i0, hi, hz0, hz1, hz2⟩ := info_row info_call
  have hnews : ∀ j u, zcL[j]? = some u → W.cell? ((⟨b, 0, none⟩ : Addr).add j) = some u := fun j u hj => by
    rw [Addr.add_lit, Nat.zero_add]
    exact hb.cell (by rw [← Array.getElem?_toList]; exact hj)
  have hw1 := h.f1.size
  have fin : ∀ (xs : List Value) (cap : Nat), xs.length = x.d * 6 → (∀ k i, k < x.d → i < 6 → xs[k * 6 + i]? = some (L.F k i)) → x.d + 1 ≤ cap → cap ≤ maxLen →
      Fr (fun _ => False) W (W.drew.alloc (.cells (xs.toArray ++ zcL.toArray ++ Builtin.zeroCells (Value.agg #[.slice none 0 0, .int .i64 0, .pointer none, .int .i64 0, .int .i64 0, .int .i64 0]).cells (cap - (x.d + 1))) 67)) ∧ RA c (W.drew.alloc (.cells (xs.toArray ++ zcL.toArray ++ Builtin.zeroCells (Value.agg #[.slice none 0 0, .int .i64 0, .pointer none, .int .i64 0, .int .i64 0, .int .i64 0]).cells (cap - (x.d + 1))) 67)) ⟨L.ov, some ⟨W.heap.size, 0, none⟩, cap, grF x.d L.F⟩ x := by
    intro xs cap hxl hx hcap hcm
    have hf : Fr (fun _ => False) W (W.drew.alloc (.cells (xs.toArray ++ zcL.toArray ++ Builtin.zeroCells (Value.agg #[.slice none 0 0, .int .i64 0, .pointer none, .int .i64 0, .int .i64 0, .int .i64 0]).cells (cap - (x.d + 1))) 67)) := fr_al ((Fr.refl _ _).drewN 1) _
    have hbx := Bx.new W.drew (xs.toArray ++ zcL.toArray ++ Builtin.zeroCells (Value.agg #[.slice none 0 0, .int .i64 0, .pointer none, .int .i64 0, .int .i64 0, .int .i64 0]).cells (cap - (x.d + 1))) 67
    have h2 := h.fr0 hc hf
    refine ⟨hf, h2.f0, h2.f1, h2.me, h2.out, .inr ⟨W.heap.size, rfl, hw1, hcm, _, hbx, ?_, fun k i hk hi => ?_⟩, fun k hk => ?_, fun k hk => ?_, by show x.d ≤ cap; omega, fun j k g hj hk hgj hgk => ?_, fun k g hk hg => ?_⟩
    · simp only [Array.size_append, List.size_toArray, size_zeroCells, hxl]
      show x.d * 6 + 6 + (cap - (x.d + 1)) * 6 = cap * 6
      omega
    · show _ = some (grF x.d L.F k i)
      unfold grF
      by_cases hkd : k < x.d
      · rw [if_pos hkd, Array.getElem?_append_left (by simp only [Array.size_append, List.size_toArray, hxl]; omega), Array.getElem?_append_left (by simp only [List.size_toArray, hxl]; omega), List.getElem?_toArray]
        exact hx k i hkd hi
      · rw [if_neg hkd]
        by_cases hke : k = x.d
        · subst hke
          rw [Array.getElem?_append_left (by simp only [Array.size_append, List.size_toArray, hxl]; show x.d * 6 + i < x.d * 6 + 6; omega), Array.getElem?_append_right (by simp only [List.size_toArray, hxl]; omega), List.getElem?_toArray]
          simp only [List.size_toArray, hxl]
          rw [show x.d * 6 + i - x.d * 6 = i by omega]
          exact zc_get hi
        · have hsz : (xs.toArray ++ zcL.toArray).size = x.d * 6 + 6 := by simp only [Array.size_append, List.size_toArray, hxl]; rfl
          rw [Array.getElem?_append_right (by rw [hsz]; omega), hsz, show k * 6 + i - (x.d * 6 + 6) = (k - x.d - 1) * 6 + i by omega]
          exact zc_tail _ _ _ (by have : k < cap := hk; omega) hi
    · show RegS _ (grF x.d L.F k 0) ∧ ∀ g, (grF x.d L.F k 0).ownBlock = some g → _
      unfold grF
      by_cases hkd : k < x.d
      · rw [if_pos hkd]
        exact h2.rg k (by omega)
      · rw [if_neg hkd]
        exact ⟨.inl rfl, fun g hg => by cases hg⟩
    · have hg : ∀ i, grF x.d L.F k i = L.F k i := fun i => if_pos hk
      show RegA _ (grF x.d L.F k 0) _ _ ∧ grF x.d L.F k 1 = _ ∧ PtrTo c _ _ (grF x.d L.F k 2) ∧ grF x.d L.F k 3 = _ ∧ grF x.d L.F k 4 = _ ∧ grF x.d L.F k 5 = _
      simp only [hg]
      exact h2.top k hk
    · have hgj : (grF x.d L.F j 0).ownBlock = some g := hgj
      have hgk : (grF x.d L.F k 0).ownBlock = some g := hgk
      unfold grF at hgj hgk
      by_cases h1 : j < x.d
      · by_cases h3 : k < x.d
        · rw [if_pos h1] at hgj
          rw [if_pos h3] at hgk
          exact h.ne j k g (by omega) (by omega) hgj hgk
        · rw [if_neg h3] at hgk; cases hgk
      · rw [if_neg h1] at hgj; cases hgj
    · have hg : (grF x.d L.F k 0).ownBlock = some g := hg
      unfold grF at hg
      by_cases h1 : k < x.d
      · rw [if_pos h1] at hg
        exact h.no k g (by omega) hg
      · rw [if_neg h1] at hg; cases hg
  rcases h.ca with ⟨e1, e2⟩ | ⟨cb, e1, _, hcl, z, hz, hzs, hzc⟩
  · have hd0 : x.d = 0 := by omega
    have hr := run_append_nil (P := Try.prog) W 53 ty 67 i0 _ Try.underlying53 hi hz0 ⟨b, 0, none⟩ 1 1 zcL (by rw [hz1]; rfl) hnews (by omega) (by omega) (by rw [hz2]; decide)
    have hge := grownCap_ge W 1 0 67
    have hle := grownCap_le_maxLen W 1 0 67 (by unfold maxLen; omega)
    obtain ⟨f1, f2⟩ := fin [] (grownCap W 1 0 67) (by rw [hd0]; rfl) (fun k i hk => by omega) (by omega) hle
    rw [e1, ← hd, hd0]
    rw [hd0] at f1 f2
    refine ⟨_, _, hr, _, rfl, by omega, ?_, ?_⟩
    · simpa using f1
    · simpa using f2
  · have hr := run_append_grow (P := Try.prog) W 53 ty 67 i0 _ Try.underlying53 hi hz0 ⟨cb, 0, none⟩ x.d L.cc z.toList (by rw [Array.length_toList, hzs, hz1, hd]) (fun j v hj => by
      rw [Addr.add_lit, Nat.zero_add]
      exact hz.cell (by rw [← Array.getElem?_toList]; exact hj)) ⟨b, 0, none⟩ 1 1 zcL (by rw [hz1]; rfl) hnews (by omega) (by omega) (growslice_fits (by omega) (by rw [hz2]; omega))
    have hge := grownCap_ge W (x.d + 1) L.cc 67
    have hle := grownCap_le_maxLen W (x.d + 1) L.cc 67 (by unfold maxLen; omega)
    obtain ⟨f1, f2⟩ := fin z.toList (grownCap W (x.d + 1) L.cc 67) (by rw [Array.length_toList, hzs, hd]) (fun k i hk hi => by rw [Array.getElem?_toList]; exact hzc k i (by omega) hi) hge hle
    rw [e1]
    exact ⟨_, _, hr, _, rfl, by omega, f1, f2⟩
theorem sl_c (g m k n : Nat) (hn : n + 1 ≤ k) (w : World) : (Instr.slice 53 (.slice (some ⟨g, 0, none⟩) m k) none (some (.int .i64 ((n : Int) + 1))) none).run Try.prog w = .ok (.slice (some ⟨g, 0, none⟩) (n + 1) k) w := by
  have ht' : (Try.prog).underlying 53 = some (.slice ((Try.prog).elem 53)) := by kernel_rfl
  have he : (Try.prog).elem 53 = 67 := by kernel_rfl
  have hs : (Go.sizeOf 67).run Try.prog w = .ok 6 w := by simp [go_sem]
  rw [run_slice_h w 53 _ _ _ ht' .i64 _ (by omega) (by omega), he, hs]
  have h0 : ¬ k = 0 := by omega
  have h1 : ((n : Int) + 1).toNat = n + 1 := by omega
  simp [Result.andThen, sliced, Addr.add, h0, h1]
def PushP (c : RC) (L : RL) (x : RSt) (fu : Int) (w : World) (e : Ending) (w' : World) : Prop := ∃ L' cb, e = .returned (.pointer (some ⟨cb, 0 + x.d * 6, none⟩)) ∧ L'.ca = some ⟨cb, 0, none⟩ ∧ x.d < L'.cc ∧ RM c w' L' x fu (x.d + 1) ∧ Fr (fun q => q = c.M) w w'
set_option maxRecDepth 100000 in
theorem t_push {c : RC} {L : RL} {x : RSt} {fu : Int} (hc : c.ok) (hd5 : x.d < 5000) (w : World) (h : RM c w L x fu x.d) : Calls Try.prog 18 #[.pointer (some ⟨c.M, 0, none⟩)] w (PushP c L x fu w) := by
  obtain ⟨ov, ca, cc, F⟩ := L
  obtain ⟨hm0, hr⟩ := id h
  have hm : Bx w c.M #[ov, .int .i64 x.ins, .int .u32 x.ex, .int .i64 x.e, .slice c.ga c.m.gl.length c.gc, .slice c.da c.m.da.length c.dc, .slice c.pa c.m.pr.length c.pc, .int .i64 c.m.mn, .slice c.ia c.inp.length c.ic, .int .i64 fu, .slice (some ⟨c.mb, 0, none⟩) 65536 65536, .slice c.la c.m.gl.length c.lc, .int .i64 (rFlo c.m), .slice c.fa c.m.pr.length c.fc, (.slice ca x.d cc)] 55 := hm0
  clear hm0
  have ff := Fr.refl (fun q => q = c.M) w
  refine calls_tw Try.func18 rfl rfl (Nat.le_of_ble_eq_true rfl) ?_
  refine TW.sreg ?_
  refine WL.op rfl rfl rfl (Go.Proofs.Ythdkmjbeemfbbaa.W.quiet_assign rfl rfl) ?_
  refine WL.nil ?_
  refine TW.seq ?_
  refine Q.sreg (C := fun W => Fr (fun _ => False) w W) (by kernel_rfl) (by kernel_rfl) (fun W h => h.drewN 1) (Fr.refl _ _) ?_
  refine W.op rfl rfl rfl (Go.Proofs.Ythdkmjbeemfbbaa.W.quiet_move rfl rfl) ?_
  refine W.op rfl rfl rfl (Q.nck rfl rfl) ?_
  refine W.op rfl rfl rfl (Go.Proofs.Ythdkmjbeemfbbaa.W.quiet_field rfl rfl (fun W => (qa_irrun_machine_8 W _ _))) ?_
  refine W.op rfl rfl rfl (Go.Proofs.Ythdkmjbeemfbbaa.W.quiet_load rfl rfl (fun W hW => (ql_s_irrun_call _ _ _ _ _ ((hm.fr hW id).cell (j := 14) rfl)))) ?_
  refine W.op rfl rfl rfl (Q.len rfl rfl (fun W => (qn_s_irrun_call _ _ _ _))) ?_
  refine W.op rfl rfl rfl (Go.Proofs.Ythdkmjbeemfbbaa.W.quiet_move rfl rfl) ?_
  refine W.op rfl rfl rfl (Q.nck rfl rfl) ?_
  refine W.op rfl rfl rfl (Go.Proofs.Ythdkmjbeemfbbaa.W.quiet_field rfl rfl (fun W => (qa_irrun_machine_8 W _ _))) ?_
  refine W.op rfl rfl rfl (Go.Proofs.Ythdkmjbeemfbbaa.W.quiet_load rfl rfl (fun W hW => (ql_s_irrun_call _ _ _ _ _ ((hm.fr hW id).cell (j := 14) rfl)))) ?_
  refine W.op rfl rfl rfl (Q.cap rfl rfl (fun W => cap_c W _ _ _ _)) ?_
  refine W.op rfl rfl rfl (Go.Proofs.Ythdkmjbeemfbbaa.W.quiet_bin rfl rfl rfl (fun W => qb_eql_int W _ _ _ _)) ?_
  refine Q.split (fun hb => ?_) (fun hb => ?_)
  · have hdc : x.d = cc := by
      have : (x.d : Int) = (cc : Int) := by simpa using hb
      omega
    refine Q.nil (T.tw fun wq1 fq1 => ?_)
    replace hm := hm.fr fq1 id
    replace hr := hr.fr0 hc fq1
    replace ff := ff.trans' fq1 (fun q hq e => e.elim)
    refine TW.cond rfl (fun _ => ?_) (fun hb => by cases hb)
    refine TW.reg ?_
    refine WL.op rfl rfl rfl (Go.Proofs.Ythdkmjbeemfbbaa.W.quiet_move rfl rfl) ?_
    refine WL.op rfl rfl rfl (Go.Proofs.Ythdkmjbeemfbbaa.W.quiet_move rfl rfl) ?_
    refine O.nck rfl rfl rfl rfl rfl ?_
    refine WL.op rfl rfl rfl (Go.Proofs.Ythdkmjbeemfbbaa.W.quiet_field rfl rfl (fun W => (qa_irrun_machine_8 W _ _))) ?_
    refine WL.ld rfl rfl rfl rfl rfl (ql_s_irrun_call _ _ _ _ _ (hm.cell (j := 14) rfl)) ?_
    refine O.bld rfl rfl rfl rfl rfl (qd_irrun_call_ _) ?_
    have lt1_hm := hm.lt
    refine O.bslR rfl rfl rfl rfl rfl (qv_s_irrun_call_1 wq1 _ _ _ _ _ _ _ _) ?_
    rintro wa1 ⟨fa1, bx1⟩
    replace hm := hm.fr fa1 id
    replace hr := hr.fr0 hc fa1
    replace ff := ff.trans' fa1 (fun q hq e => e.elim)
    refine WL.append rfl rfl rfl rfl rfl rfl (RA.grow hc hr hdc hd5 bx1 _) ?_
    rintro v2 w2 ⟨cap, rfl, hcap, f2, hr2⟩
    have hr := hr2
    replace hm := hm.fr f2 id
    replace ff := ff.trans' f2 (fun q hq e => e.elim)
    -- world w2
    generalize hcb : wa1.heap.size = cb at *
    clear hcb
    refine O.nck rfl rfl rfl rfl rfl ?_
    refine WL.op rfl rfl rfl (Go.Proofs.Ythdkmjbeemfbbaa.W.quiet_field rfl rfl (fun W => (qa_irrun_machine_8 W _ _))) ?_
    refine O.storeR rfl rfl rfl rfl rfl (qsF_s_irrun_call w2 _ 14 _ _ _ _ _ _ hm rfl) ?_
    rintro wa2 ⟨fa2, hmx⟩
    replace hr := hr.frM hc hm fa2
    replace ff := ff.trans' fa2 (fun q hq e => by omega)
    clear hm
    have hm := hmx
    clear hmx
    refine WL.nil ?_
    refine TW.sreg ?_
    refine WL.op rfl rfl rfl (Go.Proofs.Ythdkmjbeemfbbaa.W.quiet_move rfl rfl) ?_
    refine WL.call (hr := (t_cur (by omega) cb rfl hc _ (show RM c _ ⟨ov, some ⟨cb, 0, none⟩, cap, grF x.d F⟩ x fu (x.d + 1) from ⟨hm, hr⟩))) rfl rfl rfl rfl rfl (fun W => qk_irrun_machine_current W _) ?_
    rintro e w7 ⟨rfl, f7⟩
    refine ⟨_, rfl, ?_⟩
    replace hm := hm.fr f7 id
    replace hr := hr.fr0 hc f7
    replace ff := ff.trans' f7 (fun q hq e => e.elim)
    refine WL.op rfl rfl rfl (Go.Proofs.Ythdkmjbeemfbbaa.W.quiet_assign rfl rfl) ?_
    refine WL.nil ?_
    refine TW.rt ?_
    refine bodyw_ret rfl rfl ?_
    exact ⟨⟨ov, some ⟨cb, 0, none⟩, cap, grF x.d F⟩, cb, rfl, rfl, hcap, ⟨hm, hr⟩, ff⟩
  · have hdc : ¬ x.d = cc := by
      have : ¬ (x.d : Int) = (cc : Int) := by simpa using hb
      omega
    have hdl : x.d ≤ cc := hr.dc
    obtain ⟨cb, hcb, _⟩ := hr.cb (by show 0 < cc; omega)
    obtain rfl : ca = some ⟨cb, 0, none⟩ := hcb
    refine Q.nil (T.tw fun wq2 fq2 => ?_)
    replace hm := hm.fr fq2 id
    replace hr := hr.fr0 hc fq2
    replace ff := ff.trans' fq2 (fun q hq e => e.elim)
    refine TW.cond rfl (fun hb => by cases hb) (fun _ => ?_)
    refine TW.regH (fun W => Fr (fun q => q = c.M) wq2 W) (by kernel_rfl) ?_
    have fd : Fr (fun _ => False) wq2 wq2.drew := (Fr.refl _ _).drewN 1
    have HW : Fr (fun q => q = c.M) wq2 wq2.drew := (Fr.refl _ _).drewN 1
    replace hm := hm.fr fd id
    replace hr := hr.fr0 hc fd
    replace ff := ff.trans' fd (fun q hq e => e.elim)
    generalize hV : wq2.drew = V1 at *
    clear hV
    refine WH.take 0 rfl (by kernel_rfl) (by kernel_rfl) (by kernel_rfl) (fun _ _ _ _ _ h => h) rfl rfl rfl HW (RH.move rfl rfl) ?_
    refine WH.take 1 rfl (by kernel_rfl) (by kernel_rfl) (by kernel_rfl) (fun _ _ _ _ _ h => h) rfl rfl rfl HW (RH.move rfl rfl) ?_
    refine WH.take 2 rfl (by kernel_rfl) (by kernel_rfl) (by kernel_rfl) (fun _ _ _ _ _ h => h) rfl rfl rfl HW (RH.nck rfl rfl) ?_
    refine WH.take 3 rfl (by kernel_rfl) (by kernel_rfl) (by kernel_rfl) (fun _ _ _ _ _ h => h) rfl rfl rfl HW (RH.field rfl rfl (fun W => qa_irrun_machine_8 W _ _)) ?_
    refine WH.take 5 rfl (by kernel_rfl) (by kernel_rfl) (by kernel_rfl) (fun _ _ _ _ _ h => h) rfl rfl rfl HW (RH.move rfl rfl) ?_
    refine WH.take 6 rfl (by kernel_rfl) (by kernel_rfl) (by kernel_rfl) (fun _ _ _ _ _ h => h) rfl rfl rfl HW (RH.nck rfl rfl) ?_
    refine WH.take 7 rfl (by kernel_rfl) (by kernel_rfl) (by kernel_rfl) (fun _ _ _ _ _ h => h) rfl rfl rfl HW (RH.field rfl rfl (fun W => qa_irrun_machine_8 W _ _)) ?_
    refine WH.two 4 8 (by kernel_rfl) rfl rfl ?_ ?_ 
    · skip
      refine WL.ld rfl rfl rfl rfl rfl (ql_s_irrun_call _ _ _ _ _ (hm.cell (j := 14) rfl)) ?_
      refine WL.fin HW ?_
      refine WH.one 8 (by kernel_rfl) rfl ?_ 
      refine WL.ld rfl rfl rfl rfl rfl (ql_s_irrun_call _ _ _ _ _ (hm.cell (j := 14) rfl)) ?_
      refine WL.fin HW ?_
      refine WH.take 9 rfl (by kernel_rfl) (by kernel_rfl) (by kernel_rfl) (fun _ _ _ _ _ h => h) rfl rfl rfl HW (RH.len rfl rfl (fun W => qn_s_irrun_call _ _ _ _)) ?_
      refine WH.take 10 rfl (by kernel_rfl) (by kernel_rfl) (by kernel_rfl) (fun _ _ _ _ _ h => h) rfl rfl rfl HW (RH.bin rfl rfl rfl (fun W => qb_add_int W _ _ _ _ (by omega) (by omega))) ?_
      refine WH.take 11 rfl (by kernel_rfl) (by kernel_rfl) (by kernel_rfl) (fun _ _ _ _ _ h => h) rfl rfl rfl HW (RH.sl2 rfl rfl rfl (fun W hW => (sl_c _ _ _ _ (by omega) _))) ?_
      refine WH.take 12 rfl (by kernel_rfl) (by kernel_rfl) (by kernel_rfl) (fun _ _ _ _ _ h => h) rfl rfl rfl HW (RH.nck rfl rfl) ?_
      refine WH.take 13 rfl (by kernel_rfl) (by kernel_rfl) (by kernel_rfl) (fun _ _ _ _ _ h => h) rfl rfl rfl HW (RH.field rfl rfl (fun W => qa_irrun_machine_8 W _ _)) ?_
      refine WH.one 14 (by kernel_rfl) rfl ?_ 
      refine O.storeR rfl rfl rfl rfl rfl (qsF_s_irrun_call V1 _ 14 _ _ _ _ _ _ hm rfl) ?_
      rintro wa3 ⟨fa3, hmx⟩
      replace hr := hr.frM hc hm fa3
      replace ff := ff.trans' fa3 (fun q hq e => by omega)
      replace HW := HW.trans' fa3 (fun q hq e => by first | exact e | exact Or.inl e | exact Or.inr e | omega)
      clear hm
      have hm := hmx
      clear hmx
      refine WL.fin HW ?_
      refine WH.end (by kernel_rfl) ?_
      refine Xw.nrm ?_
      refine TW.sreg ?_
      refine WL.op rfl rfl rfl (Go.Proofs.Ythdkmjbeemfbbaa.W.quiet_move rfl rfl) ?_
      refine WL.call (hr := (t_cur (by omega) cb rfl hc _ (show RM c _ ⟨ov, some ⟨cb, 0, none⟩, cc, F⟩ x fu (x.d + 1) from ⟨hm, hr⟩))) rfl rfl rfl rfl rfl (fun W => qk_irrun_machine_current W _) ?_
      rintro e w7 ⟨rfl, f7⟩
      refine ⟨_, rfl, ?_⟩
      replace hm := hm.fr f7 id
      replace hr := hr.fr0 hc f7
      replace ff := ff.trans' f7 (fun q hq e => e.elim)
      refine WL.op rfl rfl rfl (Go.Proofs.Ythdkmjbeemfbbaa.W.quiet_assign rfl rfl) ?_
      refine WL.nil ?_
      refine TW.rt ?_
      refine bodyw_ret rfl rfl ?_
      exact ⟨⟨ov, some ⟨cb, 0, none⟩, cc, F⟩, cb, rfl, rfl, (by show x.d < cc; omega), ⟨hm, hr⟩, ff⟩
    · skip
      refine WL.ld rfl rfl rfl rfl rfl (ql_s_irrun_call _ _ _ _ _ (hm.cell (j := 14) rfl)) ?_
      refine WL.fin HW ?_
      refine WH.take 9 rfl (by kernel_rfl) (by kernel_rfl) (by kernel_rfl) (fun _ _ _ _ _ h => h) rfl rfl rfl HW (RH.len rfl rfl (fun W => qn_s_irrun_call _ _ _ _)) ?_
      refine WH.take 10 rfl (by kernel_rfl) (by kernel_rfl) (by kernel_rfl) (fun _ _ _ _ _ h => h) rfl rfl rfl HW (RH.bin rfl rfl rfl (fun W => qb_add_int W _ _ _ _ (by omega) (by omega))) ?_
      refine WH.one 4 (by kernel_rfl) rfl ?_ 
      refine WL.ld rfl rfl rfl rfl rfl (ql_s_irrun_call _ _ _ _ _ (hm.cell (j := 14) rfl)) ?_
      refine WL.fin HW ?_
      refine WH.take 11 rfl (by kernel_rfl) (by kernel_rfl) (by kernel_rfl) (fun _ _ _ _ _ h => h) rfl rfl rfl HW (RH.sl2 rfl rfl rfl (fun W hW => (sl_c _ _ _ _ (by omega) _))) ?_
      refine WH.take 12 rfl (by kernel_rfl) (by kernel_rfl) (by kernel_rfl) (fun _ _ _ _ _ h => h) rfl rfl rfl HW (RH.nck rfl rfl) ?_
      refine WH.take 13 rfl (by kernel_rfl) (by kernel_rfl) (by kernel_rfl) (fun _ _ _ _ _ h => h) rfl rfl rfl HW (RH.field rfl rfl (fun W => qa_irrun_machine_8 W _ _)) ?_
      refine WH.one 14 (by kernel_rfl) rfl ?_ 
      refine O.storeR rfl rfl rfl rfl rfl (qsF_s_irrun_call V1 _ 14 _ _ _ _ _ _ hm rfl) ?_
      rintro wa4 ⟨fa4, hmx⟩
      replace hr := hr.frM hc hm fa4
      replace ff := ff.trans' fa4 (fun q hq e => by omega)
      replace HW := HW.trans' fa4 (fun q hq e => by first | exact e | exact Or.inl e | exact Or.inr e | omega)
      clear hm
      have hm := hmx
      clear hmx
      refine WL.fin HW ?_
      refine WH.end (by kernel_rfl) ?_
      refine Xw.nrm ?_
      refine TW.sreg ?_
      refine WL.op rfl rfl rfl (Go.Proofs.Ythdkmjbeemfbbaa.W.quiet_move rfl rfl) ?_
      refine WL.call (hr := (t_cur (by omega) cb rfl hc _ (show RM c _ ⟨ov, some ⟨cb, 0, none⟩, cc, F⟩ x fu (x.d + 1) from ⟨hm, hr⟩))) rfl rfl rfl rfl rfl (fun W => qk_irrun_machine_current W _) ?_
      rintro e w7 ⟨rfl, f7⟩
      refine ⟨_, rfl, ?_⟩
      replace hm := hm.fr f7 id
      replace hr := hr.fr0 hc f7
      replace ff := ff.trans' f7 (fun q hq e => e.elim)
      refine WL.op rfl rfl rfl (Go.Proofs.Ythdkmjbeemfbbaa.W.quiet_assign rfl rfl) ?_
      refine WL.nil ?_
      refine TW.rt ?_
      refine bodyw_ret rfl rfl ?_
      exact ⟨⟨ov, some ⟨cb, 0, none⟩, cc, F⟩, cb, rfl, rfl, (by show x.d < cc; omega), ⟨hm, hr⟩, ff⟩
theorem qs_p_api_Block (w : World) (p : Option Addr) (u : Value) (d : Addr) (h : w.cell? d = some u) (hf : w.frozen? d = false) : (Instr.storeAt 65 (.pointer (some d)) (.pointer p)).run Try.prog w = .ok () (w.setCell d (.pointer p)) := by simp [go_sem, h, hf]
theorem qs_int (w : World) (m : Int) (u : Value) (d : Addr) (h : w.cell? d = some u) (hf : w.frozen? d = false) : (Instr.storeAt 3 (.pointer (some d)) (.int .i64 m)).run Try.prog w = .ok () (w.setCell d (.int .i64 m)) := by simp [go_sem, h, hf]
theorem ql_s_uint32 (w : World) (p : Option Addr) (k l : Nat) (d : Addr) (h : w.cell? d = some (.slice p k l)) : (Instr.loadAt 27 (.pointer (some d))).run Try.prog w = .ok (.slice p k l) w := by simp [go_sem, h]
theorem qa_api_Outcome_1 (w : World) (b o : Nat) : (Instr.fieldAt 34 (.pointer (some ⟨b, o, none⟩)) 1).run Try.prog w = .ok (.pointer (some ⟨b, o + 1, none⟩)) w := by simp [go_sem]
theorem qsF_int (w : World) (g j : Nat) (z : Array Value) (tt : TypeId) (y : Value) (um0 : Int) (h : Bx w g z tt) (hj : z[j]? = some y) : ∃ w', (Instr.storeAt 3 (.pointer (some ⟨g, j, none⟩)) (.int .i64 um0)).run Try.prog w = .ok () w' ∧ (Fr (fun q => q = g) w w' ∧ Bx w' g (z.setIfInBounds j (.int .i64 um0)) tt) := by
  have c0 := h.cell hj
  have e0 := h.free j
  exact ⟨w.setCell ⟨g, j, none⟩ (.int .i64 um0), by simp [go_sem, c0, e0], Fr.setCell _ _ _ rfl, h.set j _⟩
theorem qa_irrun_machine_2 (w : World) (b o : Nat) : (Instr.fieldAt 55 (.pointer (some ⟨b, o, none⟩)) 2).run Try.prog w = .ok (.pointer (some ⟨b, o + 8, none⟩)) w := by simp [go_sem]
theorem qn_s_uint32 (w : World) (a : Option Addr) (k l : Nat) : (Builtin.len_ #[27] 3 #[.slice a k l]).run Try.prog w = .ok (.int .i64 k) w := by simp [go_sem]
theorem qb_sub_int (w : World) (x y : Operand) (m n : Int) (h0 : -9223372036854775808 ≤ m - n) (h1 : m - n ≤ 9223372036854775807) : ((do eqGuard .sub 3 x y (.int .i64 m) (.int .i64 n); binOp .sub 3 (.int .i64 m) (.int .i64 n) : Sem Value)).run Try.prog w = .ok (.int .i64 (m - n)) w := by
  have h : IntKind.i64.wrap (m - n) = m - n := IntWalk.i64_in _ (by omega)
  simp [go_sem, h]
theorem qi_s_uint32 (w : World) (b o n c j : Nat) (hj : j < n) : (Instr.indexAt 27 (.slice (some ⟨b, o, none⟩) n c) (.int .i64 (j : Int))).run Try.prog w = .ok (.pointer (some ⟨b, o + j, none⟩)) w := by
  have h : (j : Int) < (n : Int) := by omega
  simp [go_sem, h, hj]
theorem ql_uint32 (w : World) (m : Int) (d : Addr) (h : w.cell? d = some (.int .u32 m)) : (Instr.loadAt 31 (.pointer (some d))).run Try.prog w = .ok (.int .u32 m) w := by simp [go_sem, h]
/-- The cells of a call that stands. -/
structure CAt (c : RC) (w : World) (L : RL) (x : RSt) (k cb : Nat) : Prop where
  c0 : w.cell? ⟨cb, 0 + k * 6, none⟩ = some (L.F k 0)
  c1 : w.cell? ⟨cb, 0 + k * 6 + 1, none⟩ = some (.int .i64 (x.cl k).n)
  c2 : w.cell? ⟨cb, 0 + k * 6 + 2, none⟩ = some (L.F k 2)
  c3 : w.cell? ⟨cb, 0 + k * 6 + 3, none⟩ = some (.int .i64 (x.cl k).i)
  c4 : w.cell? ⟨cb, 0 + k * 6 + 4, none⟩ = some (.int .i64 (x.cl k).lo)
  c5 : w.cell? ⟨cb, 0 + k * 6 + 5, none⟩ = some (.int .i64 (x.cl k).rd)
  fz : ∀ p, w.frozen? ⟨cb, p, none⟩ = false
  ge : c.w1.heap.size ≤ cb
  nM : c.M ≠ cb
  nb : c.mb ≠ cb
theorem RA.at_ {c : RC} {w : World} {L : RL} {x : RSt} (hc : c.ok) (h : RA c w L x) {k cb : Nat} (hcb : L.ca = some ⟨cb, 0, none⟩) (hk : k < x.d) : CAt c w L x k cb := by
  obtain ⟨cb', e, h1, h2⟩ := h.cb (Nat.lt_of_lt_of_le (Nat.lt_of_le_of_lt (Nat.zero_le _) hk) h.dc)
  rw [hcb] at e
  injection e with e
  injection e with e
  subst e
  have hkc : k < L.cc := Nat.lt_of_lt_of_le hk h.dc
  obtain ⟨_, t1, _, t3, t4, t5⟩ := h.top k hk
  have hm1 := hc.m1
  have hb1 := hc.b1
  exact ⟨h2.cell hkc (by decide) (i := 0) (by omega), (h2.cell hkc (by decide) (i := 1) (by omega)).trans (congrArg some t1), h2.cell hkc (by decide) (i := 2) (by omega), (h2.cell hkc (by decide) (i := 3) (by omega)).trans (congrArg some t3), (h2.cell hkc (by decide) (i := 4) (by omega)).trans (congrArg some t4), (h2.cell hkc (by decide) (i := 5) (by omega)).trans (congrArg some t5), fun p => h2.free p, h1, by omega, by omega⟩
theorem RM.put {c : RC} {w : World} {L : RL} {x : RSt} {fu : Int} {d k cb i : Nat} (hc : c.ok) (h : RM c w L x fu d) (hcb : L.ca = some ⟨cb, 0, none⟩) (hk : k < x.d) (hi : i < 6) (hi0 : i ≠ 0) (v : Value) (cl : RCl) (h1 : cl.rg = (x.cl k).rg) (h2 : cl.n = (x.cl k).n) (h5 : cl.lo = (x.cl k).lo) (h6 : cl.rd = (x.cl k).rd)
    (q1 : i ≠ 1) (q2 : if i = 2 then PtrTo c cl.n cl.b v else cl.b = (x.cl k).b) (q3 : if i = 3 then v = .int .i64 cl.i else cl.i = (x.cl k).i) (q4 : i ≠ 4) (q5 : i ≠ 5) : RM c (w.setCell ⟨cb, 0 + k * 6 + i, none⟩ v) { L with F := fup L.F k i v } { x with cl := rupd x.cl k cl } fu d := by
  have hkc : k < L.cc := Nat.lt_of_lt_of_le hk h.r.dc
  obtain ⟨_, t1, t2, t3, t4, t5⟩ := h.r.top k hk
  have ha := h.r.at_ hc hcb hk
  refine ⟨h.m.fr (Fr.setCell (F := fun q => q = cb) _ _ _ rfl) (fun e => ha.nM e), h.r.setF hc hcb hkc hi hi0 (by omega) v _ rfl rfl rfl (fun j hj => ?_)⟩
  by_cases e : j = k
  · subst e
    have hq : rupd x.cl j cl j = cl := rupd_same _ _ _
    have ne : ∀ z, z ≠ i → fup L.F j i v j z = L.F j z := fun z hz => if_neg (fun q => hz q.2)
    have eq : fup L.F j i v j i = v := if_pos ⟨rfl, rfl⟩
    simp only [hq]
    refine ⟨h1, h2, ?_, ?_, ?_, ?_, ?_⟩
    · rw [ne 1 (fun e => q1 e.symm), h2]; exact t1
    · by_cases e2 : i = 2
      · rw [if_pos e2] at q2
        rw [← e2, eq]; exact q2
      · rw [if_neg e2] at q2
        rw [ne 2 (fun e => e2 e.symm), q2, h2]; exact t2
    · by_cases e3 : i = 3
      · rw [if_pos e3] at q3
        rw [← e3, eq]; exact q3
      · rw [if_neg e3] at q3
        rw [ne 3 (fun e => e3 e.symm), q3]; exact t3
    · rw [ne 4 (fun e => q4 e.symm), h5]; exact t4
    · rw [ne 5 (fun e => q5 e.symm), h6]; exact t5
  · have hq : rupd x.cl k cl j = x.cl j := rupd_ne _ _ e
    have ne : ∀ z, fup L.F k i v j z = L.F j z := fun z => if_neg (fun q => e q.1)
    simp only [hq, ne]
    exact ⟨trivial, trivial, (h.r.top j hj).2⟩
theorem RM.putB {c : RC} {w : World} {L : RL} {x : RSt} {fu : Int} {d k cb : Nat} (hc : c.ok) (h : RM c w L x fu d) (hcb : L.ca = some ⟨cb, 0, none⟩) (hk : k < x.d) (g o b : Nat) (hb : BkAt c.w0 g o (rBk c.m (x.cl k).n b)) : ∃ w', (Instr.storeAt 65 (.pointer (some ⟨cb, 0 + k * 6 + 2, none⟩)) (.pointer (some ⟨g, o, none⟩))).run Try.prog w = .ok () w' ∧ (RM c w' { L with F := fup L.F k 2 (.pointer (some ⟨g, o, none⟩)) } { x with cl := rupd x.cl k { x.cl k with b := b } } fu d ∧ Fr (fun q => q = cb) w w') := by
  have ha := h.r.at_ hc hcb hk
  obtain ⟨_, _, t2, _⟩ := h.r.top k hk
  obtain ⟨g0, o0, e0, _⟩ := t2
  exact ⟨_, qs_p_api_Block w _ _ _ ha.c2 (ha.fz _), h.put hc hcb hk (by decide) (by decide) _ _ rfl rfl rfl rfl (by decide) ⟨g, o, rfl, hb⟩ rfl (by decide) (by decide), Fr.setCell _ _ _ rfl⟩
theorem RM.putI {c : RC} {w : World} {L : RL} {x : RSt} {fu : Int} {d k cb : Nat} (hc : c.ok) (h : RM c w L x fu d) (hcb : L.ca = some ⟨cb, 0, none⟩) (hk : k < x.d) (i : Nat) (z : Int) (hz : z = (i : Int)) : ∃ w', (Instr.storeAt 3 (.pointer (some ⟨cb, 0 + k * 6 + 3, none⟩)) (.int .i64 z)).run Try.prog w = .ok () w' ∧ (RM c w' { L with F := fup L.F k 3 (.int .i64 (i : Int)) } { x with cl := rupd x.cl k { x.cl k with i := i } } fu d ∧ Fr (fun q => q = cb) w w') := by
  have ha := h.r.at_ hc hcb hk
  subst hz
  exact ⟨_, qs_int w _ _ _ ha.c3 (ha.fz _), h.put hc hcb hk (by decide) (by decide) _ _ rfl rfl rfl rfl (by decide) rfl rfl (by decide) (by decide), Fr.setCell _ _ _ rfl⟩
/-- Where a block of the module lies. -/
theorem RC.blk {c : RC} (hc : c.ok) {n b : Nat} (hn : n < c.m.pr.length) (hb : b < (rPr c.m n).bl.length) : ∃ gp op a k gb ob, c.pa = some ⟨gp, op, none⟩ ∧ PrcAt c.w0 gp (op + n * 6) (rPr c.m n) ∧ c.w0.cell? ⟨gp, op + n * 6 + 5, none⟩ = some (.slice a (rPr c.m n).bl.length k) ∧ a = some ⟨gb, ob, none⟩ ∧ BkAt c.w0 gb (ob + b * 5) (rBk c.m n b) := by
  obtain ⟨gp, op, e, hp⟩ := hc.mdl.p n hn
  obtain ⟨p0, p1, p2, p3, p4, a, k, p5, hl⟩ := id hp
  obtain ⟨gb, ob, e2, hbk⟩ := hl b hb
  exact ⟨gp, op, a, k, gb, ob, e, hp, p5, e2, hbk⟩
def rInp (inp : List Int) (x : RSt) : Int := if x.ins < inp.length then inp.getD x.ins.toNat 0 else 0
set_option maxRecDepth 100000 in
theorem t_read {c : RC} {L : RL} {x : RSt} {fu : Int} {d : Nat} (hc : c.ok) (h0 : 0 ≤ x.ins) (h1 : x.ins ≤ 1000000) (w : World) (h : RM c w L x fu d) : Calls Try.prog 36 #[.pointer (some ⟨c.M, 0, none⟩)] w fun e w' => e = .returned (.int .u32 (rInp c.inp x)) ∧ RM c w' L { x with ins := x.ins + 1 } fu d := by
  obtain ⟨hm0, hr⟩ := id h
  have hm : Bx w c.M #[L.ov, .int .i64 x.ins, .int .u32 x.ex, .int .i64 x.e, .slice c.ga c.m.gl.length c.gc, .slice c.da c.m.da.length c.dc, .slice c.pa c.m.pr.length c.pc, .int .i64 c.m.mn, .slice c.ia c.inp.length c.ic, .int .i64 fu, .slice (some ⟨c.mb, 0, none⟩) 65536 65536, .slice c.la c.m.gl.length c.lc, .int .i64 (rFlo c.m), .slice c.fa c.m.pr.length c.fc, (.slice L.ca d L.cc)] 55 := hm0
  clear hm0
  have hil := hc.inl
  refine calls_tw Try.func36 rfl rfl (Nat.le_of_ble_eq_true rfl) ?_
  refine TW.sreg ?_
  refine WL.op rfl rfl rfl (Go.Proofs.Ythdkmjbeemfbbaa.W.quiet_assign rfl rfl) ?_
  refine WL.nil ?_
  refine TW.sreg ?_
  refine WL.op rfl rfl rfl (Go.Proofs.Ythdkmjbeemfbbaa.W.quiet_move rfl rfl) ?_
  refine O.nck rfl rfl rfl rfl rfl ?_
  refine WL.op rfl rfl rfl (Go.Proofs.Ythdkmjbeemfbbaa.W.quiet_field rfl rfl (fun W => (qa_irrun_machine_0 W _ _))) ?_
  refine WL.op rfl rfl rfl (Go.Proofs.Ythdkmjbeemfbbaa.W.quiet_field rfl rfl (fun W => (qa_api_Outcome_1 W _ _))) ?_
  refine WL.ld rfl rfl rfl rfl rfl (ql_int _ _ _ (hm.cell (j := 1) rfl)) ?_
  refine WL.op rfl rfl rfl (Go.Proofs.Ythdkmjbeemfbbaa.W.quiet_bin rfl rfl rfl (fun W => qb_add_int W _ _ _ _ (by omega) (by omega))) ?_
  refine O.nck rfl rfl rfl rfl rfl ?_
  refine WL.op rfl rfl rfl (Go.Proofs.Ythdkmjbeemfbbaa.W.quiet_field rfl rfl (fun W => (qa_irrun_machine_0 W _ _))) ?_
  refine WL.op rfl rfl rfl (Go.Proofs.Ythdkmjbeemfbbaa.W.quiet_field rfl rfl (fun W => (qa_api_Outcome_1 W _ _))) ?_
  refine O.storeR rfl rfl rfl rfl rfl (qsF_int w _ 1 _ _ _ _ hm rfl) ?_
  rintro wa1 ⟨fa1, hmx⟩
  replace hr := hr.frM hc hm fa1
  clear hm
  have hm := hmx
  clear hmx
  refine WL.nil ?_
  refine TW.seq ?_
  refine Q.sreg (C := fun W => Fr (fun _ => False) wa1 W) (by kernel_rfl) (by kernel_rfl) (fun W h => h.drewN 1) (Fr.refl _ _) ?_
  refine W.op rfl rfl rfl (Go.Proofs.Ythdkmjbeemfbbaa.W.quiet_move rfl rfl) ?_
  refine W.op rfl rfl rfl (Q.nck rfl rfl) ?_
  refine W.op rfl rfl rfl (Go.Proofs.Ythdkmjbeemfbbaa.W.quiet_field rfl rfl (fun W => (qa_irrun_machine_0 W _ _))) ?_
  refine W.op rfl rfl rfl (Go.Proofs.Ythdkmjbeemfbbaa.W.quiet_field rfl rfl (fun W => (qa_api_Outcome_1 W _ _))) ?_
  refine W.op rfl rfl rfl (Go.Proofs.Ythdkmjbeemfbbaa.W.quiet_load rfl rfl (fun W hW => (ql_int _ _ _ ((hm.fr hW id).cell (j := 1) rfl)))) ?_
  refine W.op rfl rfl rfl (Go.Proofs.Ythdkmjbeemfbbaa.W.quiet_move rfl rfl) ?_
  refine W.op rfl rfl rfl (Q.nck rfl rfl) ?_
  refine W.op rfl rfl rfl (Go.Proofs.Ythdkmjbeemfbbaa.W.quiet_field rfl rfl (fun W => (qa_irrun_machine_2 W _ _))) ?_
  refine W.op rfl rfl rfl (Go.Proofs.Ythdkmjbeemfbbaa.W.quiet_load rfl rfl (fun W hW => (ql_s_uint32 _ _ _ _ _ ((hm.fr hW id).cell (j := 8) rfl)))) ?_
  refine W.op rfl rfl rfl (Q.len rfl rfl (fun W => (qn_s_uint32 _ _ _ _))) ?_
  refine W.op rfl rfl rfl (Go.Proofs.Ythdkmjbeemfbbaa.W.quiet_bin rfl rfl rfl (fun W => qb_gtr_int W _ _ _ _)) ?_
  refine Q.split (fun hb => ?_) (fun hb => ?_)
  · skip
    refine Q.nil (T.tw fun wq1 fq1 => ?_)
    replace hm := hm.fr fq1 id
    replace hr := hr.fr0 hc fq1
    refine TW.cond rfl (fun _ => ?_) (fun hb => by cases hb)
    refine TW.sreg ?_
    refine WL.op rfl rfl rfl (Go.Proofs.Ythdkmjbeemfbbaa.W.quiet_assign rfl rfl) ?_
    refine WL.nil ?_
    refine TW.rt ?_
    refine Xw.thn (by simp) ?_
    refine bodyw_ret rfl rfl ?_
    refine ⟨?_, hm, hr.as _ rfl rfl rfl rfl⟩
    unfold rInp
    rw [if_neg (by have := of_decide_eq_true hb; omega)]
  · skip
    have hlt : x.ins < c.inp.length := by have := of_decide_eq_false hb; omega
    obtain ⟨k, hk⟩ : ∃ k : Nat, x.ins = (k : Int) := ⟨x.ins.toNat, by omega⟩
    have hkl : k < c.inp.length := by omega
    obtain ⟨g, o, hia, hin⟩ := hc.inp k hkl
    refine Q.nil (T.tw fun wq2 fq2 => ?_)
    replace hm := hm.fr fq2 id
    replace hr := hr.fr0 hc fq2
    refine TW.cond rfl (fun hb => by cases hb) (fun _ => ?_)
    refine TW.skip ?_
    refine Q.sreg (C := fun W => Fr (fun _ => False) wq2 W) (by kernel_rfl) (by kernel_rfl) (fun W h => h.drewN 1) (Fr.refl _ _) ?_
    refine W.op rfl rfl rfl (Go.Proofs.Ythdkmjbeemfbbaa.W.quiet_move rfl rfl) ?_
    refine W.op rfl rfl rfl (Q.nck rfl rfl) ?_
    refine W.op rfl rfl rfl (Go.Proofs.Ythdkmjbeemfbbaa.W.quiet_field rfl rfl (fun W => (qa_irrun_machine_2 W _ _))) ?_
    refine W.op rfl rfl rfl (Go.Proofs.Ythdkmjbeemfbbaa.W.quiet_load rfl rfl (fun W hW => ((ql_s_uint32 _ _ _ _ _ ((hm.fr hW id).cell (j := 8) rfl)).trans (by rw [hia])))) ?_
    refine W.op rfl rfl rfl (Go.Proofs.Ythdkmjbeemfbbaa.W.quiet_move rfl rfl) ?_
    refine W.op rfl rfl rfl (Q.nck rfl rfl) ?_
    refine W.op rfl rfl rfl (Go.Proofs.Ythdkmjbeemfbbaa.W.quiet_field rfl rfl (fun W => (qa_irrun_machine_0 W _ _))) ?_
    refine W.op rfl rfl rfl (Go.Proofs.Ythdkmjbeemfbbaa.W.quiet_field rfl rfl (fun W => (qa_api_Outcome_1 W _ _))) ?_
    refine W.op rfl rfl rfl (Go.Proofs.Ythdkmjbeemfbbaa.W.quiet_load rfl rfl (fun W hW => (ql_int _ _ _ ((hm.fr hW id).cell (j := 1) rfl)))) ?_
    refine W.op rfl rfl rfl (Go.Proofs.Ythdkmjbeemfbbaa.W.quiet_bin rfl rfl rfl (fun W => (qb_sub_int W _ _ _ _ (by omega) (by omega)).trans (by rw [show x.ins + 1 - 1 = (k : Int) by omega]))) ?_
    refine W.op rfl rfl rfl (Go.Proofs.Ythdkmjbeemfbbaa.W.quiet_index rfl rfl rfl (fun W => (qi_s_uint32 _ _ _ _ _ _ (by omega)))) ?_
    refine W.op rfl rfl rfl (Go.Proofs.Ythdkmjbeemfbbaa.W.quiet_load rfl rfl (fun W hW => (ql_uint32 _ _ _ (hW.cell (hr.f0.cell hin id) id)))) ?_
    refine W.op rfl rfl rfl (Go.Proofs.Ythdkmjbeemfbbaa.W.quiet_assign rfl rfl) ?_
    refine Q.nil (T.tw fun wq3 fq3 => ?_)
    replace hm := hm.fr fq3 id
    replace hr := hr.fr0 hc fq3
    refine TW.rt ?_
    refine bodyw_ret rfl rfl ?_
    refine ⟨?_, hm, hr.as _ rfl rfl rfl rfl⟩
    unfold rInp
    rw [if_pos hlt, show x.ins.toNat = k by omega]
end Go.Proofs.Ythdkmjbeemfbbaa
