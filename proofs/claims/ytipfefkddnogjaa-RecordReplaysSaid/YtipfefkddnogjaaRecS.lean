/-
  The walk of the law on replays.
-/
import Derived.Test.YtipfefkddnogjaaRecR
import Derived.Deep.RegionHeld3
namespace Go.Proofs.Ytipfefkddnogjaa
open Go.RowKit Go.Maps
set_option linter.unusedVariables false
set_option linter.unusedSimpArgs false

set_option maxRecDepth 100000 in
set_option maxHeartbeats 8000000 in
theorem rep_idle (a : Option Addr) (n c : Nat) (f t v : Int) (h : 300 < (n : Int) ∨ ((n : Int) ≤ 300 ∧ f < 0) ∨ ((n : Int) ≤ 300 ∧ 0 ≤ f ∧ t ≤ f) ∨ ((n : Int) ≤ 300 ∧ 0 ≤ f ∧ f < t ∧ (n : Int) < t)) (hn : n ≤ 9223372036854775807) (w : World) :
    Calls Try.prog 10 #[.agg #[.slice a n c, .int .i64 f, .int .i64 t, .int .u32 v]] w fun e w' => e = .returned (.bool true) ∧ w.grownBy w' none := by
  have G0 := Lib.hid (World.grownBy_alloc w (.cells #[.slice a n c, .int .i64 f, .int .i64 t, .int .u32 v] 68) none)
  have z0 := row_cell w #[.slice a n c, .int .i64 f, .int .i64 t, .int .u32 v] 68 0 _ rfl
  have z1 := row_cell w #[.slice a n c, .int .i64 f, .int .i64 t, .int .u32 v] 68 1 _ rfl
  have z2 := row_cell w #[.slice a n c, .int .i64 f, .int .i64 t, .int .u32 v] 68 2 _ rfl
  have z3 := row_cell w #[.slice a n c, .int .i64 f, .int .i64 t, .int .u32 v] 68 3 _ rfl
  rcases h with h | ⟨h, h2⟩ | ⟨h, h2, h3⟩ | ⟨h, h2, h3, h4⟩
  all_goals
    go_enter Try.func10, Try.ntmps10
    go_wp2
    generalize w.alloc (.cells #[.slice a n c, .int .i64 f, .int .i64 t, .int .u32 v] 68) = w2 at *
    generalize w.heap.size = b at *
    go_quiet (fail)
    go_wp2_with (go_at_call 28; (with_reducible refine (c28 _).mono ?_); rintro e w1 ⟨rfl, hg⟩; have HG := Lib.hid hg; clear hg)
    go_ret
    exact ⟨rfl, (by_drewN G0.out _).trans HG.out⟩
theorem keepB {W w1 w2 : World} {ad : Addr} {x : Value} (h : W.grownBy w1 none ∧ w1.cell? ad = some x) (hg : w1.grownBy w2 none) : W.grownBy w2 none ∧ w2.cell? ad = some x := ⟨h.1.trans hg, hg.cell h.2 (by simp)⟩
theorem keepB1 {W w1 : World} {ad : Addr} {x : Value} (h : W.grownBy w1 none ∧ w1.cell? ad = some x) : W.grownBy w1 none := h.1
set_option maxRecDepth 100000 in
set_option maxHeartbeats 32000000 in
theorem rep_main (a : Option Addr) (c : Nat) (l : List Rc) (f t v : Int) (h3 : (l.length : Int) ≤ 300) (hf0 : 0 ≤ f) (hft : f < t) (htl : t ≤ (l.length : Int)) (hv0 : 0 ≤ v) (hv1 : v ≤ 4294967295) (hr : Rcs l) (w : World) (hat : RecAt w a l) :
    Calls Try.prog 10 #[.agg #[.slice a l.length c, .int .i64 f, .int .i64 t, .int .u32 v]] w fun e w' => e = .returned (.bool true) ∧ w.grownBy w' none := by
  obtain ⟨i66, hi, hz0, hz1, hz2⟩ := info_parts info66
  have HI := Lib.hid hi
  have HZ0 := Lib.hid hz0
  have HZ1 := Lib.hid hz1
  have HZ2 := Lib.hid hz2
  obtain ⟨fr, rfl⟩ : ∃ n : Nat, f = n := ⟨f.toNat, by omega⟩
  obtain ⟨to, rfl⟩ : ∃ n : Nat, t = n := ⟨t.toNat, by omega⟩
  have HA := Lib.hid hat
  have HR := Lib.hid hr
  obtain ⟨bF, oF, rfl, cF0, cF1⟩ := hat fr (by omega)
  have HF0 := Lib.hid cF0
  have HF1 := Lib.hid cF1
  have hroF := rc_at hr (show fr < l.length by omega)
  clear hi hz0 hz1 hz2 hat hr cF0 cF1
  generalize ha : (some (⟨bF, oF, none⟩ : Addr)) = a at *
  have Ha := Lib.hid ha
  clear ha
  have G0 := Lib.hid (World.grownBy_alloc w (.cells #[.slice a l.length c, .int .i64 fr, .int .i64 to, .int .u32 v] 68) none)
  have z0 := row_cell w #[.slice a l.length c, .int .i64 fr, .int .i64 to, .int .u32 v] 68 0 _ rfl
  have z1 := row_cell w #[.slice a l.length c, .int .i64 fr, .int .i64 to, .int .u32 v] 68 1 _ rfl
  have z2 := row_cell w #[.slice a l.length c, .int .i64 fr, .int .i64 to, .int .u32 v] 68 2 _ rfl
  have z3 := row_cell w #[.slice a l.length c, .int .i64 fr, .int .i64 to, .int .u32 v] 68 3 _ rfl
  have hd1 : decide (300 < (l.length : Int)) = false := decide_eq_false (by omega)
  have hd2 : decide ((fr : Int) < 0) = false := decide_eq_false (by omega)
  have hd3 : decide (to ≤ fr) = false := decide_eq_false (by omega)
  have hd4 : decide (l.length < to) = false := decide_eq_false (by omega)
  go_enter Try.func10, Try.ntmps10
  go_wp2
  generalize w.alloc (.cells #[.slice a l.length c, .int .i64 fr, .int .i64 to, .int .u32 v] 68) = w2 at *
  generalize hbx : w.heap.size = bx at *
  have HBX := Lib.hid hbx
  clear hbx
  go_quiet (fail)
  have HT0 : Hid (TwoRel w (w2.drewN nq) (l.take 0) (l.take 0) (.slice none 0 0) (.slice none 0 0)) := Lib.hid (two_start (by_drewN G0.out _))
  clear z0 z1 z2 z3
  go_wp2
  go_loopw [7, 8, 9] (fun v7 v8 i wr => ∃ k : Nat, k ≤ to ∧ i = .int .i64 k ∧ Hid (TwoRel w wr (l.take k) (l.take k) v7 v8)) (fun _ _ i _ => to - (intOf i).toNat)
  case atStart => exact ⟨0, by omega, rfl, HT0⟩
  case round =>
    obtain ⟨k, hk, rfl, HT⟩ := hrel
    clear HT0
    by_cases hlt : k < to
    · have hts := take_snoc (l := l) (k := k) (by omega)
      obtain ⟨b, o, ea, c0, c1⟩ := recAt_by HA.out HT.out.by_ k (by omega)
      have hlk : (l.take k).length < 1000000 := by have := List.length_take_le k l; omega
      have C1 := Lib.hid c1
      have C0 := Lib.hid c0
      have h1 : (k : Int) < l.length := by omega
      have h2 : (0 : Int) ≤ k := by omega
      have h4 : (k : Int) < to := by omega
      have HS := Lib.hid hts
      clear c0 c1 hts
      subst ea
      generalize hrk : l.getD k (0, 0) = r at *
      have HRk := Lib.hid hrk
      clear hrk
      generalize hacc : l.take k = acc at *
      clear hacc
      have c0 := C0.out
      have c1 := C1.out
      go_wp2_with (first
        | (at_builtin; refine wpList_append_own_at _ rfl _ _ 50 rfl w.heap.size 66 i66 (.agg #[.int .u32 0, .int .u32 0]) 2 8 Try.underlying50 HI.out HZ0.out HZ1.out HZ2.out rfl (by decide) u7 (acc).length (recCells (acc)) rfl (by exact HT.out.row7.alloc _) ⟨wr.heap.size, 0, none⟩ 1 1 [.int .u32 r.1, .int .u32 r.2] rfl rfl (news_cell wr 66 (.int .u32 r.1) (.int .u32 r.2)) (by simp [Value.oneCell']) (by unfold maxLen; omega) (by omega) (by have := HT.out.by_.size; simp; omega) ?_
           intro v7' w3 ho3 hg3 _ hl3
           have HT3 := Lib.hid (step7 (r := (r.1, r.2)) HT.out ho3 hg3 hl3); clear ho3 hg3 hl3
           obtain ⟨d0, d1⟩ := recAt_same (b' := b) (o' := o) (recAt_by HA.out HT3.out.by_) (show k < l.length by omega)
           rw [HRk.out] at d0 d1)
        | (at_builtin; refine wpList_append_own_at _ rfl _ _ 50 rfl w.heap.size 66 i66 (.agg #[.int .u32 0, .int .u32 0]) 2 8 Try.underlying50 HI.out HZ0.out HZ1.out HZ2.out rfl (by decide) u8 (acc).length (recCells (acc)) rfl (by exact HT3.out.row8.alloc _) ⟨w3.heap.size, 0, none⟩ 1 1 [.int .u32 r.1, .int .u32 r.2] rfl rfl (news_cell w3 66 (.int .u32 r.1) (.int .u32 r.2)) (by simp [Value.oneCell']) (by unfold maxLen; omega) (by omega) (by have := HT3.out.by_.size; simp; omega) ?_
           intro v8' w4 ho3 hg3 _ hl3
           have HT4 := Lib.hid (step8 (r := (r.1, r.2)) HT3.out ho3 hg3 hl3); clear ho3 hg3 hl3))
      go_roundw
      case rel => exact ⟨k + 1, by omega, by go_num, Lib.hid (by rw [HS.out]; exact HT4.out)⟩
      case measure => simp [intOf]; omega
    · have hk4 : to = k := by omega
      subst hk4
      have ea := Ha.out
      subst ea
      clear Ha
      have hRA := Lib.hid (recAt_same (b' := bF) (o' := oF) (recAt_by HA.out HT.out.by_) (show fr < l.length by omega))
      have g1 : (fr : Int) < l.length := by omega
      have hlk : (l.take to).length < 1000000 := by have := List.length_take_le to l; omega
      have KO := Lib.hid (fun ho => valN_ord (l := l) (f := fr) (n := to) (by omega) (by omega) ho)
      have KN : Hid (hasN (l.take to) (l.getD fr (0, 0)).1 = true) := Lib.hid ((hasN_take (by omega)).2 ⟨fr, by omega, rfl⟩)
      have hsame := Lib.hid (fun w (h : RecAt w (some ⟨bF, oF, none⟩) l) => recAt_same (b' := bF) (o' := oF) h (show fr < l.length by omega))
      have hrF := Lib.hid hroF
      clear hroF HF0 HF1
      generalize l.getD fr (0, 0) = rF at *
      have S1 : Hid (withK l to rF to = l.take to ++ [rF]) := Lib.hid (withK_start _ _ _)
      have S2 : Hid (withK l to (rF.1, v) to = l.take to ++ [(rF.1, v)]) := Lib.hid (withK_start _ _ _)
      generalize hacc : l.take to = acc at *
      have HACC := Lib.hid hacc
      clear hacc
      obtain ⟨d0, d1⟩ := hRA.out
      clear hRA
      go_wp2_with (first
        | (at_builtin; refine wpList_append_own_at _ rfl _ _ 50 rfl w.heap.size 66 i66 (.agg #[.int .u32 0, .int .u32 0]) 2 8 Try.underlying50 HI.out HZ0.out HZ1.out HZ2.out rfl (by decide) u7 (acc).length (recCells (acc)) rfl (by exact HT.out.row7.alloc _) ⟨wr.heap.size, 0, none⟩ 1 1 [.int .u32 rF.1, .int .u32 rF.2] rfl rfl (news_cell wr 66 (.int .u32 rF.1) (.int .u32 rF.2)) (by simp [Value.oneCell']) (by unfold maxLen; omega) (by omega) (by have := HT.out.by_.size; simp; omega) ?_
           intro v7' w3 ho3 hg3 _ hl3
           have HT3 := Lib.hid (step7 (r := (rF.1, rF.2)) HT.out ho3 hg3 hl3); clear ho3 hg3 hl3
           obtain ⟨d0, d1⟩ := hsame.out _ (recAt_by HA.out HT3.out.by_))
        | (at_builtin; refine wpList_append_own_at _ rfl _ _ 50 rfl w.heap.size 66 i66 (.agg #[.int .u32 0, .int .u32 0]) 2 8 Try.underlying50 HI.out HZ0.out HZ1.out HZ2.out rfl (by decide) u8 (acc).length (recCells (acc)) rfl (by exact HT3.out.row8.alloc _) ⟨w3.heap.size, 0, none⟩ 1 1 [.int .u32 rF.1, .int .u32 v] rfl rfl (news_cell w3 66 (.int .u32 rF.1) (.int .u32 v)) (by simp [Value.oneCell']) (by unfold maxLen; omega) (by omega) (by have := HT3.out.by_.size; simp; omega) ?_
           intro v8' w4 ho3 hg3 _ hl3
           have HT4 := Lib.hid (step8 (r := (rF.1, v)) HT3.out ho3 hg3 hl3); clear ho3 hg3 hl3))
      clear d0 d1
      have HT5 : Hid (TwoRel w w4 (withK l to rF to) (withK l to (rF.1, v) to) v7' v8') := Lib.hid (by rw [S1.out, S2.out]; exact HT4.out)
      clear HT3 HT4 S1 S2
      go_loopw [7, 8, 10] (fun v7 v8 i wr => ∃ k : Nat, to ≤ k ∧ k ≤ l.length ∧ i = .int .i64 k ∧ Hid (TwoRel w wr (withK l to rF k) (withK l to (rF.1, v) k) v7 v8)) (fun _ _ i _ => l.length - (intOf i).toNat)
      case atStart => exact ⟨to, Nat.le_refl _, by omega, rfl, HT5⟩
      case round =>
        obtain ⟨k, hk0, hk, rfl, HT⟩ := hrel
        clear HT5
        by_cases hlt2 : k < l.length
        · have hts1 := Lib.hid (withK_step (l := l) (n := to) (r := rF) hk0 hlt2)
          have hts2 := Lib.hid (withK_step (l := l) (n := to) (r := (rF.1, v)) hk0 hlt2)
          have hlk1 : (withK l to rF k).length < 1000000 := by have := length_withK l to rF k; omega
          have hlk2 : (withK l to (rF.1, v) k).length < 1000000 := by have := length_withK l to (rF.1, v) k; omega
          have hsm := Lib.hid (fun w (h : RecAt w (some ⟨bF, oF, none⟩) l) => recAt_same (b' := bF) (o' := oF) h hlt2)
          have h1 : (k : Int) < l.length := by omega
          have h2 : (0 : Int) ≤ k := by omega
          generalize l.getD k (0, 0) = r at *
          generalize withK l to rF k = am at *
          generalize withK l to (rF.1, v) k = ao at *
          obtain ⟨d0, d1⟩ := hsm.out _ (recAt_by HA.out HT.out.by_)
          go_wp2_with (first
            | (at_builtin; refine wpList_append_own_at _ rfl _ _ 50 rfl w.heap.size 66 i66 (.agg #[.int .u32 0, .int .u32 0]) 2 8 Try.underlying50 HI.out HZ0.out HZ1.out HZ2.out rfl (by decide) u7 (am).length (recCells (am)) rfl (by exact HT.out.row7.alloc _) ⟨wr.heap.size, 0, none⟩ 1 1 [.int .u32 r.1, .int .u32 r.2] rfl rfl (news_cell wr 66 (.int .u32 r.1) (.int .u32 r.2)) (by simp [Value.oneCell']) (by unfold maxLen; omega) (by omega) (by have := HT.out.by_.size; simp; omega) ?_
               intro v7' w3 ho3 hg3 _ hl3
               have HT3 := Lib.hid (step7 (r := (r.1, r.2)) HT.out ho3 hg3 hl3); clear ho3 hg3 hl3
               obtain ⟨d0, d1⟩ := hsm.out _ (recAt_by HA.out HT3.out.by_))
            | (at_builtin; refine wpList_append_own_at _ rfl _ _ 50 rfl w.heap.size 66 i66 (.agg #[.int .u32 0, .int .u32 0]) 2 8 Try.underlying50 HI.out HZ0.out HZ1.out HZ2.out rfl (by decide) u8 (ao).length (recCells (ao)) rfl (by exact HT3.out.row8.alloc _) ⟨w3.heap.size, 0, none⟩ 1 1 [.int .u32 r.1, .int .u32 r.2] rfl rfl (news_cell w3 66 (.int .u32 r.1) (.int .u32 r.2)) (by simp [Value.oneCell']) (by unfold maxLen; omega) (by omega) (by have := HT3.out.by_.size; simp; omega) ?_
               intro v8' w4 ho3 hg3 _ hl3
               have HT4 := Lib.hid (step8 (r := (r.1, r.2)) HT3.out ho3 hg3 hl3); clear ho3 hg3 hl3))
          go_roundw
          case rel => exact ⟨k + 1, by omega, by omega, by go_num, Lib.hid (by rw [hts1.out, hts2.out]; exact HT4.out)⟩
          case measure => simp [intOf]; omega
        · have hk4 : k = l.length := by omega
          subst hk4
          have hT := HT.out
          rw [withK_end, withK_end] at hT
          clear HT
          rw [← HACC.out] at KN
          rw [← HACC.out] at KO
          have M1 : Hid (firsts (withR l to rF) = firsts l) := Lib.hid (firsts_with KN.out)
          have M2 : Hid ((withR l to rF).length = l.length + 1) := Lib.hid (length_with _ _ _ (by omega))
          have M3 : Hid (Rcs (withR l to rF)) := Lib.hid (rcs_with HR.out hrF.out)
          have M4 : Hid (ordP l = true → ordP (withR l to rF) = true) := Lib.hid (fun ho => by rw [ordP_with KN.out ho, (KO.out ho).2]; simp)
          have O2 : Hid ((withR l to (rF.1, v)).length = l.length + 1) := Lib.hid (length_with _ _ _ (by omega))
          have O3 : Hid (Rcs (withR l to (rF.1, v))) := Lib.hid (rcs_with HR.out ⟨hrF.out.1, hv0, hv1⟩)
          have O4 : Hid (ordP l = true → ordP (withR l to (rF.1, v)) = (v == rF.2)) := Lib.hid (fun ho => by
            rw [ordP_with (r := (rF.1, v)) KN.out ho]
            have := (KO.out ho).2
            simp only
            rw [this, Bool.eq_iff_iff, beq_iff_eq, beq_iff_eq]
            exact eq_comm)
          clear KN KO hlk
          generalize withR l to rF = lm at *
          generalize withR l to (rF.1, v) = lo at *
          obtain ⟨a7, c7, e7, h7⟩ := recAt_own hT.row7
          obtain ⟨a8, c8, e8, h8⟩ := recAt_own hT.row8
          subst e7 e8
          have HB := Lib.hid hT.by_
          have H7 := Lib.hid h7
          have H8 := Lib.hid h8
          clear hT h7 h8
          have hl : l.length < 1000000 := by omega
          have hlm : lm.length < 1000000 := by have := M2.out; omega
          have hlo : lo.length < 1000000 := by have := O2.out; omega
          have hf := length_firsts l
          have K30 : ∀ w, RecAt w (some ⟨bF, oF, none⟩) l → Calls Try.prog 30 #[.slice (some ⟨bF, oF, none⟩) l.length c] w (FirstP l w) := fun w h => c30 _ c l hl HR.out w h
          have K30m : ∀ w, RecAt w a7 lm → Calls Try.prog 30 #[.slice a7 lm.length c7] w (FirstP l w) := fun w h => by
            have := c30 a7 c7 lm hlm M3.out w h
            unfold FirstP at this ⊢
            rw [M1.out] at this; exact this
          have K33 : ∀ w, RecAt w (some ⟨bF, oF, none⟩) l → Calls Try.prog 33 #[.slice (some ⟨bF, oF, none⟩) l.length c] w fun e w' => e = .returned (.int .i64 ((l.length : Int) - (firsts l).length)) ∧ w.grownBy w' none := fun w h => c33 _ c l hl HR.out w h
          have K33m : ∀ w, RecAt w a7 lm → Calls Try.prog 33 #[.slice a7 lm.length c7] w fun e w' => e = .returned (.int .i64 ((l.length : Int) - (firsts l).length + 1)) ∧ w.grownBy w' none := fun w h => by
            have := c33 a7 c7 lm hlm M3.out w h
            have e : ((lm.length : Int) - (firsts lm).length) = (l.length : Int) - (firsts l).length + 1 := by rw [M1.out]; have := M2.out; omega
            rw [e] at this
            exact this
          have K34 : ∀ w, RecAt w (some ⟨bF, oF, none⟩) l → Calls Try.prog 34 #[.slice (some ⟨bF, oF, none⟩) l.length c] w fun e w' => e = .returned (.bool (ordP l)) ∧ w.grownBy w' none := fun w h => c34 _ c l hl HR.out w h
          have K34m := Lib.hid (fun w (h : RecAt w a7 lm) => c34 a7 c7 lm hlm M3.out w h)
          have K34o := Lib.hid (fun w (h : RecAt w a8 lo) => c34 a8 c8 lo hlo O3.out w h)
          have H30 := Lib.hid K30
          have H30m := Lib.hid K30m
          have H33 := Lib.hid K33
          have H33m := Lib.hid K33m
          have H34 := Lib.hid K34
          clear K30 K30m K33 K33m K34 M1 M2 M3 O2 O3
          go_wp2_with (first
            | (go_at_call 30; (with_reducible refine (H30.out _ (by exact recAt_by HA.out HB.out)).mono ?_); rintro e w5 ⟨a5, c5, rfl, h5, hg⟩; have H5 := Lib.hid h5; replace H7 := Lib.hid (recAt_by H7.out hg); replace H8 := Lib.hid (recAt_by H8.out hg); replace HB := Lib.hid (HB.out.trans hg); clear hg h5)
            | (go_at_call 30; (with_reducible refine (H30m.out _ (by exact H7.out)).mono ?_); rintro e w6 ⟨a6, c6, rfl, h6, hg⟩; have H6 := Lib.hid h6; replace H5 := Lib.hid (recAt_by H5.out hg); replace H7 := Lib.hid (recAt_by H7.out hg); replace H8 := Lib.hid (recAt_by H8.out hg); replace HB := Lib.hid (HB.out.trans hg); clear hg h6)
            | (go_at_call 33; (with_reducible refine (H33m.out _ (by exact H7.out)).mono ?_); rintro e w7 ⟨rfl, hg⟩; replace H6 := Lib.hid (recAt_by H6.out hg); replace H5 := Lib.hid (recAt_by H5.out hg); replace H7 := Lib.hid (recAt_by H7.out hg); replace H8 := Lib.hid (recAt_by H8.out hg); replace HB := Lib.hid (HB.out.trans hg); clear hg)
            | (go_at_call 33; (with_reducible refine (H33.out _ (by exact recAt_by HA.out HB.out)).mono ?_); rintro e w8 ⟨rfl, hg⟩; replace H6 := Lib.hid (recAt_by H6.out hg); replace H5 := Lib.hid (recAt_by H5.out hg); replace H7 := Lib.hid (recAt_by H7.out hg); replace H8 := Lib.hid (recAt_by H8.out hg); replace HB := Lib.hid (HB.out.trans hg); clear hg))
          clear H30 H30m H33 H33m
          generalize firsts l = fl at *
          have HB0 := Lib.hid (by_refl w8)
          go_loopw [13] (fun q wr => ∃ k : Nat, k ≤ fl.length ∧ q = .int .i64 k ∧ Hid (w8.grownBy wr none)) (fun q _ => fl.length - (intOf q).toNat)
          case atStart => exact ⟨0, by omega, rfl, HB0⟩
          case round =>
            obtain ⟨k, hk, rfl, HW⟩ := hrel
            clear HB0
            by_cases hlt3 : k < fl.length
            · obtain ⟨b5, o5, rfl, x0, x1⟩ := recAt_by H5.out HW.out k hlt3
              obtain ⟨b6, o6, rfl, y0, y1⟩ := recAt_by H6.out HW.out k hlt3
              have h1 : (k : Int) < fl.length := by omega
              have h2 : (0 : Int) ≤ k := by omega
              generalize fl.getD k (0, 0) = r at *
              go_wp2
              go_quiet (fail)
              go_wp2
              go_roundw
              case rel => exact ⟨k + 1, by omega, by go_num, Lib.hid (by_drewN HW.out _)⟩
              case measure => simp [intOf]; omega
            · have hk4 : fl.length = k := by omega
              have HBw := Lib.hid (HB.out.trans HW.out)
              replace H7 := Lib.hid (recAt_by H7.out HW.out)
              replace H8 := Lib.hid (recAt_by H8.out HW.out)
              clear H5 H6 HB HW
              subst hk4
              cases ho : ordP l
              · have J34 : ∀ w, RecAt w (some ⟨bF, oF, none⟩) l → Calls Try.prog 34 #[.slice (some ⟨bF, oF, none⟩) l.length c] w fun e w' => e = .returned (.bool false) ∧ w.grownBy w' none := fun w h => by rw [← ho]; exact H34.out w h
                have J := Lib.hid J34
                clear J34 H34 ho
                go_wp2_with (first
                  | (go_at_call 34; (with_reducible refine (J.out _ (by exact recAt_by HA.out HBw.out)).mono ?_); rintro e w9 ⟨rfl, hg⟩; replace HBw := Lib.hid (HBw.out.trans hg); clear hg)
                  | (go_at_call 28; (with_reducible refine (c28 _).mono ?_); rintro e w10 ⟨rfl, hg⟩; replace HBw := Lib.hid (HBw.out.trans hg); clear hg))
                go_ret
                exact ⟨rfl, HBw.out⟩
              · have J34 : ∀ w, RecAt w (some ⟨bF, oF, none⟩) l → Calls Try.prog 34 #[.slice (some ⟨bF, oF, none⟩) l.length c] w fun e w' => e = .returned (.bool true) ∧ w.grownBy w' none := fun w h => by rw [← ho]; exact H34.out w h
                have Jm : ∀ w, RecAt w a7 lm → Calls Try.prog 34 #[.slice a7 lm.length c7] w fun e w' => e = .returned (.bool true) ∧ w.grownBy w' none := fun w h => by have := K34m.out w h; rw [M4.out ho] at this; exact this
                have Jo : ∀ w, RecAt w a8 lo → Calls Try.prog 34 #[.slice a8 lo.length c8] w fun e w' => e = .returned (.bool (v == rF.2)) ∧ w.grownBy w' none := fun w h => by have := K34o.out w h; rw [O4.out ho] at this; exact this
                have J := Lib.hid J34
                have JM := Lib.hid Jm
                have JO := Lib.hid Jo
                clear J34 Jm Jo H34 K34m K34o M4 O4 ho
                go_wp2_with (first
                  | (go_at_call 34; (with_reducible refine (J.out _ (by exact recAt_by HA.out HBw.out)).mono ?_); rintro e w9 ⟨rfl, hg⟩; replace H7 := Lib.hid (recAt_by H7.out hg); replace H8 := Lib.hid (recAt_by H8.out hg); replace HBw := Lib.hid (HBw.out.trans hg); clear hg))
                have hc := (hsame.out _ (recAt_by HA.out HBw.out)).2
                have B0 : w9.grownBy w9.drew none := ⟨rfl, rfl, rfl, Nat.le_refl _, fun _ _ _ => rfl⟩
                have JM9 : Hid (∀ w', w9.grownBy w' none → Calls Try.prog 34 #[.slice a7 lm.length c7] w' fun e w'' => e = .returned (.bool true) ∧ w'.grownBy w'' none) := Lib.hid (fun w' h => JM.out w' (recAt_by H7.out h))
                have JO9 : Hid (∀ w', w9.grownBy w' none → Calls Try.prog 34 #[.slice a8 lo.length c8] w' fun e w'' => e = .returned (.bool (v == rF.2)) ∧ w'.grownBy w'' none) := Lib.hid (fun w' h => JO.out w' (recAt_by H8.out h))
                clear H7 H8 JM JO J
                go_region_held3 (fun w' => w9.grownBy w' none ∧ w'.cell? ⟨bF, oF + fr * 2 + 1, none⟩ = some (.int .u32 rF.2))
                    (first | exact ⟨B0, hc⟩ | assumption | exact keepB (by assumption) (by assumption))
                    (first
                      | (go_at_call 28; refine (c28 _).mono ?_; rintro e w' ⟨rfl, hg⟩)
                      | (go_at_call 34; (with_reducible refine (JM9.out _ (by exact keepB1 (by assumption))).mono ?_); rintro e w' ⟨rfl, hg⟩)
                      | (go_at_call 34; (with_reducible refine (JO9.out _ (by exact keepB1 (by assumption))).mono ?_); rintro e w' ⟨rfl, hg⟩))
                have HG : Hid (w9.grownBy w' none) := Lib.hid (keepB1 (by assumption))
                go_wp2
                go_ret
                exact ⟨rfl, HBw.out.trans HG.out⟩
end Go.Proofs.Ytipfefkddnogjaa
