/-
  The contract of Run (layer 3) over a machine that lies in a world.
-/
import Derived.Test.YtipfefkddnogjaaDevDd
import Derived.Test.YtipfefkddnogjaaDevEe
namespace Go.Proofs.Ytipfefkddnogjaa
open Go.RowKit
set_option linter.unusedVariables false
set_option linter.unusedSimpArgs false
def numAt (w : World) (b o : Nat) : Int := match w.cell? ⟨b, o, none⟩ with | some (.int _ q) => q | _ => 0
theorem numAt_of {w : World} {b o : Nat} {k : IntKind} {q : Int} (h : w.cell? ⟨b, o, none⟩ = some (.int k q)) : numAt w b o = q := by unfold numAt; rw [h]
/-- Where the failures' list may lie. -/
def Far (L : Lay) (lv : Value) (w : World) (b : Nat) : Prop := b ≠ L.b ∧ b ≠ L.db ∧ lv.ownBlock ≠ some b ∧ b < w.heap.size
def RunRel (base : Nat) (L : Lay) (lv : Value) (w : World) (n : Int) (l : List Int) (s : MSt) (v : Value) (wr : World) : Prop :=
  ∃ l' s' lv', I64s (Far L lv w) wr v l' ∧ At base wr L lv' s' ∧ Wf base L lv' ∧ Fr (Foot L lv) w wr ∧ (∀ g, lv'.ownBlock = some g → lv.ownBlock = some g ∨ w.heap.size ≤ g) ∧ runE L n l' s' = runE L n l s ∧ (s'.log.length : Int) ≤ s'.c 39
def runMu (L : Lay) (n : Int) (w : World) : Nat := if numAt w L.b 40 = 0 then (n - numAt w L.b 39).toNat + 1 else 0
theorem fail_log {s : MSt} (h : (s.log.length : Int) ≤ s.c 39) : ((failM s).log.length : Int) ≤ (failM s).c 39 := by
  rw [(fail_steps s).1]; exact h
theorem round_log {L : Lay} (hc : CodeOk L) {l : List Int} {s : MSt} (h : (s.log.length : Int) ≤ s.c 39) : ((roundM L l s).2.log.length : Int) ≤ (roundM L l s).2.c 39 := by
  unfold roundM
  split
  · exact adv_log hc h
  · split
    · exact adv_log hc (fail_log h)
    · exact adv_log hc h
theorem I64s.kept {P : Nat → Prop} {F : Nat → Prop} {w w' : World} {v : Value} {l : List Int} (h : I64s P w v l) (hf : Fr F w w') (hn : ∀ b, P b → ¬ F b) : I64s P w' v l := by
  obtain ⟨a, c, e, h1, h2, h3⟩ := h
  refine ⟨a, c, e, h1, h2, h3.imp id ?_⟩
  rintro ⟨b, o, ea, hp, hc⟩
  exact ⟨b, o, ea, hp, fun k hk => hf.cell (hc k hk) (hn b hp)⟩
theorem I64s.cons {P : Nat → Prop} {w : World} {v : Value} {x : Int} {t : List Int} {m : Nat} (h : I64s P w v (x :: t)) (hm : t.length = m) :
    ∃ b o c, v = .slice (some ⟨b, o, none⟩) (m + 1) c ∧ m + 1 ≤ c ∧ c ≤ 9223372036854775807 ∧ w.cell? ⟨b, o, none⟩ = some (.int .i64 x) ∧ Hid (P b ∧ ∀ k, k < (x :: t).length → w.cell? ⟨b, o + k, none⟩ = some (.int .i64 ((x :: t).getD k 0))) := by
  obtain ⟨a, c, rfl, h1, h2, h3⟩ := h
  obtain ⟨b, o, rfl, hp, hc⟩ := h3.resolve_left (by simp)
  have e : (x :: t).length = m + 1 := by simp [hm]
  rw [e] at h1
  exact ⟨b, o, c, by rw [e], h1, h2, hc 0 (by simp), Lib.hid ⟨hp, hc⟩⟩
theorem run_next {base : Nat} {L : Lay} {lv : Value} {w : World} {n : Int} {l : List Int} {s : MSt} {wr w2 : World} {l' : List Int} {s' : MSt} {lv' : Value} (ha : At base wr L lv' s') (hw : Wf base L lv') (hf : Fr (Foot L lv) w wr)
    (hg : ∀ g, lv'.ownBlock = some g → lv.ownBlock = some g ∨ w.heap.size ≤ g) (hr : runE L n l' s' = runE L n l s) (hl : (s'.log.length : Int) ≤ s'.c 39) (hrun : s'.c 40 = 0 ∧ s'.c 39 < n)
    {v : Value} (hI : I64s (Far L lv w) wr v (roundM L l' s').1) (hk : Okay base L lv' wr w2 (roundM L l' s').2) :
    RunRel base L lv w n l s v w2 ∧ runMu L n w2 < runMu L n wr := by
  obtain ⟨lv2, a2, f2, r2, g2⟩ := hk
  constructor
  · refine ⟨_, _, lv2, hI.kept r2 (fun b hb => ?_), a2, f2, hf.trans' r2 (fun j hj hF => ?_), fun g e => ?_, (runE_round hw.ok hrun).symm.trans hr, round_log hw.ok hl⟩
    · rintro (e | e | e)
      · exact hb.1 e
      · exact hb.2.1 e
      · rcases hg _ e with q | q
        · exact hb.2.2.1 q
        · have := hb.2.2.2; omega
    · rcases hF with e | e | e
      · exact .inl e
      · exact .inr (.inl e)
      · rcases hg _ e with q | q
        · exact .inr (.inr q)
        · omega
    · rcases g2 g e with q | q
      · exact hg g q
      · have := hf.size
        exact .inr (by omega)
  · unfold runMu
    rw [numAt_of (ha.num 40 (.inr (by decide))), numAt_of (ha.num 39 (.inr (by decide))), numAt_of (a2.num 40 (.inr (by decide))), numAt_of (a2.num 39 (.inr (by decide))), if_pos hrun.1]
    split
    · rename_i h0
      rcases round_steps hw.ok l' s' with q | q
      · exact absurd h0 q
      · rw [q]; omega
    · omega
theorem Okay.step {base : Nat} {L : Lay} {lv l1 : Value} {w w1 w2 : World} {t : MSt} (r1 : Fr (Foot L lv) w w1) (g1 : ∀ g, l1.ownBlock = some g → lv.ownBlock = some g ∨ w.heap.size ≤ g) (k : Okay base L l1 w1 w2 t) : Okay base L lv w w2 t := by
  obtain ⟨l2, a2, f2, r2, g2⟩ := k
  refine ⟨l2, a2, f2, r1.trans' r2 ?_, fun g hg => ?_⟩
  · rintro j hj (e | e | e)
    · exact .inl e
    · exact .inr (.inl e)
    · rcases g1 j e with h | h
      · exact .inr (.inr h)
      · omega
  · rcases g2 g hg with h | h
    · exact g1 g h
    · have := r1.size
      exact .inr (by omega)
theorem round_nil {L : Lay} {l : List Int} {s : MSt} (h : skipM (s.c 39) l = []) : roundM L l s = ([], advM L s) := by unfold roundM; rw [h]
theorem round_eq {L : Lay} {l t : List Int} {s : MSt} (h : skipM (s.c 39) l = s.c 39 :: t) : roundM L l s = (t, advM L (failM s)) := by unfold roundM; rw [h]; simp
theorem round_ne {L : Lay} {l t : List Int} {x : Int} {s : MSt} (h : skipM (s.c 39) l = x :: t) (hx : x ≠ s.c 39) : roundM L l s = (x :: t, advM L s) := by unfold roundM; rw [h]; simp [hx]
set_option maxRecDepth 100000 in
set_option maxHeartbeats 4000000 in
theorem c21 {base : Nat} {L : Lay} {lv : Value} {s : MSt} {w : World} (h : At base w L lv s) (hw : Wf base L lv) (hl : (s.log.length : Int) ≤ s.c 39) (n : Int) (hn : n ≤ 800000) (v : Value) (l : List Int) (hv : I64s (Far L lv w) w v l) :
    Calls Try.prog 21 #[.pointer (some ⟨L.b, 0, none⟩), .int .i64 n, v] w fun e w' => e = .returned (.int .i64 ((runE L n l s).c 40)) ∧ Okay base L lv w w' (runE L n l s) := by
  have HR0 : Hid (RunRel base L lv w n l s v w) := Lib.hid ⟨l, s, lv, hv, h, hw, Fr.refl _ _, fun g e => .inl e, rfl, hl⟩
  clear h hw hl hv
  obtain ⟨b, hb⟩ : ∃ b, L.b = b := ⟨_, rfl⟩
  rw [hb]
  have HB := Lib.hid hb
  clear hb
  go_enter Try.func21, Try.ntmps21
  go_wp2
  go_loopw [2] (fun v wr => Hid (RunRel base L lv w n l s v wr)) (fun v wr => runMu L n wr)
  case atStart => exact HR0
  case round =>
    obtain ⟨l', s', lv', hI, hA, hW, hF, hG, hE, hL⟩ := hrel.out
    clear hrel HR0
    have c40 := hA.num 40 (.inr (by decide))
    have c39 := hA.num 39 (.inr (by decide))
    have k40 : kindAt 40 = .i64 := rfl
    have k39 : kindAt 39 = .i64 := rfl
    rw [k40, HB.out] at c40
    rw [k39, HB.out] at c39
    have n0 := hA.bw 39 (.inr (by decide))
    clear k40 k39
    have HI := Lib.hid hI
    have HA := Lib.hid hA
    have HW := Lib.hid hW
    have HF := Lib.hid hF
    have HG := Lib.hid hG
    have HE := Lib.hid hE
    have HL := Lib.hid hL
    clear hI hA hW hF hG hE hL
    by_cases h0 : s'.c 40 = 0
    · by_cases hlt : s'.c 39 < n
      · rw [h0] at c40
        have HZ := Lib.hid (And.intro h0 hlt)
        have H59 := Lib.hid (c59 (Far L lv w) _ l' (s'.c 39) wr HI.out)
        have HN := Lib.hid (fun (v : Value) (w2 : World) => run_next (v := v) (w2 := w2) HA.out HW.out HF.out HG.out HE.out HL.out HZ.out)
        clear h0
        cases hsk : skipM (s'.c 39) l' with
        | nil =>
          have HK := Lib.hid hsk
          clear hsk
          have H60 : ∀ nq, Hid (Calls Try.prog 60 #[.pointer (some ⟨b, 0, none⟩)] (wr.drewN nq) fun e w' => e = .returned (.tuple #[]) ∧ Okay base L lv' wr w' (advM L s')) := fun nq =>
            Lib.hid (by rw [← HB.out]; exact (advance_at (HA.out.grown0 ((Fr.refl _ _).drewN nq)) HW.out HL.out (by omega)).mono fun e w' ⟨a, k⟩ => ⟨a, Okay.before ((Fr.refl _ _).drewN nq) k⟩)
          go_wp2_with fail
          go_at_call 59
          refine H59.out.mono ?_
          rintro e w1 ⟨⟨v', rfl, hI'⟩, rfl⟩
          rw [HK.out] at hI'
          have HI' : Hid (∀ a c, I64s (Far L lv w) wr (.slice a 0 c) [] → I64s (Far L lv w) wr (.slice a 0 c) (roundM L l' s').1) := Lib.hid (fun a c h => by rw [round_nil HK.out]; exact h)
          obtain ⟨a, c, rfl, hc0, hcm, hc1⟩ := hI'
          have HI2 := Lib.hid (HI'.out a c ⟨a, c, rfl, hc0, hcm, .inl rfl⟩)
          clear hc0 hc1 HI'
          go_wp2_with fail
          go_quiet (fail)
          go_wp2_with ((go_at_call 60; (with_reducible refine (H60 _).out.mono ?_); rintro e w2 ⟨rfl, hk⟩; have HK2 := Lib.hid hk; clear hk))
          go_roundw
          case rel => exact Lib.hid (HN.out _ w2 HI2.out (by rw [round_nil HK.out]; exact HK2.out)).1
          case measure => exact (HN.out _ w2 HI2.out (by rw [round_nil HK.out]; exact HK2.out)).2
        | cons x t =>
          have HK := Lib.hid hsk
          clear hsk
          obtain ⟨m, hm⟩ : ∃ m, t.length = m := ⟨_, rfl⟩
          have HM := Lib.hid hm
          clear hm
          by_cases hx : x = s'.c 39
          · subst hx
            have H55 : ∀ nq, Hid (Calls Try.prog 55 #[.pointer (some ⟨b, 0, none⟩)] (wr.drewN nq) fun e w' => e = .returned (.tuple #[]) ∧ Okay base L lv' wr w' (failM s')) := fun nq =>
              Lib.hid (by rw [← HB.out]; exact (fail_at (HA.out.grown0 ((Fr.refl _ _).drewN nq)) HW.out HZ.out.1).mono fun e w' ⟨a, k⟩ => ⟨a, Okay.before ((Fr.refl _ _).drewN nq) k⟩)
            have H60 : Hid (∀ w1, Okay base L lv' wr w1 (failM s') → Calls Try.prog 60 #[.pointer (some ⟨b, 0, none⟩)] w1 fun e w' => e = .returned (.tuple #[]) ∧ Okay base L lv' wr w' (advM L (failM s'))) :=
              Lib.hid (fun w1 hk => by
                obtain ⟨l1, a1, f1, r1, g1⟩ := hk
                rw [← HB.out]
                refine (advance_at a1 f1 (fail_log HL.out) (by rw [(fail_steps s').1]; omega)).mono ?_
                rintro e w' ⟨a, k⟩
                exact ⟨a, Okay.step r1 g1 k⟩)
            go_wp2_with fail
            go_at_call 59
            refine H59.out.mono ?_
            rintro e w1 ⟨⟨v', rfl, hI'⟩, rfl⟩
            rw [HK.out] at hI'
            obtain ⟨fb, fo, c, rfl, e2, hcm, c0, HC⟩ := hI'.cons HM.out
            clear hI'
            by_cases hc : c = 1
            · obtain rfl : m = 0 := by omega
              subst hc
              have HI2 : Hid (I64s (Far L lv w) wr (.slice (some ⟨fb, fo, none⟩) 0 0) (roundM L l' s').1) := Lib.hid (by
                rw [round_eq HK.out, List.length_eq_zero_iff.1 HM.out]
                exact ⟨_, 0, rfl, Nat.le_refl _, by omega, .inl rfl⟩)
              go_wp2_with fail
              go_quiet (fail)
              go_wp2_with (first
                | (go_at_call 55; (with_reducible refine (H55 _).out.mono ?_); rintro e w2 ⟨rfl, hk⟩; have HK2 := Lib.hid hk; clear hk)
                | (go_at_call 60; (with_reducible refine (H60.out _ HK2.out).mono ?_); rintro e w3 ⟨rfl, hk⟩; have HK3 := Lib.hid hk; clear hk))
              go_roundw
              case rel => exact Lib.hid (HN.out _ w3 HI2.out (by rw [round_eq HK.out]; exact HK3.out)).1
              case measure => exact (HN.out _ w3 HI2.out (by rw [round_eq HK.out]; exact HK3.out)).2
            · have HI2 : Hid (I64s (Far L lv w) wr (.slice (some ⟨fb, fo + 1, none⟩) m (c - 1)) (roundM L l' s').1) := Lib.hid (by
                rw [round_eq HK.out]
                exact I64s.tail HM.out e2 hcm HC.out.1 HC.out.2)
              go_wp2_with fail
              go_quiet (fail)
              go_wp2_with (first
                | (go_at_call 55; (with_reducible refine (H55 _).out.mono ?_); rintro e w2 ⟨rfl, hk⟩; have HK2 := Lib.hid hk; clear hk)
                | (go_at_call 60; (with_reducible refine (H60.out _ HK2.out).mono ?_); rintro e w3 ⟨rfl, hk⟩; have HK3 := Lib.hid hk; clear hk))
              go_roundw
              case rel => exact Lib.hid (HN.out _ w3 HI2.out (by rw [round_eq HK.out]; exact HK3.out)).1
              case measure => exact (HN.out _ w3 HI2.out (by rw [round_eq HK.out]; exact HK3.out)).2
          · have hxb : (x == s'.c 39) = false := by rw [beq_eq_false_iff_ne]; exact hx
            have HX := Lib.hid hx
            clear hx
            have H60 : ∀ nq, Hid (Calls Try.prog 60 #[.pointer (some ⟨b, 0, none⟩)] (wr.drewN nq) fun e w' => e = .returned (.tuple #[]) ∧ Okay base L lv' wr w' (advM L s')) := fun nq =>
              Lib.hid (by rw [← HB.out]; exact (advance_at (HA.out.grown0 ((Fr.refl _ _).drewN nq)) HW.out HL.out (by omega)).mono fun e w' ⟨a, k⟩ => ⟨a, Okay.before ((Fr.refl _ _).drewN nq) k⟩)
            go_wp2_with fail
            go_at_call 59
            refine H59.out.mono ?_
            rintro e w1 ⟨⟨v', rfl, hI'⟩, rfl⟩
            rw [HK.out] at hI'
            have HI2 : Hid (I64s (Far L lv w) wr v' (roundM L l' s').1) := Lib.hid (by rw [round_ne HK.out HX.out]; exact hI')
            obtain ⟨fb, fo, c, rfl, e2, hcm, c0, HC⟩ := hI'.cons HM.out
            clear hI'
            go_wp2_with fail
            go_quiet (fail)
            go_wp2_with ((go_at_call 60; (with_reducible refine (H60 _).out.mono ?_); rintro e w2 ⟨rfl, hk⟩; have HK2 := Lib.hid hk; clear hk))
            go_roundw
            case rel => exact Lib.hid (HN.out _ w2 HI2.out (by rw [round_ne HK.out HX.out]; exact HK2.out)).1
            case measure => exact (HN.out _ w2 HI2.out (by rw [round_ne HK.out HX.out]; exact HK2.out)).2
      · have h39 : decide (s'.c 39 < n) = false := decide_eq_false hlt
        have HX : Hid (runE L n l s = s') := Lib.hid (by rw [← HE.out]; exact runE_stop (fun q => hlt q.2))
        rw [h0] at c40
        go_wp2
        go_ret
        rw [HX.out, h0]
        exact ⟨rfl, lv', HA.out, HW.out, HF.out, HG.out⟩
    · have h40 : (s'.c 40 == 0) = false := by rw [beq_eq_false_iff_ne]; exact h0
      have HX : Hid (runE L n l s = s') := Lib.hid (by rw [← HE.out]; exact runE_stop (fun q => h0 q.1))
      go_wp2
      go_ret
      rw [HX.out]
      exact ⟨rfl, lv', HA.out, HW.out, HF.out, HG.out⟩
end Go.Proofs.Ytipfefkddnogjaa
