/-
  The contract of Run (layer 3) over a machine that lies in a world. The contracts of New and Log over worlds, of Few and of the page's example (layer 3). The page's example of layer 3 holds; the contract of Few. The contract of Few (layer 3). What the laws of layer 3 need besides: frames of arguments, lists that rise, machines apart.
-/
import Derived.Test.YthhahfggbjegmaaGreatQDevCc
import Derived.Test.YthhahfggbjegmaaGreatQDevBb
import Derived.Test.YthhahfggbjegmaaGreatQDevP
import Derived.Test.YthhahfggbjegmaaGreatQDevR
namespace Go.Proofs.YthhahfggbjegmaaGreat
open Go.RowKit
set_option linter.unusedVariables false
set_option linter.unusedSimpArgs false
def numAt (w : World) (b o : Nat) : Int := match w.cell? ⟨b, o, none⟩ with | some (.int _ q) => q | _ => 0
theorem numAt_of {w : World} {b o : Nat} {k : IntKind} {q : Int} (h : w.cell? ⟨b, o, none⟩ = some (.int k q)) : numAt w b o = q := by unfold numAt; rw [h]
/-- Where the failures' list may lie. -/
def Far (L : Lay) (lv : Value) (w : World) (b : Nat) : Prop := b ≠ L.b ∧ b ≠ L.db ∧ lv.ownBlock ≠ some b ∧ b < w.heap.size
def RunRel (base : Nat) (L : Lay) (lv : Value) (w : World) (n : Int) (l : List Int) (s : MSt) (v : Value) (wr : World) : Prop :=
  ∃ l' s' lv', I64s (Far L lv w) wr v l' ∧ At base wr L lv' s' ∧ Wf base L lv' ∧ Fr (Foot L lv) w wr ∧ (∀ g, lv'.ownBlock = some g → lv.ownBlock = some g ∨ w.heap.size ≤ g) ∧ runE L n l' s' = runE L n l s ∧ (s'.log.length : Int) ≤ s'.c 39
def runMu (L : Lay) (n : Int) (w : World) : Nat := if numAt w L.b 40 = 0 then (n - numAt w L.b 39).toNat + 1 else 0
theorem fail_log {s : MSt} (h : (s.log.length : Int) ≤ s.c 39) : ((failM s).log.length : Int) ≤ (failM s).c 39 := by
  rw [(fail_steps s).1]; exact h
theorem round_log {L : Lay} (hc : CodeOk L) {l : List Int} {s : MSt} (h : (s.log.length : Int) ≤ s.c 39) : ((roundM L l s).2.log.length : Int) ≤ (roundM L l s).2.c 39 := by
  unfold roundM
  split
  · exact adv_log hc h
  · split
    · exact adv_log hc (fail_log h)
    · exact adv_log hc h
theorem I64s.kept {P : Nat → Prop} {F : Nat → Prop} {w w' : World} {v : Value} {l : List Int} (h : I64s P w v l) (hf : Fr F w w') (hn : ∀ b, P b → ¬ F b) : I64s P w' v l := by
  obtain ⟨a, c, e, h1, h2, h3⟩ := h
  refine ⟨a, c, e, h1, h2, h3.imp id ?_⟩
  rintro ⟨b, o, ea, hp, hc⟩
  exact ⟨b, o, ea, hp, fun k hk => hf.cell (hc k hk) (hn b hp)⟩
theorem I64s.cons {P : Nat → Prop} {w : World} {v : Value} {x : Int} {t : List Int} {m : Nat} (h : I64s P w v (x :: t)) (hm : t.length = m) :
    ∃ b o c, v = .slice (some ⟨b, o, none⟩) (m + 1) c ∧ m + 1 ≤ c ∧ c ≤ 9223372036854775807 ∧ w.cell? ⟨b, o, none⟩ = some (.int .i64 x) ∧ Hid (P b ∧ ∀ k, k < (x :: t).length → w.cell? ⟨b, o + k, none⟩ = some (.int .i64 ((x :: t).getD k 0))) := by
  obtain ⟨a, c, rfl, h1, h2, h3⟩ := h
  obtain ⟨b, o, rfl, hp, hc⟩ := h3.resolve_left (by simp)
  have e : (x :: t).length = m + 1 := by simp [hm]
  rw [e] at h1
  exact ⟨b, o, c, by rw [e], h1, h2, hc 0 (by simp), Lib.hid ⟨hp, hc⟩⟩
theorem run_next {base : Nat} {L : Lay} {lv : Value} {w : World} {n : Int} {l : List Int} {s : MSt} {wr w2 : World} {l' : List Int} {s' : MSt} {lv' : Value} (ha : At base wr L lv' s') (hw : Wf base L lv') (hf : Fr (Foot L lv) w wr)
    (hg : ∀ g, lv'.ownBlock = some g → lv.ownBlock = some g ∨ w.heap.size ≤ g) (hr : runE L n l' s' = runE L n l s) (hl : (s'.log.length : Int) ≤ s'.c 39) (hrun : s'.c 40 = 0 ∧ s'.c 39 < n)
    {v : Value} (hI : I64s (Far L lv w) wr v (roundM L l' s').1) (hk : Okay base L lv' wr w2 (roundM L l' s').2) :
    RunRel base L lv w n l s v w2 ∧ runMu L n w2 < runMu L n wr := by
  obtain ⟨lv2, a2, f2, r2, g2⟩ := hk
  constructor
  · refine ⟨_, _, lv2, hI.kept r2 (fun b hb => ?_), a2, f2, hf.trans' r2 (fun j hj hF => ?_), fun g e => ?_, (runE_round hw.ok hrun).symm.trans hr, round_log hw.ok hl⟩
    · rintro (e | e | e)
      · exact hb.1 e
      · exact hb.2.1 e
      · rcases hg _ e with q | q
        · exact hb.2.2.1 q
        · have := hb.2.2.2; omega
    · rcases hF with e | e | e
      · exact .inl e
      · exact .inr (.inl e)
      · rcases hg _ e with q | q
        · exact .inr (.inr q)
        · omega
    · rcases g2 g e with q | q
      · exact hg g q
      · have := hf.size
        exact .inr (by omega)
  · unfold runMu
    rw [numAt_of (ha.num 40 (.inr (by decide))), numAt_of (ha.num 39 (.inr (by decide))), numAt_of (a2.num 40 (.inr (by decide))), numAt_of (a2.num 39 (.inr (by decide))), if_pos hrun.1]
    split
    · rename_i h0
      rcases round_steps hw.ok l' s' with q | q
      · exact absurd h0 q
      · rw [q]; omega
    · omega
theorem Okay.step {base : Nat} {L : Lay} {lv l1 : Value} {w w1 w2 : World} {t : MSt} (r1 : Fr (Foot L lv) w w1) (g1 : ∀ g, l1.ownBlock = some g → lv.ownBlock = some g ∨ w.heap.size ≤ g) (k : Okay base L l1 w1 w2 t) : Okay base L lv w w2 t := by
  obtain ⟨l2, a2, f2, r2, g2⟩ := k
  refine ⟨l2, a2, f2, r1.trans' r2 ?_, fun g hg => ?_⟩
  · rintro j hj (e | e | e)
    · exact .inl e
    · exact .inr (.inl e)
    · rcases g1 j e with h | h
      · exact .inr (.inr h)
      · omega
  · rcases g2 g hg with h | h
    · exact g1 g h
    · have := r1.size
      exact .inr (by omega)
theorem round_nil {L : Lay} {l : List Int} {s : MSt} (h : skipM (s.c 39) l = []) : roundM L l s = ([], advM L s) := by unfold roundM; rw [h]
theorem round_eq {L : Lay} {l t : List Int} {s : MSt} (h : skipM (s.c 39) l = s.c 39 :: t) : roundM L l s = (t, advM L (failM s)) := by unfold roundM; rw [h]; simp
theorem round_ne {L : Lay} {l t : List Int} {x : Int} {s : MSt} (h : skipM (s.c 39) l = x :: t) (hx : x ≠ s.c 39) : roundM L l s = (x :: t, advM L s) := by unfold roundM; rw [h]; simp [hx]
set_option maxRecDepth 100000 in
set_option maxHeartbeats 4000000 in
theorem dv21 {base : Nat} {L : Lay} {lv : Value} {s : MSt} {w : World} (h : At base w L lv s) (hw : Wf base L lv) (hl : (s.log.length : Int) ≤ s.c 39) (n : Int) (hn : n ≤ 800000) (v : Value) (l : List Int) (hv : I64s (Far L lv w) w v l) :
    Calls Tryz.prog 11 #[.pointer (some ⟨L.b, 0, none⟩), .int .i64 n, v] w fun e w' => e = .returned (.int .i64 ((runE L n l s).c 40)) ∧ Okay base L lv w w' (runE L n l s) := by
  have HR0 : Hid (RunRel base L lv w n l s v w) := Lib.hid ⟨l, s, lv, hv, h, hw, Fr.refl _ _, fun g e => .inl e, rfl, hl⟩
  clear h hw hl hv
  obtain ⟨b, hb⟩ : ∃ b, L.b = b := ⟨_, rfl⟩
  rw [hb]
  have HB := Lib.hid hb
  clear hb
  go_enter Tryz.func11, Tryz.ntmps11
  go_wp2
  go_loopw [2] (fun v wr => Hid (RunRel base L lv w n l s v wr)) (fun v wr => runMu L n wr)
  case atStart => exact HR0
  case round =>
    obtain ⟨l', s', lv', hI, hA, hW, hF, hG, hE, hL⟩ := hrel.out
    clear hrel HR0
    have c40 := hA.num 40 (.inr (by decide))
    have c39 := hA.num 39 (.inr (by decide))
    have k40 : kindAt 40 = .i64 := rfl
    have k39 : kindAt 39 = .i64 := rfl
    rw [k40, HB.out] at c40
    rw [k39, HB.out] at c39
    have n0 := hA.bw 39 (.inr (by decide))
    clear k40 k39
    have HI := Lib.hid hI
    have HA := Lib.hid hA
    have HW := Lib.hid hW
    have HF := Lib.hid hF
    have HG := Lib.hid hG
    have HE := Lib.hid hE
    have HL := Lib.hid hL
    clear hI hA hW hF hG hE hL
    by_cases h0 : s'.c 40 = 0
    · by_cases hlt : s'.c 39 < n
      · rw [h0] at c40
        have HZ := Lib.hid (And.intro h0 hlt)
        have H59 := Lib.hid (dv59 (Far L lv w) _ l' (s'.c 39) wr HI.out)
        have HN := Lib.hid (fun (v : Value) (w2 : World) => run_next (v := v) (w2 := w2) HA.out HW.out HF.out HG.out HE.out HL.out HZ.out)
        clear h0
        cases hsk : skipM (s'.c 39) l' with
        | nil =>
          have HK := Lib.hid hsk
          clear hsk
          have H60 : ∀ nq, Hid (Calls Tryz.prog 26 #[.pointer (some ⟨b, 0, none⟩)] (wr.drewN nq) fun e w' => e = .returned (.tuple #[]) ∧ Okay base L lv' wr w' (advM L s')) := fun nq =>
            Lib.hid (by rw [← HB.out]; exact (advance_at (HA.out.grown0 ((Fr.refl _ _).drewN nq)) HW.out HL.out (by omega)).mono fun e w' ⟨a, k⟩ => ⟨a, Okay.before ((Fr.refl _ _).drewN nq) k⟩)
          go_wp2_with fail
          go_at_call 27
          refine H59.out.mono ?_
          rintro e w1 ⟨⟨v', rfl, hI'⟩, rfl⟩
          rw [HK.out] at hI'
          have HI' : Hid (∀ a c, I64s (Far L lv w) wr (.slice a 0 c) [] → I64s (Far L lv w) wr (.slice a 0 c) (roundM L l' s').1) := Lib.hid (fun a c h => by rw [round_nil HK.out]; exact h)
          obtain ⟨a, c, rfl, hc0, hcm, hc1⟩ := hI'
          have HI2 := Lib.hid (HI'.out a c ⟨a, c, rfl, hc0, hcm, .inl rfl⟩)
          clear hc0 hc1 HI'
          go_wp2_with fail
          go_quiet (fail)
          go_wp2_with ((go_at_call 26; (with_reducible refine (H60 _).out.mono ?_); rintro e w2 ⟨rfl, hk⟩; have HK2 := Lib.hid hk; clear hk))
          go_roundw
          case rel => exact Lib.hid (HN.out _ w2 HI2.out (by rw [round_nil HK.out]; exact HK2.out)).1
          case measure => exact (HN.out _ w2 HI2.out (by rw [round_nil HK.out]; exact HK2.out)).2
        | cons x t =>
          have HK := Lib.hid hsk
          clear hsk
          obtain ⟨m, hm⟩ : ∃ m, t.length = m := ⟨_, rfl⟩
          have HM := Lib.hid hm
          clear hm
          by_cases hx : x = s'.c 39
          · subst hx
            have H55 : ∀ nq, Hid (Calls Tryz.prog 19 #[.pointer (some ⟨b, 0, none⟩)] (wr.drewN nq) fun e w' => e = .returned (.tuple #[]) ∧ Okay base L lv' wr w' (failM s')) := fun nq =>
              Lib.hid (by rw [← HB.out]; exact (fail_at (HA.out.grown0 ((Fr.refl _ _).drewN nq)) HW.out HZ.out.1).mono fun e w' ⟨a, k⟩ => ⟨a, Okay.before ((Fr.refl _ _).drewN nq) k⟩)
            have H60 : Hid (∀ w1, Okay base L lv' wr w1 (failM s') → Calls Tryz.prog 26 #[.pointer (some ⟨b, 0, none⟩)] w1 fun e w' => e = .returned (.tuple #[]) ∧ Okay base L lv' wr w' (advM L (failM s'))) :=
              Lib.hid (fun w1 hk => by
                obtain ⟨l1, a1, f1, r1, g1⟩ := hk
                rw [← HB.out]
                refine (advance_at a1 f1 (fail_log HL.out) (by rw [(fail_steps s').1]; omega)).mono ?_
                rintro e w' ⟨a, k⟩
                exact ⟨a, Okay.step r1 g1 k⟩)
            go_wp2_with fail
            go_at_call 27
            refine H59.out.mono ?_
            rintro e w1 ⟨⟨v', rfl, hI'⟩, rfl⟩
            rw [HK.out] at hI'
            obtain ⟨fb, fo, c, rfl, e2, hcm, c0, HC⟩ := hI'.cons HM.out
            clear hI'
            by_cases hc : c = 1
            · obtain rfl : m = 0 := by omega
              subst hc
              have HI2 : Hid (I64s (Far L lv w) wr (.slice (some ⟨fb, fo, none⟩) 0 0) (roundM L l' s').1) := Lib.hid (by
                rw [round_eq HK.out, List.length_eq_zero_iff.1 HM.out]
                exact ⟨_, 0, rfl, Nat.le_refl _, by omega, .inl rfl⟩)
              go_wp2_with fail
              go_quiet (fail)
              go_wp2_with (first
                | (go_at_call 19; (with_reducible refine (H55 _).out.mono ?_); rintro e w2 ⟨rfl, hk⟩; have HK2 := Lib.hid hk; clear hk)
                | (go_at_call 26; (with_reducible refine (H60.out _ HK2.out).mono ?_); rintro e w3 ⟨rfl, hk⟩; have HK3 := Lib.hid hk; clear hk))
              go_roundw
              case rel => exact Lib.hid (HN.out _ w3 HI2.out (by rw [round_eq HK.out]; exact HK3.out)).1
              case measure => exact (HN.out _ w3 HI2.out (by rw [round_eq HK.out]; exact HK3.out)).2
            · have HI2 : Hid (I64s (Far L lv w) wr (.slice (some ⟨fb, fo + 1, none⟩) m (c - 1)) (roundM L l' s').1) := Lib.hid (by
                rw [round_eq HK.out]
                exact I64s.tail HM.out e2 hcm HC.out.1 HC.out.2)
              go_wp2_with fail
              go_quiet (fail)
              go_wp2_with (first
                | (go_at_call 19; (with_reducible refine (H55 _).out.mono ?_); rintro e w2 ⟨rfl, hk⟩; have HK2 := Lib.hid hk; clear hk)
                | (go_at_call 26; (with_reducible refine (H60.out _ HK2.out).mono ?_); rintro e w3 ⟨rfl, hk⟩; have HK3 := Lib.hid hk; clear hk))
              go_roundw
              case rel => exact Lib.hid (HN.out _ w3 HI2.out (by rw [round_eq HK.out]; exact HK3.out)).1
              case measure => exact (HN.out _ w3 HI2.out (by rw [round_eq HK.out]; exact HK3.out)).2
          · have hxb : (x == s'.c 39) = false := by rw [beq_eq_false_iff_ne]; exact hx
            have HX := Lib.hid hx
            clear hx
            have H60 : ∀ nq, Hid (Calls Tryz.prog 26 #[.pointer (some ⟨b, 0, none⟩)] (wr.drewN nq) fun e w' => e = .returned (.tuple #[]) ∧ Okay base L lv' wr w' (advM L s')) := fun nq =>
              Lib.hid (by rw [← HB.out]; exact (advance_at (HA.out.grown0 ((Fr.refl _ _).drewN nq)) HW.out HL.out (by omega)).mono fun e w' ⟨a, k⟩ => ⟨a, Okay.before ((Fr.refl _ _).drewN nq) k⟩)
            go_wp2_with fail
            go_at_call 27
            refine H59.out.mono ?_
            rintro e w1 ⟨⟨v', rfl, hI'⟩, rfl⟩
            rw [HK.out] at hI'
            have HI2 : Hid (I64s (Far L lv w) wr v' (roundM L l' s').1) := Lib.hid (by rw [round_ne HK.out HX.out]; exact hI')
            obtain ⟨fb, fo, c, rfl, e2, hcm, c0, HC⟩ := hI'.cons HM.out
            clear hI'
            go_wp2_with fail
            go_quiet (fail)
            go_wp2_with ((go_at_call 26; (with_reducible refine (H60 _).out.mono ?_); rintro e w2 ⟨rfl, hk⟩; have HK2 := Lib.hid hk; clear hk))
            go_roundw
            case rel => exact Lib.hid (HN.out _ w2 HI2.out (by rw [round_ne HK.out HX.out]; exact HK2.out)).1
            case measure => exact (HN.out _ w2 HI2.out (by rw [round_ne HK.out HX.out]; exact HK2.out)).2
      · have h39 : decide (s'.c 39 < n) = false := decide_eq_false hlt
        have HX : Hid (runE L n l s = s') := Lib.hid (by rw [← HE.out]; exact runE_stop (fun q => hlt q.2))
        rw [h0] at c40
        go_wp2
        go_ret
        rw [HX.out, h0]
        exact ⟨rfl, lv', HA.out, HW.out, HF.out, HG.out⟩
    · have h40 : (s'.c 40 == 0) = false := by rw [beq_eq_false_iff_ne]; exact h0
      have HX : Hid (runE L n l s = s') := Lib.hid (by rw [← HE.out]; exact runE_stop (fun q => h0 q.1))
      go_wp2
      go_ret
      rw [HX.out]
      exact ⟨rfl, lv', HA.out, HW.out, HF.out, HG.out⟩
/-- What New leaves. -/
def Made (ws ds ins : List Int) (w : World) (e : Ending) (w' : World) : Prop :=
  ∃ L, e = .returned (.tuple #[.pointer (some ⟨L.b, 0, none⟩), .int .i64 0]) ∧ L.code = ws.map decM ∧ L.dn = ds.length ∧ L.ins = ins ∧ At w.heap.size w' L (.slice none 0 0) (initM ds) ∧ Wf w.heap.size L (.slice none 0 0) ∧
    Fr (fun _ => False) w w' ∧ w.heap.size ≤ L.b ∧ w.heap.size ≤ L.db ∧ w.heap.size ≤ L.cb ∧ (∀ a, L.ia = some a → w.heap.size ≤ a.block)
def Bytes (l : List Int) : Prop := ∀ k, k < l.length → 0 ≤ l.getD k 0 ∧ l.getD k 0 ≤ 255
def Words (l : List Int) : Prop := ∀ k, k < l.length → 0 ≤ l.getD k 0 ∧ l.getD k 0 ≤ 4294967295
theorem new_at {v0 v1 v2 : Value} {ws ds ins : List Int} {w : World} (h0 : ListAt .u32 w v0 ws) (h1 : ListAt .u8 w v1 ds) (h2 : ListAt .u32 w v2 ins) (b0 : Words ws) (b1 : Bytes ds) (b2 : Words ins) (il : ins.length ≤ 100000) (hm : mayB ws.length ds.length = true) :
    Calls Tryz.prog 8 #[v0, v1, v2] w (Made ws ds ins w) := by
  have hmay : 1 ≤ (ws.length : Int) ∧ (ws.length : Int) ≤ 32768 ∧ 4 ≤ (ds.length : Int) ∧ (ds.length : Int) ≤ 65536 ∧ (ds.length : Int) % 4 = 0 := by
    have hb := hm
    unfold mayB at hb
    split at hb; · cases hb
    split at hb; · cases hb
    split at hb; · cases hb
    split at hb; · cases hb
    have := beq_iff_eq.1 hb
    omega
  rcases h0 with ⟨_, rfl⟩ | ⟨a0, c0, rfl, h0⟩
  · simp at hmay
  rcases h1 with ⟨_, rfl⟩ | ⟨a1, c1, rfl, h1⟩
  · simp at hmay
  have hw : WordsAt w (some a0) ws := fun k hk => by
    obtain ⟨b, o, sp⟩ := a0
    obtain ⟨e, hc⟩ := h0 k hk
    simp only at e hc
    subst e
    exact ⟨b, o, rfl, hc⟩
  refine (dv20_yes (some a0) ws c0 (some a1) ds.length c1 v2 w (by omega) (by omega) (by omega) (by omega) hmay.2.2.2.2 (DataOk ds) (InsOk ins) (Lib.hid (dv56 (some a0) ws c0 (by omega) (by omega) b0 w hw)) (Lib.hid fun w1 hf => ?_) (Lib.hid fun w1 dv w2 hf hd => ?_)).mono ?_
  · refine (dv57 a1 ds.length c1 (ds.map (Value.int .u8)) (by simp) (by omega) w1 (list_news (fun i hi => ⟨(h1 i hi).1, hf.cell (h1 i hi).2 id⟩)) ones).mono ?_
    rintro e w' ⟨v', rfl, hne, hown, hg⟩
    obtain ⟨g, c, rfl, _, _⟩ := own_form hown hne
    exact ⟨_, _, _, rfl, hne, hown, hg⟩
  · have hf2 : Fr (fun _ => False) w w2 := hf.trans (Fr.of_by0 hd.2.2)
    rcases h2 with ⟨rfl, rfl⟩ | ⟨a2, c2, rfl, h2⟩
    · refine (dv58_nil w2).mono ?_
      rintro e w' ⟨rfl, rfl⟩
      exact ⟨_, _, _, rfl, .inl ⟨rfl, rfl, rfl⟩⟩
    · refine (dv58 a2 ins.length c2 (ins.map (Value.int .u32)) (by simp) (by omega) w2 (list_news (fun i hi => ⟨(h2 i hi).1, hf2.cell (h2 i hi).2 id⟩)) ones).mono ?_
      rintro e w' ⟨v', rfl, hne, hown, hg⟩
      obtain ⟨g, c, rfl, _, _⟩ := own_form hown hne
      exact ⟨_, _, _, rfl, .inr ⟨hne, hown, hg⟩⟩
  · rintro e w' ⟨g, dv, iv, w1, w2, w3, rfl, q1, q2, q3, rfl⟩
    obtain ⟨L, e1, e2, e3, e4, r⟩ := new_done hm (fun k hk => (b0 k hk).1) b1 b2 il q1 q2 q3
    exact ⟨L, by rw [e1], e2, e3, e4, r⟩
theorem dv25_ex (b : Nat) (lv : Value) (S : Value → World → Prop) (w : World) (hx : w.cell? ⟨b, 38, none⟩ = some lv) (H : Hid (Calls Tryz.prog 28 #[lv] w fun e w' => ∃ v, e = .returned v ∧ S v w')) :
    Calls Tryz.prog 12 #[.pointer (some ⟨b, 0, none⟩)] w fun e w' => ∃ v, e = .returned v ∧ S v w' := by
  go_enter Tryz.func12, Tryz.ntmps12
  go_wp2_with (go_at_call 28; (with_reducible refine H.out.mono ?_); rintro e w1 ⟨v, rfl, h1⟩; have H1 := Lib.hid h1; clear h1)
  go_ret
  exact ⟨v, rfl, H1.out⟩
/-- A new slice of records. -/
def LogIs (w : World) (l : List (Int × Int)) (v : Value) (w' : World) : Prop :=
  ∃ a c, v = .slice a l.length c ∧ Fr (fun _ => False) w w' ∧ (∀ k, k < l.length → ∃ b o, a = some ⟨b, o, none⟩ ∧ w.heap.size ≤ b ∧ w'.cell? ⟨b, o + k * 2, none⟩ = some (.int .u32 (l.getD k (0, 0)).1) ∧ w'.cell? ⟨b, o + k * 2 + 1, none⟩ = some (.int .u32 (l.getD k (0, 0)).2))
theorem recCells_get (l : List (Int × Int)) : ∀ k, k < l.length → (recCells l)[k * 2]? = some (.int .u32 (l.getD k (0, 0)).1) ∧ (recCells l)[k * 2 + 1]? = some (.int .u32 (l.getD k (0, 0)).2) := by
  induction l with
  | nil => intro k hk; simp at hk
  | cons a t ih =>
    intro k hk
    cases k with
    | zero => exact ⟨rfl, rfl⟩
    | succ k =>
      have := ih k (by simpa using hk)
      have e1 : (k + 1) * 2 = k * 2 + 1 + 1 := by omega
      have e2 : recCells (a :: t) = .int .u32 a.1 :: .int .u32 a.2 :: recCells t := by unfold recCells; simp
      rw [e1, e2]
      simpa using this
theorem recCells_len (l : List (Int × Int)) : (recCells l).length = l.length * 2 := by
  induction l with
  | nil => rfl
  | cons a t ih =>
    have e2 : recCells (a :: t) = .int .u32 a.1 :: .int .u32 a.2 :: recCells t := by unfold recCells; simp
    rw [e2]; simp [ih]; omega
theorem recCells_one (l : List (Int × Int)) : ∀ u ∈ recCells l, u.oneCell' = true := by
  intro u hu
  unfold recCells at hu
  obtain ⟨x, hx, hu⟩ := List.mem_flatten.1 hu
  obtain ⟨r, _, rfl⟩ := List.mem_map.1 hx
  simp only [List.mem_cons, List.not_mem_nil, or_false] at hu
  rcases hu with rfl | rfl <;> rfl
theorem own_addr {w : World} {base e size n : Nat} {v : Value} {xs : List Value} (h : w.ownsRow base e size v n xs) {g c : Nat} (hv : v = .slice (some ⟨g, 0, none⟩) n c) : ∀ j u, xs[j]? = some u → w.cell? ((⟨g, 0, none⟩ : Addr).add j) = some u :=
  h.cells (by rw [hv]; rfl)
theorem log_at {base : Nat} {L : Lay} {lv : Value} {s : MSt} {w : World} (h : At base w L lv s) (hw : Wf base L lv) (hl : s.log.length ≤ 1000000) :
    Calls Tryz.prog 12 #[.pointer (some ⟨L.b, 0, none⟩)] w fun e w' => ∃ v, e = .returned v ∧ LogIs w s.log v w' := by
  have ho := h.own
  by_cases hv : lv = .slice none 0 0
  · have h0 : s.log.length = 0 := by
      rcases ho.2 with ⟨_, e⟩ | ⟨g, c, cur, e, _⟩
      · exact e
      · rw [hv] at e; cases e
    have hx := h.logv
    rw [hv] at hx
    refine (dv25_ex L.b _ (fun v w' => v = .slice none 0 0 ∧ w = w') w hx (Lib.hid ((dv61_nil w).mono fun e w' ⟨a, b⟩ => ⟨_, a, rfl, b⟩))).mono ?_
    rintro e w' ⟨v, rfl, rfl, rfl⟩
    exact ⟨_, rfl, none, 0, by rw [h0], Fr.refl _ _, fun k hk => by omega⟩
  · obtain ⟨g, c, e, _, _⟩ := own_form ho hv
    have hx := h.logv
    have hC := dv61 ⟨g, 0, none⟩ s.log.length c (recCells s.log) (recCells_len _) hl w (own_addr ho e) (recCells_one _)
    rw [e] at hx
    refine (dv25_ex L.b _ (fun v w' => v ≠ .slice none 0 0 ∧ w'.ownsRow w.heap.size 63 2 v s.log.length (recCells s.log) ∧ w.grownBy w' none) w hx (Lib.hid hC)).mono ?_
    rintro e w1 ⟨v', rfl, h1⟩
    obtain ⟨hne, hown, hg⟩ := h1
    obtain ⟨g', c', e', q1, _⟩ := own_form hown hne
    refine ⟨_, rfl, some ⟨g', 0, none⟩, c', e', Fr.of_by0 hg, fun k hk => ⟨g', 0, rfl, q1, ?_⟩⟩
    have hcs := hown
    rw [e'] at hcs
    have hl2 := recCells_len s.log
    have c1 := hcs.cellAt (k * 2) (by omega)
    have c2 := hcs.cellAt (k * 2 + 1) (by omega)
    obtain ⟨r1, r2⟩ := recCells_get s.log k hk
    rw [Nat.zero_add, c1, c2, r1, r2]
    exact ⟨rfl, rfl⟩
theorem dec_awake : [5243027, 111].map decM = [[19, 1, 0, 0, 5], [3, 0, 0, 0, 0]] := by decide +kernel
theorem run_awake (L : Lay) (ds : List Int) (h : L.code = [[19, 1, 0, 0, 5], [3, 0, 0, 0, 0]]) : (runE L 2 [] (initM ds)).c 1 = 5 ∧ (runE L 2 [] (initM ds)).c 32 = 4 ∧ (runE L 2 [] (initM ds)).c 39 = 2 ∧ (runE L 2 [] (initM ds)).c 40 = 0 := by
  obtain ⟨b, cb, co, cc, db, dof, dn, dc, ia, ic, code, ins⟩ := L
  simp only at h
  subst h
  exact ⟨rfl, rfl, rfl, rfl⟩
/-- A machine whose blocks are newer than a world. -/
def NewM (w : World) (L : Lay) (lv : Value) : Prop := ∀ k, k < w.heap.size → ¬ Foot L lv k
theorem okay_new {w w3 w4 : World} {L : Lay} {lv : Value} (hf : Fr (fun _ => False) w w3) (hn : NewM w L lv) (r : Fr (Foot L lv) w3 w4) : Fr (fun _ => False) w w4 := hf.trans' r (fun j hj hF => hn j hj hF)
theorem new_next {w w3 : World} {L : Lay} {lv lv4 : Value} (hn : NewM w L lv) (hs : w.heap.size ≤ w3.heap.size) (g : ∀ g, lv4.ownBlock = some g → lv.ownBlock = some g ∨ w3.heap.size ≤ g) : NewM w L lv4 := by
  rintro k hk (e | e | e)
  · exact hn k hk (.inl e)
  · exact hn k hk (.inr (.inl e))
  · rcases g k e with h | h
    · exact hn k hk (.inr (.inr h))
    · omega
theorem new_start {w : World} {L : Lay} (h1 : w.heap.size ≤ L.b) (h2 : w.heap.size ≤ L.db) : NewM w L (.slice none 0 0) := by
  rintro k hk (e | e | e)
  · omega
  · omega
  · cases e
set_option maxRecDepth 100000 in
set_option maxHeartbeats 4000000 in
theorem dv19 (w : World) : Calls Tryz.prog 7 #[] w fun e w' => e = .returned (.bool true) ∧ Fr (fun _ => False) w w' := by
  obtain ⟨W, hWd⟩ : ∃ W, W = (w.alloc (.cells #[.int .u32 5243027, .int .u32 111] 40)).alloc (.cells #[.int .u8 0, .int .u8 0, .int .u8 0, .int .u8 0] 5) := ⟨_, rfl⟩
  have FW : Fr (fun _ => False) w W := by rw [hWd]; exact Fr.of_by0 (byAlloc (byAlloc (byRefl w) _) _)
  have hN : Calls Tryz.prog 8 #[.slice (some ⟨w.heap.size, 0, none⟩) 2 2, .slice (some ⟨w.heap.size + 1, 0, none⟩) 4 4, .slice none 0 0] W (Made [5243027, 111] [0, 0, 0, 0] [] W) := by
    refine new_at (.inr ⟨⟨w.heap.size, 0, none⟩, 2, rfl, fun i hi => ⟨rfl, ?_⟩⟩) (.inr ⟨⟨w.heap.size + 1, 0, none⟩, 4, rfl, fun i hi => ⟨rfl, ?_⟩⟩) (.inl ⟨rfl, rfl⟩) (fun k hk => ?_) (fun k hk => ?_) (fun k hk => absurd hk (by simp)) (by decide) (by decide +kernel)
    · have : i = 0 ∨ i = 1 := by simp at hi; omega
      have hb : (w.alloc (.cells #[.int .u32 5243027, .int .u32 111] 40)).grownBy W none := by rw [hWd]; exact World.grownBy_alloc _ _ _
      rcases this with rfl | rfl
      · exact hb.cell (row_cell w #[.int .u32 5243027, .int .u32 111] 40 0 _ rfl) (by simp)
      · exact hb.cell (row_cell w #[.int .u32 5243027, .int .u32 111] 40 1 _ rfl) (by simp)
    · have : i = 0 ∨ i = 1 ∨ i = 2 ∨ i = 3 := by simp at hi; omega
      have hs : (w.alloc (.cells #[.int .u32 5243027, .int .u32 111] 40)).heap.size = w.heap.size + 1 := by simp
      have hz := fun j v h => row_cell (w.alloc (.cells #[.int .u32 5243027, .int .u32 111] 40)) #[.int .u8 0, .int .u8 0, .int .u8 0, .int .u8 0] 5 j v h
      rw [hs] at hz
      rw [hWd]
      rcases this with rfl | rfl | rfl | rfl
      · exact hz 0 _ rfl
      · exact hz 1 _ rfl
      · exact hz 2 _ rfl
      · exact hz 3 _ rfl
    · have : k = 0 ∨ k = 1 := by simp at hk; omega
      rcases this with rfl | rfl <;> simp
    · have : k = 0 ∨ k = 1 ∨ k = 2 ∨ k = 3 := by simp at hk; omega
      rcases this with rfl | rfl | rfl | rfl <;> simp
  have HN := Lib.hid hN
  have HFW := Lib.hid FW
  clear hN FW
  have hmk : ∀ w : World, (Instr.makeSlice 23 (.int .i64 4) (.int .i64 4)).run Tryz.prog w = .ok (.slice (some ⟨w.heap.size, 0, none⟩) 4 4) (w.alloc (.cells #[.int .u8 0, .int .u8 0, .int .u8 0, .int .u8 0] 5)) := fun w => by kernel_rfl
  go_enter Tryz.func7, Tryz.ntmps7
  go_wp2_with fail
  rw [← hWd]
  go_at_call 8
  refine HN.out.mono ?_
  rintro e w3 ⟨L, rfl, hc, _, _, hA, hW, hF, hb1, hb2, _⟩
  obtain ⟨r1, r32, r39, r40⟩ := run_awake L [0, 0, 0, 0] (hc.trans dec_awake)
  have H21 := Lib.hid (dv21 hA hW (by decide) 2 (by decide) (.slice none 0 0) [] ⟨none, 0, rfl, Nat.le_refl _, by decide, .inl rfl⟩)
  have hsz := HFW.out.size
  have HNW : Hid (NewM w L (.slice none 0 0)) := Lib.hid (new_start (by omega) (by omega))
  obtain ⟨b, hb⟩ : ∃ b, L.b = b := ⟨_, rfl⟩
  have HF3 := Lib.hid (HFW.out.trans hF)
  rw [hb] at H21 ⊢
  have HR := Lib.hid (And.intro r1 (And.intro r32 (And.intro r39 r40)))
  have HBB := Lib.hid hb
  clear hA hW hF hWd HN HFW r1 r32 r39 r40 hb hc hmk hsz hb1 hb2
  go_wp2_with fail
  go_at_call 11
  refine H21.out.mono ?_
  rintro e w4 ⟨rfl, lv4, A4, W4, F4, G4⟩
  obtain ⟨r1, r32, r39, r40⟩ := HR.out
  have k1 := A4.reg (r := 1) (by decide)
  have k32 : w4.cell? ⟨L.b, 32, none⟩ = some (.int .u32 ((runE L 2 [] (initM [0, 0, 0, 0])).c 32)) := A4.num 32 (.inl (by decide))
  have HW4 := Lib.hid (okay_new HF3.out HNW.out F4)
  have HN4 := Lib.hid (new_next HNW.out HF3.out.size G4)
  have h55 := (fail_at A4 W4 r40).mono (R' := fun e w' => e = .returned (.tuple #[]) ∧ Fr (fun _ => False) w w' ∧ w'.cell? ⟨L.b, 1, none⟩ = some (.int .u32 0) ∧ w'.cell? ⟨L.b, 32, none⟩ = some (.int .u32 0) ∧ w'.cell? ⟨L.b, 39, none⟩ = some (.int .i64 2)) (by
    rintro e w' ⟨rfl, lv5, A5, W5, F5, G5⟩
    refine ⟨rfl, okay_new HW4.out HN4.out F5, A5.reg (r := 1) (by decide), A5.num 32 (.inl (by decide)), ?_⟩
    have := A5.num 39 (.inr (by decide))
    rw [(fail_steps _).1, r39] at this
    exact this)
  rw [HBB.out] at k1 k32 h55
  rw [r1] at k1
  rw [r32] at k32
  have H55 := Lib.hid h55
  have H26 : Hid (Calls Tryz.prog 21 #[.pointer (some ⟨b, 0, none⟩), .int .i64 1] w4 fun e w' => e = .returned (.int .u32 5) ∧ w' = w4) := Lib.hid (dv26 b 1 (by decide) 5 w4 k1)
  have H24 := Lib.hid (dv24 b 4 w4 k32)
  clear A4 W4 F4 G4 r1 r32 r39 r40 H21 k1 k32 h55
  go_wp2_with (first
    | (go_at_call 21; (with_reducible refine H26.out.mono ?_); rintro e w5 ⟨rfl, rfl⟩)
    | (go_at_call 22; (with_reducible refine H24.out.mono ?_); rintro e w5 ⟨rfl, rfl⟩)
    | (go_at_call 19; (with_reducible refine H55.out.mono ?_); rintro e w5 ⟨rfl, hf5, k1, k32, k39⟩; have HF5 := Lib.hid hf5; have G26 : Hid (Calls Tryz.prog 21 #[.pointer (some ⟨b, 0, none⟩), .int .i64 1] w5 fun e w' => e = .returned (.int .u32 0) ∧ w' = w5) := Lib.hid (dv26 b 1 (by decide) 0 w5 k1); have G24 := Lib.hid (dv24 b 0 w5 k32); have G23 := Lib.hid (dv23 b 2 w5 k39); clear hf5 k1 k32 k39)
    | (go_at_call 21; (with_reducible refine G26.out.mono ?_); rintro e w6 ⟨rfl, rfl⟩)
    | (go_at_call 22; (with_reducible refine G24.out.mono ?_); rintro e w6 ⟨rfl, rfl⟩)
    | (go_at_call 13; (with_reducible refine G23.out.mono ?_); rintro e w6 ⟨rfl, rfl⟩))
  go_ret
  exact ⟨rfl, HF5.out⟩
/-- Is a case not more than statements go through? -/
def fewB (n m i f : Nat) (N : Int) : Bool :=
  decide ((n ≤ 200 ∨ (32768 < n ∧ n ≤ 33000)) ∧ (m ≤ 400 ∨ (65536 < m ∧ m ≤ 66000)) ∧ i ≤ 40 ∧ f ≤ 100 ∧ N ≤ 400)
theorem few_yes {n m i f : Nat} {N : Int} (h : (n ≤ 200 ∨ (32768 < n ∧ n ≤ 33000)) ∧ (m ≤ 400 ∨ (65536 < m ∧ m ≤ 66000)) ∧ i ≤ 40 ∧ f ≤ 100 ∧ N ≤ 400) : Ending.returned (.bool true) = .returned (.bool (fewB n m i f N)) := by
  unfold fewB; rw [decide_eq_true h]
theorem few_no {n m i f : Nat} {N : Int} (h : ¬ ((n ≤ 200 ∨ (32768 < n ∧ n ≤ 33000)) ∧ (m ≤ 400 ∨ (65536 < m ∧ m ≤ 66000)) ∧ i ≤ 40 ∧ f ≤ 100 ∧ N ≤ 400)) : Ending.returned (.bool false) = .returned (.bool (fewB n m i f N)) := by
  unfold fewB; rw [decide_eq_false h]
theorem few_is {n m i f : Nat} {N : Int} {x : Bool} (h : x = fewB n m i f N) : Ending.returned (.bool x) = .returned (.bool (fewB n m i f N)) := by rw [h]
set_option maxRecDepth 100000 in
set_option maxHeartbeats 4000000 in
theorem dv18 (a0 a1 a2 a3 : Option Addr) (n m i f c0 c1 c2 c3 : Nat) (N : Int) (w : World) :
    Calls Tryz.prog 6 #[.agg #[.slice a0 n c0, .slice a1 m c1, .slice a2 i c2, .slice a3 f c3, .int .i64 N]] w fun e w' => e = .returned (.bool (fewB n m i f N)) ∧ Fr (fun _ => False) w w' := by
  have HB : ∀ o, Hid (Fr (fun _ => False) w (w.alloc o)) := fun o => Lib.hid (Fr.of_by0 (World.grownBy_alloc _ _ _))
  by_cases h1 : (n : Int) ≤ 200
  · go_enter Tryz.func6, Tryz.ntmps6
    go_wp2
    all_goals
      go_ret
      exact ⟨(by first | exact few_yes (n := n) (m := m) (i := i) (f := f) (N := N) (by omega) | exact few_no (n := n) (m := m) (i := i) (f := f) (N := N) (by omega) | exact few_is (by rw [Bool.eq_iff_iff]; unfold fewB; simp only [Bool.and_eq_true, Bool.or_eq_true, decide_eq_true_eq]; omega)), (HB _).out⟩
  · have h1' : decide ((n : Int) ≤ 200) = false := decide_eq_false h1
    by_cases h2 : 32768 < (n : Int)
    · by_cases h3 : (n : Int) ≤ 33000
      · go_enter Tryz.func6, Tryz.ntmps6
        go_wp2
        all_goals
          go_ret
          exact ⟨(by first | exact few_yes (n := n) (m := m) (i := i) (f := f) (N := N) (by omega) | exact few_no (n := n) (m := m) (i := i) (f := f) (N := N) (by omega) | exact few_is (by rw [Bool.eq_iff_iff]; unfold fewB; simp only [Bool.and_eq_true, Bool.or_eq_true, decide_eq_true_eq]; omega)), (HB _).out⟩
      · have h3' : decide ((n : Int) ≤ 33000) = false := decide_eq_false h3
        go_enter Tryz.func6, Tryz.ntmps6
        go_wp2
        all_goals
          go_ret
          exact ⟨(by first | exact few_yes (n := n) (m := m) (i := i) (f := f) (N := N) (by omega) | exact few_no (n := n) (m := m) (i := i) (f := f) (N := N) (by omega) | exact few_is (by rw [Bool.eq_iff_iff]; unfold fewB; simp only [Bool.and_eq_true, Bool.or_eq_true, decide_eq_true_eq]; omega)), (HB _).out⟩
    · have h2' : decide (32768 < (n : Int)) = false := decide_eq_false h2
      go_enter Tryz.func6, Tryz.ntmps6
      go_wp2
      all_goals
        go_ret
        exact ⟨(by first | exact few_yes (n := n) (m := m) (i := i) (f := f) (N := N) (by omega) | exact few_no (n := n) (m := m) (i := i) (f := f) (N := N) (by omega) | exact few_is (by rw [Bool.eq_iff_iff]; unfold fewB; simp only [Bool.and_eq_true, Bool.or_eq_true, decide_eq_true_eq]; omega)), (HB _).out⟩
theorem Fr.frame {W W' : World} (h : Fr (fun _ => False) W W') (may : MemPlace → Prop) : W.keptBut W' may := by
  refine ⟨h.os, h.output, fun i hi => ?_⟩
  rw [h.block i hi id]
  split <;> simp_all
theorem Fr.same {W W' : World} (h : Fr (fun _ => False) W W') {p : MemPlace} (hp : p.block < W.heap.size) : W.sameAt W' p := by
  cases p with
  | cell b o => exact World.cell?_of_block (w := W) (h.block b hp id)
  | map b => exact h.block b hp id
theorem Fr.trod {H : Type} {enc : TypeId × Value → H} {P : Program} {t : TypeId} (hl : laidOutB P = true) (hr : P.readableRec t = true) (hrow : t < P.types.size) {W W' : World} {v : Value} {d : DataW H} {ps : List MemPlace}
    (h : DataW.Trod enc P W 0 (fun _ => true) true t v d ps) (hb : Fr (fun _ => False) W W') (hlt : ∀ x ∈ ps, x.block < W.heap.size) :
    DataW.Trod enc P W' 0 (fun b => decide (b < W.heap.size)) true t v d ps :=
  WideElems.Trod_stays hl hr hrow h (fun x hx => hb.same (hlt x hx)) (fun x hx => by simpa using hlt x hx)
theorem rising_of : ∀ (l : List Int), (∀ j, j + 1 < l.length → l.getD j 0 < l.getD (j + 1) 0) → Rising l
  | [], _ => List.Pairwise.nil
  | [a], _ => List.pairwise_singleton _ _
  | a :: b :: t, h => by
    have ih : Rising (b :: t) := rising_of (b :: t) (fun j hj => by
      have := h (j + 1) (by simp at hj ⊢; omega)
      simpa using this)
    have hab : a < b := by simpa using h 0 (by simp)
    refine List.pairwise_cons.2 ⟨fun x hx => ?_, ih⟩
    rcases List.mem_cons.1 hx with rfl | hx
    · exact hab
    · have := (List.pairwise_cons.1 ih).1 x hx
      omega
theorem adv_lay {La Lb : Lay} (h1 : La.code = Lb.code) (h2 : La.ins = Lb.ins) (h3 : La.dn = Lb.dn) (s : MSt) : advM La s = advM Lb s := by
  obtain ⟨b, cb, co, cc, db, dof, dn, dc, ia, ic, code, ins⟩ := La
  obtain ⟨b', cb', co', cc', db', dof', dn', dc', ia', ic', code', ins'⟩ := Lb
  simp only at h1 h2 h3
  subst h1 h2 h3
  rfl
theorem runM_lay {La Lb : Lay} (h1 : La.code = Lb.code) (h2 : La.ins = Lb.ins) (h3 : La.dn = Lb.dn) (n : Int) : ∀ (f : Nat) (l : List Int) (s : MSt), runM La n f l s = runM Lb n f l s := by
  intro f
  induction f with
  | zero => intro l s; rfl
  | succ f ih =>
    intro l s
    by_cases h : s.c 40 = 0 ∧ s.c 39 < n
    · rw [runM_round h, runM_round h]
      have e : roundM La l s = roundM Lb l s := by
        unfold roundM
        rw [adv_lay h1 h2 h3, adv_lay h1 h2 h3]
      rw [e]
      exact ih _ _
    · rw [runM_stop _ _ h, runM_stop _ _ h]
theorem runE_lay {La Lb : Lay} (h1 : La.code = Lb.code) (h2 : La.ins = Lb.ins) (h3 : La.dn = Lb.dn) (n : Int) (l : List Int) (s : MSt) : runE La n l s = runE Lb n l s := runM_lay h1 h2 h3 n _ l s
theorem runM_log {L : Lay} (hc : CodeOk L) {n : Int} : ∀ (f : Nat) (l : List Int) (s : MSt), (s.log.length : Int) ≤ s.c 39 → ((runM L n f l s).log.length : Int) ≤ (runM L n f l s).c 39 := by
  intro f
  induction f with
  | zero => intro l s h; exact h
  | succ f ih =>
    intro l s h
    by_cases hr : s.c 40 = 0 ∧ s.c 39 < n
    · rw [runM_round hr]
      exact ih _ _ (round_log hc h)
    · rw [runM_stop _ _ hr]; exact h
theorem runM_le {L : Lay} (hc : CodeOk L) {n : Int} : ∀ (f : Nat) (l : List Int) (s : MSt), s.c 39 ≤ max n (s.c 39) → (runM L n f l s).c 39 ≤ max n (s.c 39) := by
  intro f
  induction f with
  | zero => intro l s h; exact h
  | succ f ih =>
    intro l s h
    by_cases hr : s.c 40 = 0 ∧ s.c 39 < n
    · rw [runM_round hr]
      have hs : (roundM L l s).2.c 39 = s.c 39 + 1 ∨ (roundM L l s).2.c 39 = s.c 39 := by
        have key : ∀ u : MSt, (advM L u).c 39 = u.c 39 + 1 ∨ (advM L u).c 39 = u.c 39 := fun u => by
          unfold advM
          split
          · rename_i t ht
            left
            have := exec5_steps (by have := (fetch_ok hc u).2.2.2.1; omega) ht
            simp [updN, this]
          · right; simp [updN]
        unfold roundM
        split
        · exact key s
        · split
          · have := key (failM s); rw [(fail_steps s).1] at this; exact this
          · exact key s
      have := ih (roundM L l s).1 (roundM L l s).2 (by omega)
      omega
    · rw [runM_stop _ _ hr]; exact h
theorem runE_log {L : Lay} (hc : CodeOk L) {n : Int} {l : List Int} {s : MSt} (h : (s.log.length : Int) ≤ s.c 39) : ((runE L n l s).log.length : Int) ≤ (runE L n l s).c 39 := runM_log hc _ _ _ h
theorem runE_le {L : Lay} (hc : CodeOk L) {n : Int} {l : List Int} {s : MSt} : (runE L n l s).c 39 ≤ max n (s.c 39) := runM_le hc _ _ _ (by omega)
theorem I64s.mono {P Q : Nat → Prop} {w : World} {v : Value} {l : List Int} (h : I64s P w v l) (hq : ∀ b, b < w.heap.size → P b → Q b) : I64s Q w v l := by
  obtain ⟨a, c, e, h1, h2, h3⟩ := h
  by_cases h0 : l = []
  · exact ⟨a, c, e, h1, h2, .inl h0⟩
  · obtain ⟨b, o, ea, hp, hc⟩ := h3.resolve_left h0
    have hl : 0 < l.length := List.length_pos_iff.2 h0
    exact ⟨a, c, e, h1, h2, .inr ⟨b, o, ea, hq b (World.block_lt_of_cell? w _ (hc 0 hl)) hp, hc⟩⟩
theorem ListAt.form {k : IntKind} {w : World} {v : Value} {l : List Int} (h : ListAt k w v l) : ∃ a c, v = .slice a l.length c := by
  rcases h with ⟨rfl, rfl⟩ | ⟨ad, c, rfl, _⟩
  · exact ⟨none, 0, rfl⟩
  · exact ⟨_, c, rfl⟩
/-- A machine's blocks: which there are at all. -/
theorem At.lts {base : Nat} {w : World} {L : Lay} {lv : Value} {s : MSt} (h : At base w L lv s) (hw : Wf base L lv) : L.b < w.heap.size ∧ L.db < w.heap.size ∧ L.cb < w.heap.size ∧ (∀ g, lv.ownBlock = some g → g < w.heap.size) :=
  ⟨World.block_lt_of_cell? w _ h.logv, World.block_lt_of_cell? w _ (h.byte 0 (by have := hw.dn; omega)), World.block_lt_of_cell? w _ (h.insts 0 (by have := hw.cn; omega) 0 (by omega)), fun g hg => (h.own.lt g hg).2⟩
end Go.Proofs.YthhahfggbjegmaaGreat
