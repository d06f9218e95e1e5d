/-
  A step of the document's own machine that lies in a world (layer 3). A run of the document's own machine that lies in a world (layer 3). The document's own machine at first (layer 3): Begin, and May.
-/
import Derived.Test.YthhahfggbjegmaaGreatQRmO
import Derived.Test.YthhahfggbjegmaaGreatQRmPa
import Derived.Test.YthhahfggbjegmaaGreatQRmPb
import Derived.Test.YthhahfggbjegmaaGreatQRmPc
import Derived.Test.YthhahfggbjegmaaGreatQRefG
import Derived.Test.YthhahfggbjegmaaGreatQDevFf
import Derived.Outline
namespace Go.Proofs.YthhahfggbjegmaaGreat
open Go.RowKit
set_option linter.unusedVariables false
set_option linter.unusedSimpArgs false
theorem gathS_in (f u : Int) : -4294967296 ≤ gathS f u ∧ gathS f u ≤ 4294967296 := by
  have h := signF_in (immB f) (or_in (gath f u 3) (u / 2 ^ (pA f 3).toNat % 2 ^ (pC f 3).toNat * 2 ^ (pF f 3).toNat % 4294967296))
  have e : gathS f u = sg (signF (bits .or .u32 (gath f u 3) (u / 2 ^ (pA f 3).toNat % 2 ^ (pC f 3).toNat * 2 ^ (pF f 3).toNat % 4294967296)) (immB f)) := rfl
  rw [e]
  unfold sg
  split <;> omega
theorem adv_none {L : Lay} {s : MSt} (h : execM L (fetchM L s) s = none) : advM L s = { s with c := updN s.c 40 2 } := by unfold advM; rw [h]
theorem adv_some {L : Lay} {s t : MSt} (h : execM L (fetchM L s) s = some t) : advM L s = { t with c := updN t.c 39 (t.c 39 + 1) } := by unfold advM; rw [h]
theorem exec_zero (L : Lay) (s : MSt) : execM L [0, 0, 0, 0, 0] s = none := rfl
theorem lay_code (R : RLay) : R.lay.code = R.ws.map decM := rfl
theorem fetch_in {R : RLay} {s : MSt} {k : Nat} (hk : k < R.ws.length) (hp : s.c 32 = ((4 * k : Nat) : Int)) : fetchM R.lay s = decM (R.ws.getD k 0) := by
  have e1 : s.c 32 % 4 = 0 := by omega
  have e2 : s.c 32 / 4 = (k : Int) := by omega
  unfold fetchM
  rw [lay_code, List.length_map, if_pos ⟨e1, by omega⟩, e2, Int.toNat_natCast, List.getD_eq_getElem?_getD, List.getElem?_map, List.getD_eq_getElem?_getD, List.getElem?_eq_getElem hk]
  rfl
theorem rm_step_at {base : Nat} {R : RLay} {gb : Nat} {lv : Value} {s : MSt} {w : World} (h : RAt base w R gb lv s) (hw : RWf base R gb lv) (hl : (s.log.length : Int) ≤ s.c 39) (hn : s.c 39 ≤ 800000) (h0 : s.c 40 = 0) :
    Calls Tryz.prog 17 #[.pointer (some ⟨R.rb, 0, none⟩)] w fun e w' => e = .returned (.tuple #[]) ∧ ROkay base R gb lv w w' (advM R.lay s) := by
  have i9 : isR 9 := .inr (.inr (.inr (.inr (.inl rfl))))
  have i8 : isR 8 := .inr (.inr (.inr (.inl rfl)))
  have h9 : w.cell? ⟨R.rb, 9, none⟩ = some (.int .i64 0) := by rw [← h0]; exact h.num 9 i9
  have f9 := h.free 9 (by decide)
  have h4 : w.cell? ⟨R.rb, 4, none⟩ = some (.int .i64 (s.c 32)) := h.num 4 (.inl rfl)
  have p0 := h.bw 32 (.inl (by decide))
  have p1 := h.bu 32 (.inl (by decide)) rfl
  have n0 := h.bw 39 (.inr (by decide))
  have fin9 : ∀ {w2 : World} {t : MSt}, ROkay base R gb lv w w2 t → ROkay base R gb lv w (w2.setCell ⟨R.rb, 9, none⟩ (.int .i64 2)) { t with c := updN t.c 40 2 } := fun hk =>
    hk.trans fun g1 l1 a f => ROkay.setNum a f 9 i9 2 (by decide) (fun _ => by decide)
  by_cases ho : s.c 32 % 4 = 0
  · by_cases hn2 : s.c 32 / 4 < (R.ws.length : Int)
    · obtain ⟨k, hk⟩ : ∃ k : Nat, k = (s.c 32 / 4).toNat := ⟨_, rfl⟩
      have hkl : k < R.ws.length := by omega
      have hp : s.c 32 = ((4 * k : Nat) : Int) := by omega
      have hfe := fetch_in hkl hp
      obtain ⟨cb, co, hca, hcu⟩ := h.words k hkl
      obtain ⟨u0, u1⟩ := hw.wb k hkl
      rw [hp] at h4
      have hcd := h.code
      rw [hca] at hcd
      have HS : StepFacts w R.rb R.ws.length R.cc k cb co (R.ws.getD k 0) := ⟨h9, h4, hcd, hkl, by omega, hcu⟩
      have HD : ∀ w1, Fr (fun _ => False) w w1 → Calls Tryz.prog 31 #[.int .u32 (R.ws.getD k 0)] w1 fun e w' => e = .returned (decV (R.ws.getD k 0)) ∧ Fr (fun _ => False) w1 w' := fun w1 _ =>
        (rv17 (R.ws.getD k 0) u0 u1 w1).mono fun e w' ⟨a, b⟩ => ⟨a, Fr.of_grown b⟩
      generalize hu : R.ws.getD k 0 = u at *
      by_cases hz : findI u = 0
      · have e : decM u = [0, 0, 0, 0, 0] := by unfold decM; rw [if_pos hz]
        rw [e] at hfe
        rw [decV_none hz] at HD
        rw [adv_none (by rw [hfe]; exact exec_zero _ _)]
        refine (rm_step_dec R.rb R.ws.length R.cc k cb co u 3 (by decide) w HS f9 (Lib.hid HD)).mono ?_
        rintro e w' ⟨rfl, w2, hg, rfl⟩
        exact ⟨rfl, fin9 (ROkay.quiet h hw hg)⟩
      · have hlt := find_lt u
        obtain ⟨_, _, _, ⟨a0, a1⟩, ⟨b0, b1⟩, ⟨c0, c1⟩⟩ := decM_ok u0
        have hi := gathS_in (fm (findI u)) u
        have e : decM u = [(findI u : Int), regV u 7 (uRd (fm (findI u))), regV u 15 (uRs1 (fm (findI u))), regV u 20 (uRs2 (fm (findI u))), gathS (fm (findI u)) u] := by unfold decM; rw [if_neg hz]
        rw [decV_some rfl hz] at HD
        rw [e] at hfe a0 a1 b0 b1 c0 c1
        simp only [List.getD_cons_succ, List.getD_cons_zero] at a0 a1 b0 b1 c0 c1
        have hop : (1 : Int) ≤ (findI u : Int) ∧ (findI u : Int) ≤ 45 := by omega
        generalize (findI u : Int) = f0 at *
        generalize regV u 7 (uRd (fm (findI u))) = f1 at *
        generalize regV u 15 (uRs1 (fm (findI u))) = f2 at *
        generalize regV u 20 (uRs2 (fm (findI u))) = f3 at *
        generalize gathS (fm (findI u)) u = f4 at *
        have hex : execM R.lay (fetchM R.lay s) s = exec5 R.lay f0 f1.toNat f2.toNat f3.toNat f4 s := by rw [hfe]; rfl
        have HX0 : ∀ w1, Fr (fun _ => False) w w1 → Calls Tryz.prog 32 #[.pointer (some ⟨R.rb, 0, none⟩), .agg #[.int .i64 f0, .int .i64 f1, .int .i64 f2, .int .i64 f3, .int .i64 f4]] w1 fun e w' =>
            e = .returned (.bool (exec5 R.lay f0 f1.toNat f2.toNat f3.toNat f4 s).isSome) ∧ ROkay base R gb lv w w' ((exec5 R.lay f0 f1.toNat f2.toNat f3.toNat f4 s).getD s) := fun w1 hg => by
          have := rm_do_at (h.grown0 hg) hw (by omega) f0 f4 f1.toNat f2.toNat f3.toNat hop hi ⟨by omega, by omega, by omega⟩
          rw [Int.toNat_of_nonneg a0, Int.toNat_of_nonneg b0, Int.toNat_of_nonneg c0] at this
          exact this.mono fun e w' ⟨a, b⟩ => ⟨a, ROkay.before hg b⟩
        cases hx : exec5 R.lay f0 f1.toNat f2.toNat f3.toNat f4 s with
        | some t =>
          rw [hx] at HX0 hex
          have hst : t.c 39 = s.c 39 := exec5_steps (by omega) hx
          rw [adv_some hex]
          refine (rm_step_yes R.rb R.ws.length R.cc k cb co u f0 f1 f2 f3 f4 (t.c 39) (by omega) (by omega) (fun w' => ROkay base R gb lv w w' t) w HS f9 (Lib.hid HD) (Lib.hid HX0) (Lib.hid fun w2 ⟨g1, l1, a, f, _, _⟩ => ⟨⟨a.num 8 i8, a.free 8 (by decide)⟩, _, a.num 9 i9, a.free 9 (by decide)⟩)).mono ?_
          rintro e w' ⟨rfl, w2, hk, rfl⟩
          exact ⟨rfl, hk.trans fun g1 l1 a f => ROkay.setNum a f 8 i8 _ (by omega) (fun e => by cases e)⟩
        | none =>
          rw [hx] at HX0 hex
          rw [adv_none hex]
          refine (rm_step_no R.rb R.ws.length R.cc k cb co u f0 f1 f2 f3 f4 (s.c 39) (by omega) (by omega) (fun w' => ROkay base R gb lv w w' s) w HS f9 (Lib.hid HD) (Lib.hid HX0) (Lib.hid fun w2 ⟨g1, l1, a, f, _, _⟩ => ⟨⟨a.num 8 i8, a.free 8 (by decide)⟩, _, a.num 9 i9, a.free 9 (by decide)⟩)).mono ?_
          rintro e w' ⟨rfl, w2, hk, rfl⟩
          exact ⟨rfl, fin9 hk⟩
    · have e : fetchM R.lay s = [0, 0, 0, 0, 0] := by unfold fetchM; rw [lay_code, List.length_map, if_neg (fun q => hn2 q.2)]
      rw [adv_none (by rw [e]; exact exec_zero _ _)]
      refine (rm_step_far R.rb R.ws.length R.cc R.ca (s.c 32) w p0 p1 h9 f9 h4 h.code ho (by omega)).mono ?_
      rintro e w' ⟨rfl, w2, hg, rfl⟩
      exact ⟨rfl, fin9 (ROkay.quiet h hw hg)⟩
  · have e : fetchM R.lay s = [0, 0, 0, 0, 0] := by unfold fetchM; rw [if_neg (fun q => ho q.1)]
    rw [adv_none (by rw [e]; exact exec_zero _ _)]
    refine (rm_step_odd R.rb (s.c 32) w p0 p1 h9 f9 h4 ho).mono ?_
    rintro e w' ⟨rfl, w2, hg, rfl⟩
    exact ⟨rfl, fin9 (ROkay.quiet h hw hg)⟩
def RFar (R : RLay) (gb : Nat) (lv : Value) (w : World) (b : Nat) : Prop := ¬ RFoot R gb lv b ∧ b < w.heap.size
def RRunRel (base : Nat) (R : RLay) (gb : Nat) (lv : Value) (w : World) (n : Int) (l : List Int) (s : MSt) (kv : Value) (wr : World) : Prop :=
  ∃ (k : Nat) (s' : MSt) (gb' : Nat) (lv' : Value), kv = .int .i64 k ∧ k ≤ l.length ∧ RAt base wr R gb' lv' s' ∧ RWf base R gb' lv' ∧ Fr (RFoot R gb lv) w wr ∧ (∀ g, (g = gb' ∨ lv'.ownBlock = some g) → (g = gb ∨ lv.ownBlock = some g) ∨ w.heap.size ≤ g) ∧
    runE R.lay n (l.drop k) s' = runE R.lay n l s ∧ (s'.log.length : Int) ≤ s'.c 39
def rrunMu (b : Nat) (n : Int) (w : World) : Nat := if numAt w b 9 = 0 then (n - numAt w b 8).toNat + 1 else 0
theorem code_ok {base : Nat} {R : RLay} {gb : Nat} {lv : Value} (hw : RWf base R gb lv) : CodeOk R.lay := by
  refine ⟨by rw [lay_code, List.length_map]; exact hw.wn.1, fun i hi => ?_⟩
  rw [lay_code, List.mem_map] at hi
  obtain ⟨u, hu, rfl⟩ := hi
  obtain ⟨k, hk, rfl⟩ := List.mem_iff_getElem.1 hu
  have := (hw.wb k hk).1
  rw [List.getD_eq_getElem?_getD, List.getElem?_eq_getElem hk] at this
  exact decM_ok this
theorem drop_cons {l : List Int} {k : Nat} (h : k < l.length) : l.drop k = l.getD k 0 :: l.drop (k + 1) := by
  rw [List.drop_eq_getElem_cons h, List.getD_eq_getElem?_getD, List.getElem?_eq_getElem h]; rfl
theorem rrun_next {base : Nat} {R : RLay} {gb gb' : Nat} {lv lv' : Value} {w wr w2 : World} {n : Int} {l : List Int} {s s' : MSt} {k : Nat} (ha : RAt base wr R gb' lv' s') (hw : RWf base R gb' lv') (hf : Fr (RFoot R gb lv) w wr)
    (hg : ∀ g, (g = gb' ∨ lv'.ownBlock = some g) → (g = gb ∨ lv.ownBlock = some g) ∨ w.heap.size ≤ g) (hr : runE R.lay n (l.drop k) s' = runE R.lay n l s) (hl : (s'.log.length : Int) ≤ s'.c 39) (hrun : s'.c 40 = 0 ∧ s'.c 39 < n)
    {j : Nat} (hj : j ≤ l.length) {t : MSt} (he : roundM R.lay (l.drop k) s' = (l.drop j, t)) (hk : ROkay base R gb' lv' wr w2 t) :
    RRunRel base R gb lv w n l s (.int .i64 j) w2 ∧ rrunMu R.rb n w2 < rrunMu R.rb n wr := by
  obtain ⟨g2, l2, a2, f2, r2, n2⟩ := hk
  have h1 : (roundM R.lay (l.drop k) s').1 = l.drop j := by rw [he]
  have h2 : (roundM R.lay (l.drop k) s').2 = t := by rw [he]
  constructor
  · refine ⟨j, t, g2, l2, rfl, hj, a2, f2, hf.trans' r2 ?_, fun g e => ?_, ?_, ?_⟩
    · rintro j hj (e | e | e | e)
      · exact .inl e
      · exact .inr (.inl e)
      · rcases hg j (.inl e) with (q | q) | q
        · exact .inr (.inr (.inl q))
        · exact .inr (.inr (.inr q))
        · omega
      · rcases hg j (.inr e) with (q | q) | q
        · exact .inr (.inr (.inl q))
        · exact .inr (.inr (.inr q))
        · omega
    · rcases n2 g e with q | q
      · exact hg g q
      · have := hf.size
        exact .inr (by omega)
    · have := runE_round (code_ok hw) (l := l.drop k) hrun
      rw [h1, h2] at this
      exact this.symm.trans hr
    · rw [← h2]; exact round_log (code_ok hw) hl
  · have i9 : isR 9 := .inr (.inr (.inr (.inr (.inl rfl))))
    have i8 : isR 8 := .inr (.inr (.inr (.inl rfl)))
    unfold rrunMu
    rw [numAt_of (ha.num 9 i9), numAt_of (ha.num 8 i8), numAt_of (a2.num 9 i9), numAt_of (a2.num 8 i8)]
    show (if t.c 40 = 0 then (n - t.c 39).toNat + 1 else 0) < (if s'.c 40 = 0 then (n - s'.c 39).toNat + 1 else 0)
    rw [if_pos hrun.1]
    split
    · rename_i h0
      rcases round_steps (code_ok hw) (l.drop k) s' with q | q
      · rw [h2] at q; exact absurd h0 q
      · rw [h2] at q; rw [q]; omega
    · omega
set_option maxRecDepth 100000 in
set_option maxHeartbeats 4000000 in
theorem rm_run {base : Nat} {R : RLay} {gb : Nat} {lv : Value} {s : MSt} {w : World} (h : RAt base w R gb lv s) (hw : RWf base R gb lv) (hl : (s.log.length : Int) ≤ s.c 39) (n : Int) (hn : n ≤ 800000) (a : Option Addr) (f c : Nat) (l : List Int) (hfl : l.length = f) (hv : I64s (RFar R gb lv w) w (.slice a f c) l) :
    Calls Tryz.prog 15 #[.pointer (some ⟨R.rb, 0, none⟩), .int .i64 n, .slice a f c] w fun e w' => e = .returned (.tuple #[]) ∧ ROkay base R gb lv w w' (runE R.lay n l s) := by
  have HR0 : Hid (RRunRel base R gb lv w n l s (.int .i64 (0 : Nat)) w) := Lib.hid ⟨0, s, gb, lv, rfl, Nat.zero_le _, h, hw, Fr.refl _ _, fun g e => .inl e, rfl, hl⟩
  have HV := Lib.hid hv
  have HFL := Lib.hid hfl
  have hfm : (f : Int) ≤ 9223372036854775807 := by obtain ⟨_, _, e, h1, h2, _⟩ := hv; omega
  clear h hw hl hv hfl
  obtain ⟨b, hb⟩ : ∃ b, R.rb = b := ⟨_, rfl⟩
  rw [hb]
  have HB := Lib.hid hb
  clear hb
  go_enter Tryz.func15, Tryz.ntmps15
  go_wp2
  go_loopw [6] (fun kv wr => Hid (RRunRel base R gb lv w n l s kv wr)) (fun _ wr => rrunMu b n wr)
  case atStart => exact HR0
  case round =>
    obtain ⟨k, s', gb', lv', rfl, hk, hA, hW, hF, hG, hE, hL⟩ := hrel.out
    clear hrel HR0
    have c9 := hA.num 9 (.inr (.inr (.inr (.inr (.inl rfl)))))
    have c8 := hA.num 8 (.inr (.inr (.inr (.inl rfl))))
    rw [HB.out] at c9 c8
    simp only [show rkind 9 = .i64 from rfl, show rkind 8 = .i64 from rfl, show ridx 9 = 40 from rfl, show ridx 8 = 39 from rfl] at c9 c8
    have n0 := hA.bw 39 (.inr (by decide))
    have HA := Lib.hid hA
    have HW := Lib.hid hW
    have HF := Lib.hid hF
    have HG := Lib.hid hG
    have HE := Lib.hid hE
    have HL := Lib.hid hL
    have HK := Lib.hid hk
    clear hA hW hF hG hE hL hk
    by_cases h0 : s'.c 40 = 0
    · by_cases hlt : s'.c 39 < n
      · rw [h0] at c9
        have HZ := Lib.hid (And.intro h0 hlt)
        have hI : I64s (RFar R gb lv w) wr (.slice a f c) l := HV.out.kept HF.out (fun b hb => hb.1)
        have HI := Lib.hid hI
        clear hI
        have HN := Lib.hid (fun (j : Nat) (hj : j ≤ l.length) (t : MSt) (he : roundM R.lay (l.drop k) s' = (l.drop j, t)) (w2 : World) => rrun_next (w2 := w2) HA.out HW.out HF.out HG.out HE.out HL.out HZ.out hj he)
        clear h0
        obtain ⟨st, hst⟩ : ∃ st, s'.c 39 = st := ⟨_, rfl⟩
        rw [hst] at c8 hlt n0
        have HST := Lib.hid hst
        clear hst
        go_wp2
        obtain ⟨wo, hwo⟩ : ∃ wo : World, wo = wr := ⟨_, rfl⟩
        have hk0 : k ≤ f := by rw [← HFL.out]; exact HK.out
        go_loopw [6] (fun kv w2 => ∃ j : Nat, kv = .int .i64 j ∧ j ≤ f ∧ Hid (skipM st (l.drop k) = skipM st (l.drop j)) ∧ ∃ q, w2 = wo.drewN q) (fun kv _ => f - (intOf kv).toNat)
        case atStart => exact ⟨k, rfl, hk0, Lib.hid rfl, 0, by rw [hwo]; rfl⟩
        case round =>
          obtain ⟨j, rfl, hj, HS, q, rfl⟩ := hrel
          subst hwo
          have H17 : Hid (∀ W, Fr (fun _ => False) wo W → Calls Tryz.prog 17 #[.pointer (some ⟨b, 0, none⟩)] W fun e w' => e = .returned (.tuple #[]) ∧ ROkay base R gb' lv' wo w' (advM R.lay s')) :=
            Lib.hid (fun W hW => by
              rw [← HB.out]
              exact (rm_step_at (HA.out.grown0 hW) HW.out HL.out (by rw [HST.out]; omega) HZ.out.1).mono fun e w' ⟨a, k⟩ => ⟨a, ROkay.before hW k⟩)
          have H18 : Hid (∀ W, Fr (fun _ => False) wo W → Calls Tryz.prog 18 #[.pointer (some ⟨b, 0, none⟩)] W fun e w' => e = .returned (.tuple #[]) ∧ ROkay base R gb' lv' wo w' (failM s')) :=
            Lib.hid (fun W hW => by
              rw [← HB.out]
              exact (rm_fail_at (HA.out.grown0 hW) HW.out HZ.out.1).mono fun e w' ⟨a, k⟩ => ⟨a, ROkay.before hW k⟩)
          have H17f : Hid (∀ w1, ROkay base R gb' lv' wo w1 (failM s') → Calls Tryz.prog 17 #[.pointer (some ⟨b, 0, none⟩)] w1 fun e w' => e = .returned (.tuple #[]) ∧ ROkay base R gb' lv' wo w' (advM R.lay (failM s'))) :=
            Lib.hid (fun w1 hk => by
              obtain ⟨g1, l1, a1, f1, r1, n1⟩ := hk
              rw [← HB.out]
              refine (rm_step_at a1 f1 (fail_log HL.out) (by rw [(fail_steps s').1, HST.out]; omega) (by rw [(fail_steps s').2]; exact HZ.out.1)).mono ?_
              rintro e w' ⟨a, k⟩
              exact ⟨a, ROkay.step r1 n1 k⟩)
          have HD : ∀ m, Hid (Fr (fun _ => False) wo (wo.drewN m)) := fun m => Lib.hid ((Fr.refl _ _).drewN m)
          have hd2 : ∀ n m, (wo.drewN n).drewN m = wo.drewN (n + m) := fun n m => drew2 wo n m
          have hj' : (j : Int) ≤ f := by omega
          have j0 : (0 : Int) ≤ j := by omega
          by_cases hjf : j < f
          · have hjl : j < l.length := by rw [HFL.out]; exact hjf
            have hne : ¬ l = [] := fun e => by rw [e] at hjl; simp at hjl
            obtain ⟨aa, cc, ee, _, _, hcs⟩ := HI.out
            simp only [Value.slice.injEq] at ee
            obtain ⟨rfl, hfe, rfl⟩ := ee
            obtain ⟨fb, fo, rfl, _, hcell⟩ := hcs.resolve_left hne
            have g0 := hcell j hjl
            obtain ⟨x, hx⟩ : ∃ x, l.getD j 0 = x := ⟨_, rfl⟩
            rw [hx] at g0
            have HX := Lib.hid hx
            have HJL := Lib.hid hjl
            have HDR : Hid (l.drop j = x :: l.drop (j + 1)) := Lib.hid (by rw [← hx]; exact drop_cons hjl)
            have t1 : (j : Int) < f := by omega
            clear hcs hne hcell hx hfe hjl hk0
            by_cases hxs : x < st
            · go_wp2
              go_quiet (fail)
              go_wp2
              go_roundw
              case rel => exact ⟨j + 1, by go_num, by omega, Lib.hid (by rw [HS.out, HDR.out]; exact skip_lt hxs), _, rfl⟩
              case measure => simp [intOf]; omega
            · have hxb : decide (x < st) = false := decide_eq_false hxs
              have HSK : Hid (skipM st (l.drop k) = x :: l.drop (j + 1)) := Lib.hid (by rw [HS.out, HDR.out]; exact skip_ge hxs)
              by_cases hxe : x = st
              · subst hxe
                have HE2 : Hid (roundM R.lay (l.drop k) s' = (l.drop (j + 1), advM R.lay (failM s'))) := Lib.hid (by have := HSK.out; rw [← HST.out] at this; exact round_eq this)
                clear hxb hxs
                have hxb : decide (x < x) = false := decide_eq_false (by omega)
                go_wp2
                go_quiet (fail)
                go_wp2
                go_quiet (fail)
                go_wp2_with (first
                  | (go_at_call 18; (with_reducible refine (H18.out _ (HD _).out).mono ?_); rintro e w2 ⟨rfl, hk⟩; have HK2 := Lib.hid hk; clear hk)
                  | (go_at_call 17; (with_reducible refine (H17f.out _ HK2.out).mono ?_); rintro e w3 ⟨rfl, hk⟩; have HK3 := Lib.hid hk; clear hk))
                go_roundw
                case rel =>
                  have hh := (HN.out (j + 1) (by have := HJL.out; omega) _ HE2.out w3 HK3.out).1
                  rw [show ((j + 1 : Nat) : Int) = (j : Int) + 1 by omega] at hh
                  exact Lib.hid hh
                case measure =>
                  have hh := (HN.out (j + 1) (by have := HJL.out; omega) _ HE2.out w3 HK3.out).2
                  rw [HB.out] at hh
                  exact hh
              · have hxb2 : (x == st) = false := by rw [beq_eq_false_iff_ne]; exact hxe
                have HE2 : Hid (roundM R.lay (l.drop k) s' = (l.drop j, advM R.lay s')) := Lib.hid (by rw [HDR.out]; have := HSK.out; rw [← HST.out] at this; exact round_ne this (by rw [HST.out]; exact hxe))
                clear hxs hxe
                go_wp2
                go_quiet (fail)
                go_wp2
                go_quiet (fail)
                go_wp2_with (go_at_call 17; (with_reducible refine (H17.out _ (HD _).out).mono ?_); rintro e w3 ⟨rfl, hk⟩; have HK3 := Lib.hid hk; clear hk)
                go_roundw
                case rel => exact Lib.hid (HN.out j (by have := HJL.out; omega) _ HE2.out w3 HK3.out).1
                case measure =>
                  have hh := (HN.out j (by have := HJL.out; omega) _ HE2.out w3 HK3.out).2
                  rw [HB.out] at hh
                  exact hh
          · obtain rfl : j = f := by omega
            have hjb : decide (j < j) = false := decide_eq_false (by omega)
            have HE2 : Hid (roundM R.lay (l.drop k) s' = (l.drop j, advM R.lay s')) := Lib.hid (by
              have h1 := HS.out
              rw [List.drop_of_length_le (i := j) (by rw [HFL.out]; exact Nat.le_refl _)] at h1 ⊢
              rw [← HST.out] at h1
              exact round_nil h1)
            clear hk0
            go_wp2
            go_quiet (fail)
            go_wp2
            go_quiet (fail)
            go_wp2_with (go_at_call 17; (with_reducible refine (H17.out _ (HD _).out).mono ?_); rintro e w3 ⟨rfl, hk⟩; have HK3 := Lib.hid hk; clear hk)
            go_roundw
            case rel => exact Lib.hid (HN.out j (by rw [HFL.out]; exact Nat.le_refl _) _ HE2.out w3 HK3.out).1
            case measure =>
              have hh := (HN.out j (by rw [HFL.out]; exact Nat.le_refl _) _ HE2.out w3 HK3.out).2
              rw [HB.out] at hh
              exact hh
      · have h39 : decide (s'.c 39 < n) = false := decide_eq_false hlt
        have HX : Hid (runE R.lay n l s = s') := Lib.hid (by rw [← HE.out]; exact runE_stop (fun q => hlt q.2))
        rw [h0] at c9
        go_wp2
        go_end0
        rw [HX.out]
        exact ⟨rfl, gb', lv', HA.out, HW.out, HF.out, HG.out⟩
    · have h40 : (s'.c 40 == 0) = false := by rw [beq_eq_false_iff_ne]; exact h0
      have HX : Hid (runE R.lay n l s = s') := Lib.hid (by rw [← HE.out]; exact runE_stop (fun q => h0 q.1))
      go_wp2
      go_end0
      rw [HX.out]
      exact ⟨rfl, gb', lv', HA.out, HW.out, HF.out, HG.out⟩
def BegRel (W : World) (ds : List Int) (k : Nat) (v : Value) (wr : World) : Prop :=
  Fr (fun _ => False) W wr ∧ wr.ownsRow W.heap.size 5 1 v k ((ds.take k).map (Value.int .u8))
theorem beg_next {W wr w1 : World} {ds : List Int} {x : Int} {k : Nat} {v v' : Value} {o : Obj} (h : BegRel W ds k v wr) (hk : k < ds.length) (hx : ds.getD k 0 = x)
    (hown : w1.ownsRow W.heap.size 5 1 v' (k + 1) ((ds.take k).map (Value.int .u8) ++ [.int .u8 x])) (hg : (wr.alloc o).grownBy w1 v.ownBlock) : BegRel W ds (k + 1) v' w1 := by
  subst hx
  have e : ds.take (k + 1) = ds.take k ++ [ds.getD k 0] := by
    rw [List.take_succ_eq_append_getElem hk, List.getD_eq_getElem?_getD, List.getElem?_eq_getElem hk]; rfl
  unfold BegRel
  rw [e, List.map_append]
  refine ⟨(h.1.trans (Fr.of_by0 (World.grownBy_alloc wr o none))).trans' (Fr.of_by hg) (fun q hq e => ?_), hown⟩
  have := (h.2.lt q e).1
  omega
theorem beg_form {W wr : World} {ds : List Int} {v : Value} (h : BegRel W ds ds.length v wr) (h0 : 0 < ds.length) : ∃ g c, v = .slice (some ⟨g, 0, none⟩) ds.length c ∧ W.heap.size ≤ g ∧ g < wr.heap.size := by
  refine own_form h.2 (fun e => ?_)
  rcases h.2.2 with ⟨_, e2⟩ | ⟨g, cap, cur, hv', _⟩
  · omega
  · rw [e] at hv'; cases hv'
def rmL (a0 : Option Addr) (n c0 g m c : Nat) (a2 : Option Addr) (i c2 q : Nat) : Array Value :=
  #[.slice a0 n c0, .slice (some ⟨g, 0, none⟩) m c, .slice a2 i c2, .slice (some ⟨q, 0, none⟩) 32 32, .int .i64 0, .int .u32 0, .int .u32 0, .slice none 0 0, .int .i64 0, .int .i64 0, .int .u32 0]
def Begun (w : World) (a0 a2 : Option Addr) (ws ds ins : List Int) (e : Ending) (w' : World) : Prop :=
  ∃ (R : RLay) (gb : Nat), e = .returned (.pointer (some ⟨R.rb, 0, none⟩)) ∧ R.ca = a0 ∧ R.ia = a2 ∧ R.ws = ws ∧ R.ins = ins ∧ R.dn = ds.length ∧ RAt w.heap.size w' R gb (.slice none 0 0) (initM ds) ∧ RWf w.heap.size R gb (.slice none 0 0) ∧ Fr (fun _ => False) w w' ∧
    w.heap.size ≤ R.rb ∧ w.heap.size ≤ R.db ∧ w.heap.size ≤ gb
theorem words_of {k : IntKind} {w : World} {a : Option Addr} {c : Nat} {l : List Int} (h : ListAt k w (.slice a l.length c) l) : ∀ i, i < l.length → ∃ b o, a = some ⟨b, o, none⟩ ∧ w.cell? ⟨b, o + i, none⟩ = some (.int k (l.getD i 0)) := by
  intro i hi
  rcases h with ⟨_, e⟩ | ⟨ad, c', e, hc⟩
  · rw [e] at hi; simp at hi
  · simp only [Value.slice.injEq] at e
    obtain ⟨rfl, _, rfl⟩ := e
    obtain ⟨b, o, sp⟩ := ad
    obtain ⟨h1, h2⟩ := hc i hi
    simp only at h1
    subst h1
    exact ⟨b, o, rfl, h2⟩
theorem beg_done {w w1 w2 : World} {a0 a2 : Option Addr} {c0 c c2 g : Nat} {ws ds ins : List Int} (hb : mayB ws.length ds.length = true) (L0 : ListAt .u32 w (.slice a0 ws.length c0) ws) (L2 : ListAt .u32 w (.slice a2 ins.length c2) ins) (b0 : Words ws) (b1 : Bytes ds) (b2 : Words ins) (il : ins.length ≤ 100000)
    (hr : BegRel w ds ds.length (.slice (some ⟨g, 0, none⟩) ds.length c) w1) (hf : Fr (fun _ => False) w1 w2) (hs : w1.heap.size < w2.heap.size) (hz : ∀ r, r < 32 → w2.cell? ⟨w1.heap.size, r, none⟩ = some (.int .u32 0) ∧ w2.frozen? ⟨w1.heap.size, r, none⟩ = false) :
    Begun w a0 a2 ws ds ins (.returned (.pointer (some ⟨w2.heap.size, 0, none⟩))) (w2.alloc (.cells (rmL a0 ws.length c0 g ds.length c a2 ins.length c2 w1.heap.size) 43)) := by
  have hmay : 1 ≤ (ws.length : Int) ∧ (ws.length : Int) ≤ 32768 ∧ 4 ≤ (ds.length : Int) ∧ (ds.length : Int) ≤ 65536 ∧ (ds.length : Int) % 4 = 0 := by
    unfold mayB at hb
    split at hb; · cases hb
    split at hb; · cases hb
    split at hb; · cases hb
    split at hb; · cases hb
    have := beq_iff_eq.1 hb
    omega
  obtain ⟨m1, m2, m3, m4, m5⟩ := hmay
  obtain ⟨f1, down⟩ := hr
  have hdlt := (down.lt g rfl)
  have W0 := words_of L0
  have W2 := words_of L2
  have fa : Fr (fun _ => False) w2 (w2.alloc (.cells (rmL a0 ws.length c0 g ds.length c a2 ins.length c2 w1.heap.size) 43)) := Fr.of_by0 (World.grownBy_alloc _ _ _)
  have fAll := (f1.trans hf).trans fa
  have hrow : ∀ o v, (rmL a0 ws.length c0 g ds.length c a2 ins.length c2 w1.heap.size)[o]? = some v → (w2.alloc (.cells (rmL a0 ws.length c0 g ds.length c a2 ins.length c2 w1.heap.size) 43)).cell? ⟨w2.heap.size, o, none⟩ = some v := fun o v h => row_cell _ _ _ o v h
  have hsz := f1.size
  have dcell : ∀ k, k < ds.length → w1.cell? ⟨g, k, none⟩ = some (.int .u8 (ds.getD k 0)) := fun k hk => by
    have := down.cellAt k (by omega)
    rw [this]
    simp [hk, List.getD_eq_getElem?_getD]
  have ca : ∀ a, a0 = some a → a.block < w.heap.size := fun a e => by
    obtain ⟨b, o, e', hc⟩ := W0 0 (by omega)
    rw [e] at e'
    obtain rfl := Option.some.inj e'
    exact World.block_lt_of_cell? w _ hc
  have ia : 0 < ins.length → ∀ a, a2 = some a → a.block < w.heap.size := fun p a e => by
    obtain ⟨b, o, e', hc⟩ := W2 0 p
    rw [e] at e'
    obtain rfl := Option.some.inj e'
    exact World.block_lt_of_cell? w _ hc
  have nf : ∀ q : Nat, q < w.heap.size → ¬ (q = w2.heap.size ∨ q = g ∨ q = w1.heap.size ∨ (Value.slice none 0 0).ownBlock = some q) := by
    rintro q hq (e | e | e | e)
    · omega
    · omega
    · omega
    · cases e
  refine ⟨{ rb := w2.heap.size, db := g, dc := c, dn := ds.length, cc := c0, ic := c2, ca := a0, ia := a2, ws := ws, ins := ins }, w1.heap.size, rfl, rfl, rfl, rfl, rfl, rfl, ?_, ?_, fAll, by show w.heap.size ≤ w2.heap.size; omega, hdlt.1, hsz⟩
  · refine ⟨fun o ho => hrow o _ ?_, hrow 0 _ rfl, hrow 1 _ rfl, hrow 2 _ rfl, hrow 3 _ rfl, hrow 7 _ rfl, World.ownsRow_nil _ _ _ _, fun o ho => World.frozen?_alloc_at _ _ _ _ rfl, fun r hr => fa.cell (hz r hr).1 id, fun r hr => (fa.frozen (hz r hr).1 id).trans (hz r hr).2, fun k hk => (hf.trans fa).cell (dcell k hk) id, fun k hk => ((hf.trans fa).frozen (dcell k hk) id).trans (down.frozenAt k),
      fun k hk => ?_, fun k hk => ?_, fun o _ => Int.le_refl _, fun o _ _ => by show (0 : Int) ≤ 4294967295; decide, fun k hk => b1 k hk, fAll.size, fun p a e => Nat.lt_of_lt_of_le (ia p a e) fAll.size⟩
    · unfold isR at ho
      rcases ho with rfl | rfl | rfl | rfl | rfl | rfl <;> rfl
    · obtain ⟨b, o, e, hc⟩ := W0 k hk
      exact ⟨b, o, e, fAll.cell hc id⟩
    · obtain ⟨b, o, e, hc⟩ := W2 k hk
      exact ⟨b, o, e, fAll.cell hc id⟩
  · refine ⟨by show g ≠ w2.heap.size; omega, ⟨by show w1.heap.size ≠ w2.heap.size; omega, by show w1.heap.size ≠ g; omega⟩, fun q e => (by cases e), fun a e => nf a.block (ca a e), fun p a e => nf a.block (ia p a e), ⟨by show 4 ≤ ds.length; omega, by show ds.length ≤ 65536; omega, by show ds.length % 4 = 0; omega⟩, ⟨by show 1 ≤ ws.length; omega, by show ws.length ≤ 32768; omega⟩, il, b0, b2⟩
set_option maxRecDepth 100000 in
set_option maxHeartbeats 4000000 in
theorem rm_begin (a0 a1 a2 : Option Addr) (n m i c0 c1 c2 : Nat) (ws ds ins : List Int) (w : World) (hn : ws.length = n) (hm : ds.length = m) (hi : ins.length = i) (hb : mayB n m = true) (L0 : ListAt .u32 w (.slice a0 n c0) ws) (L1 : ListAt .u8 w (.slice a1 m c1) ds) (L2 : ListAt .u32 w (.slice a2 i c2) ins) (b0 : Words ws) (b1 : Bytes ds) (b2 : Words ins) (il : ins.length ≤ 100000) :
    Calls Tryz.prog 14 #[.slice a0 n c0, .slice a1 m c1, .slice a2 i c2] w (Begun w a0 a2 ws ds ins) := by
  obtain ⟨i0, hi0, hz0, hz1, hz2⟩ := info_parts info6
  obtain ⟨i4, hi4, hy0, hy1, hy2⟩ := info_parts info24
  have b4 : i4.bytes * 32 ≤ 281474976710656 := by rw [hy2]; omega
  have b5 : 32 ≤ maxLen := by unfold maxLen; omega
  have hmm : 4 ≤ m ∧ m ≤ 65536 := by
    unfold mayB at hb
    split at hb; · cases hb
    split at hb; · cases hb
    split at hb; · cases hb
    split at hb; · cases hb
    omega
  obtain ⟨m4, m6⟩ := hmm
  have HM := Lib.hid hm
  have HD : Hid (∀ (w1 w2 : World) (g c : Nat), BegRel w ds ds.length (.slice (some ⟨g, 0, none⟩) ds.length c) w1 → Fr (fun _ => False) w1 w2 → w1.heap.size < w2.heap.size → (∀ r, r < 32 → w2.cell? ⟨w1.heap.size, r, none⟩ = some (.int .u32 0) ∧ w2.frozen? ⟨w1.heap.size, r, none⟩ = false) →
      Begun w a0 a2 ws ds ins (.returned (.pointer (some ⟨w2.heap.size, 0, none⟩))) (w2.alloc (.cells (rmL a0 n c0 g m c a2 i c2 w1.heap.size) 43))) :=
    Lib.hid (fun w1 w2 g c => by rw [← hn, ← hm, ← hi] at *; exact beg_done hb L0 L2 b0 b1 b2 il)
  have HL := Lib.hid (words_of (k := .u8) (by rw [← hm] at L1; exact L1))
  have HS : Hid (BegRel w ds 0 (.slice none 0 0) w) := Lib.hid ⟨Fr.refl _ _, World.ownsRow_nil _ _ _ _⟩
  have HR : Hid (∀ k, k < m → 0 ≤ ds.getD k 0 ∧ ds.getD k 0 ≤ 255) := Lib.hid (fun k hk => b1 k (by omega))
  clear hn hm hi hb L0 L1 L2 b0 b1 b2 il
  go_enter Tryz.func14, Tryz.ntmps14
  go_wp2
  go_loopw [7, 8] (fun v q wr => ∃ k : Nat, k ≤ m ∧ q = .int .i64 k ∧ Hid (BegRel w ds k v wr)) (fun _ q _ => m - (intOf q).toNat)
  case atStart => exact ⟨0, by omega, rfl, HS⟩
  case round =>
    obtain ⟨k, hk, rfl, HW⟩ := hrel
    clear HS
    by_cases hlt : k < m
    · obtain ⟨fb, fo, rfl, hc⟩ := HL.out k (by rw [HM.out]; exact hlt)
      obtain ⟨x0, x1⟩ := HR.out k hlt
      obtain ⟨x, hx⟩ : ∃ x, ds.getD k 0 = x := ⟨_, rfl⟩
      rw [hx] at hc x0 x1
      have g0 := HW.out.1.cell hc id
      have HX := Lib.hid hx
      have HKL : Hid (k < ds.length) := Lib.hid (by rw [HM.out]; exact hlt)
      have t0 : (0 : Int) ≤ k := by omega
      have t1 : (k : Int) < m := by omega
      have hbz := HW.out.1.size
      clear hc hx
      go_wp2_with (at_builtin; refine wpList_append_own_at _ rfl _ _ 23 rfl w.heap.size 5 i0 (.int .u8 0) 1 1 Tryz.underlying23 hi0 hz0 hz1 hz2 rfl (by decide) _ k _ (by rfl) (HW.out.2.alloc _) ⟨wr.heap.size, 0, none⟩ 1 1 [.int .u8 x] (by rfl) rfl (cell_one_new _ _ _) (by simp [Value.oneCell']) (by unfold maxLen; omega) (by omega) (by simp; omega) ?_; intro v' w6 hown' hgrow _ _)
      have HW' := Lib.hid (beg_next HW.out HKL.out HX.out hown' hgrow)
      clear hown' hgrow
      go_wp2
      go_roundw
      case rel => exact ⟨k + 1, by omega, by go_num, HW'⟩
      case measure => simp [intOf]; omega
    · obtain rfl : k = m := by omega
      have hw0 := HW.out
      rw [← HM.out] at hw0
      obtain ⟨g, c, rfl, _, _⟩ := beg_form hw0 (by rw [HM.out]; omega)
      have HW0 := Lib.hid hw0
      have hm1 := HM.out
      rw [hm1]
      clear hw0 hm1 hlt
      have HMM := Lib.hid (fun w1 => @made32 wr w1)
      go_wp2_with (refine wpList_make_full _ rfl _ _ 22 rfl wr.heap.size 40 i4 _ 1 Tryz.underlying22 hi4 hy0 hy1 .i64 .i64 (32 : Int) (32 : Int) 32 (by rfl) (by rfl) rfl rfl b4 b5 (Nat.le_refl _) ?_; intro w2 hown hgr; have HO := Lib.hid (HMM.out w2 hown); have HG := Lib.hid hgr; clear hown hgr)
      go_ret
      exact HD.out wr w2 g c HW0.out (Fr.of_by0 HG.out) HO.out.2 HO.out.1
end Go.Proofs.YthhahfggbjegmaaGreat
