/-
  Items (layer 5): the contract of settle, walked.
-/
import Derived.Test.YtfnlhammjallfaaAsmP
namespace Go.Proofs.Ytfnlhammjallfaa
open Go.RowKit
set_option linter.unusedVariables false
set_option linter.unusedSimpArgs false
/-- The frame at the label. -/
def StA (w : World) (l : List It) (goals : List Int) (sa sg : Value) (n : Nat) (a' : Act) (w' : World) : Prop :=
  ∃ (gs ga b i : Nat) (v u7 u8 u9 u10 u11 u12 u13 u14 u15 u16 u17 u18 u19 u20 u21 u22 u23 u24 u25 u26 u27 u28 u29 : Value),
    a' = { tmps := #[sa, sg, undef, undef, .pointer (some ⟨w.heap.size, 0, none⟩), .pointer (some ⟨b, 0, none⟩), v, u7, u8, u9, u10, u11, u12, u13, u14, u15, u16, u17, u18, u19, u20, u21, u22, u23, u24, u25, u26, u27, u28, u29], defers := [] } ∧ Hid (StJ w l goals sa sg n w.heap.size gs ga b v i w')
set_option maxRecDepth 100000 in
set_option maxHeartbeats 16000000 in
theorem c34 (a : Option Addr) (n c gg : Nat) (l : List It) (goals : List Int) (hn : n = l.length) (hfew : n ≤ 32768) (hfit : Fit l) (hgl : goals.length = n) (hgo : Goals goals n) (w : World) (hat : ItAt w.heap.size w a l) (hrg : IRow 0 w gg goals) :
    Calls Try.prog 34 #[.slice a n c, .slice (some ⟨gg, 0, none⟩) n n] w (SettleP l goals (.slice a n c) (.slice (some ⟨gg, 0, none⟩) n n) n w) := by
  obtain ⟨i0, hi, hz0, hz1, hz2⟩ := info_parts infoI
  have HMK : ∀ w : World, (Instr.makeSlice 46 (.int .i64 (n : Int)) (.int .i64 (n : Int))).run Try.prog w = .ok (.slice (some ⟨w.heap.size, 0, none⟩) n n) (w.alloc (.cells (madeCells (Value.int .i64 0).cells (n * 1)) 3)) := fun w => by
    have := run_make w 46 3 i0 (.int .i64 0) Try.underlying46 hi hz0 .i64 .i64 (n : Int) (n : Int) (by omega) (by omega) (by rw [hz2]; omega) (by omega)
    simpa [hz1] using this
  have HLS : Hid (∀ w3, Fr (fun _ => False) w w3 → Calls Try.prog 55 #[.slice a n c] w3 (RowP (szF l (fun _ => false)) w3)) := Lib.hid (fun w3 hf => c55 a n c l hn hfew hfit w3 ((hat.fr hf (fun _ h => h.elim)).mono hf.size))
  have HBR : Hid (∀ w3, Fr (fun _ => False) w w3 → Calls Try.prog 56 #[.slice a n c] w3 (NumP (natsI (nearF l (fun _ => false))) w3)) := Lib.hid (fun w3 hf => c56 a n c l hn hfew w3 ((hat.fr hf (fun _ h => h.elim)).mono hf.size))
  have HLEN : Hid ((szF l (fun _ => false)).length = n) := Lib.hid (by rw [szF_len]; exact hn.symm)
  have HN := Lib.hid hn
  have HRG := Lib.hid hrg
  have HGL := Lib.hid hgl
  have HGO := Lib.hid hgo
  have hgg := hrg.lt
  clear hi hz0 hz1 hz2 hn hrg hgl hgo hat
  go_enter Try.func34, Try.ntmps34
  go_wp2
  refine wp_scope_jumps 0 (StA w l goals (.slice a n c) (.slice (some ⟨gg, 0, none⟩) n n) n) (fun a' _ => lenOf (a'.tmps.getD 6 undef)) rfl ?_ ?_
  · go_upto_region 1 with fail
    have F0 : Hid (Fr (fun _ => False) w (w.alloc (.cells #[.slice none 0 0, .slice none 0 0, .slice none 0 0, .slice none 0 0] 71))) := Lib.hid (fr_al (Fr.refl _ _) _)
    have hb : w.heap.size < (w.alloc (.cells #[.slice none 0 0, .slice none 0 0, .slice none 0 0, .slice none 0 0] 71)).heap.size := alloc_lt _ _
    have HR0 := Lib.hid (heap_alloc_new w (.cells #[.slice none 0 0, .slice none 0 0, .slice none 0 0, .slice none 0 0] 71))
    generalize w.alloc (.cells #[.slice none 0 0, .slice none 0 0, .slice none 0 0, .slice none 0 0] 71) = W at *
    go_cut [5] (fun s5 wx => ∃ gs ga b : Nat, s5 = .pointer (some ⟨b, 0, none⟩) ∧ Hid (R1 w W (szF l (fun _ => false)) (.slice a n c) (.slice (some ⟨gg, 0, none⟩) n n) n gs ga b wx))
    case first =>
      have FW : Fr (fun _ => False) W W := Fr.refl _ _
      go_region_held3 (fun w' => Fr (fun _ => False) W w')
        (first | exact FW | assumption | exact fr_al (by assumption) _ | exact fr_al (fr_al (by assumption) _) _ | exact fr_al (fr_al (fr_al (by assumption) _) _) _ | exact fr_set (fr_set (fr_set (fr_set (by assumption) (by omega) _ _) (by omega) _ _) (by omega) _ _) (by omega) _ _ | exact fr_al (fr_set (fr_set (fr_set (fr_set (by assumption) (by omega) _ _) (by omega) _ _) (by omega) _ _) (by omega) _ _) _ | exact Fr.drewN (by assumption) 1 | exact Fr.drewN (fr_al (by assumption) _) 1 | exact Fr.drewN (fr_al (fr_al (by assumption) _) _) 1)
        (first | (go_at_call 55; (with_reducible refine (HLS.out _ (Fr.trans F0.out (by assumption))).mono ?_); rintro e w3 ⟨gs, rfl, hrow, hf⟩; have hff : Fr (fun _ => False) W w3 := Fr.trans (by assumption) hf; have hsl := hrow.lt; have hs := hf.size; have hge := hrow.ge; have hW3 : W.heap.size < w3.heap.size := (by first | omega | (simp at hge; omega)); have hne := Nat.ne_of_lt hW3; obtain ⟨hc, hfz⟩ := frcell hf; rw [HLEN.out]))
      all_goals
        go_wp2_with fail
        go_meet
        first
          | exact ⟨_, _, _, rfl, Lib.hid (R1a (Nat.le_of_lt hb) hrow hf)⟩
          | exact ⟨_, _, _, rfl, Lib.hid (R1b (Nat.le_of_lt hb) hrow hf)⟩
          | exact ⟨_, _, _, rfl, Lib.hid (R1c (Nat.le_of_lt hb) hrow hf)⟩
          | exact ⟨_, _, _, rfl, Lib.hid (R1d (Nat.le_of_lt hb) hrow hf)⟩
          | exact ⟨_, _, _, rfl, Lib.hid (R1e (Nat.le_of_lt hb) hrow hf)⟩
          | exact ⟨_, _, _, rfl, Lib.hid (R1f (Nat.le_of_lt hb) hrow hf)⟩
    case rest =>
      obtain ⟨gs, ga, b, rfl, HR⟩ := hcut
      have HWC := Lib.hid (F0.out.trans HR.out.fr)
      go_wp2_with (go_at_call 56; (with_reducible refine (HBR.out _ HWC.out).mono ?_); rintro e w4 ⟨v, rfl, hnum0, hf4⟩; have HJ : Hid (StJ w l goals (.slice a n c) (.slice (some ⟨gg, 0, none⟩) n n) n w.heap.size gs ga b v 0 w4) := Lib.hid (stj_first HN.out F0.out hb HR0.out HR.out hnum0 hf4); clear hnum0 hf4)
      go_step3
      obtain ⟨i, HJ⟩ : ∃ i : Nat, Hid (StJ w l goals (.slice a n c) (.slice (some ⟨gg, 0, none⟩) n n) n w.heap.size gs ga b v i w4) := ⟨0, HJ⟩
      obtain ⟨old, ho, hold⟩ := HJ.out.at_
      have HOLD := Lib.hid hold
      have hll : (szF l (farN l goals i)).length = n := by rw [szF_len]; exact HN.out.symm
      have KP := Lib.hid (c57 (.slice a n c) (.slice (some ⟨gg, 0, none⟩) n n) w.heap.size gs ga n (szF l (farN l goals i)) old hll ho hfew (szF_in _ _) HJ.out.n1 w4 HJ.out.sz hold)
      have e0 : w4.cell? ⟨b, 0, none⟩ = some (.slice a n c) := cell_of_row _ _ _ _ _ _ HJ.out.box
      have e1 : w4.cell? ⟨b, 1, none⟩ = some (.slice (some ⟨gg, 0, none⟩) n n) := cell_of_row _ _ _ _ _ _ HJ.out.box
      have e2 : w4.cell? ⟨b, 2, none⟩ = some (.slice (some ⟨gs, 0, none⟩) n n) := cell_of_row _ _ _ _ _ _ HJ.out.box
      have e3 : w4.cell? ⟨b, 3, none⟩ = some (.slice (some ⟨ga, 0, none⟩) n n) := cell_of_row _ _ _ _ _ _ HJ.out.box
      obtain ⟨av, cv, hv, _⟩ := HJ.out.num.form
      obtain ⟨m, hm⟩ : ∃ m, (natsI (nearF l (farN l goals i))).length = m := ⟨_, rfl⟩
      obtain ⟨m', hm'⟩ : ∃ m', (natsI (nearF l (nextF l goals (farN l goals i)))).length = m' := ⟨_, rfl⟩
      have HM := Lib.hid hm
      have HM' := Lib.hid hm'
      rw [hm] at hv
      have HV := Lib.hid hv
      have hsz5 := HJ.out.fr.size
      have hn2 := HJ.out.n2
      have hn3 := HJ.out.n3
      have hgsn : gg ≠ gs := by have := HJ.out.sz.ge; omega
      have KG : Hid (∀ w5, IRow w.heap.size w5 ga (atK (szF l (farN l goals i))) → Fr (fun j => j = ga) w4 w5 → Calls Try.prog 58 #[.agg #[.slice a n c, .slice (some ⟨gg, 0, none⟩) n n, .slice (some ⟨gs, 0, none⟩) n n, .slice (some ⟨ga, 0, none⟩) n n], .slice av m cv] w5 (GrowP 0 gs l goals (farN l goals i) w5)) := Lib.hid (fun w5 hra hf5 => by
        rw [← HV.out]
        refine c58 (.slice a n c) v 0 gg gs ga n l goals (farN l goals i) HN.out hfew HGL.out HGO.out hgsn (fun e => HJ.out.n1 e.symm) w5 ((HRG.out.fr HJ.out.fr id).fr hf5 (fun e => ?_)) ((HJ.out.sz.fr hf5 HJ.out.n1).mono (Nat.zero_le _)) (hra.mono (Nat.zero_le _)) (NumAt.mono (B := w.heap.size) (w := w5) (hf5.owns HJ.out.num (fun k hk e => ?_)) (Nat.zero_le _)) HJ.out.n7
        · have := hold.ge; omega
        · subst e; exact HJ.out.n8 hk)
      by_cases hlt : m' < m
      · have d1 : decide (m' < m) = true := decide_eq_true hlt
        have d2 : decide ((m' : Int) < (m : Int)) = true := decide_eq_true (by omega)
        have HLT := Lib.hid hlt
        clear hlt hm hm' hv hll ho hold
        rw [HV.out]
        go_wp2_with (first
          | (go_at_call 57; (with_reducible refine (KP.out).mono ?_); rintro e w5 ⟨rfl, hra, hf5⟩; have f0 := hf5.cell e0 (fun e => hn3 e.symm); have f1 := hf5.cell e1 (fun e => hn3 e.symm); have f2 := hf5.cell e2 (fun e => hn3 e.symm); have f3 := hf5.cell e3 (fun e => hn3 e.symm); have HRA := Lib.hid hra; have HF5 := Lib.hid hf5; clear hra hf5)
          | (go_at_call 58; (with_reducible refine (KG.out _ HRA.out HF5.out).mono ?_); rintro e w6 ⟨v6, rfl, hnum, hrs, hf6⟩; obtain ⟨a6, c6, hv6, _⟩ := hnum.form; rw [HM'.out] at hv6; subst hv6; have HNUM := Lib.hid hnum; have HRS := Lib.hid hrs; have HF6 := Lib.hid hf6; clear hnum hrs hf6))
        go_step3
        have HS : Hid (StJ w l goals (.slice a n c) (.slice (some ⟨gg, 0, none⟩) n n) n w.heap.size gs ga b (.slice a6 m' c6) (i + 1) w6) := Lib.hid (HJ.out.next HN.out HRA.out HF5.out HNUM.out ⟨HRS.out.heap, HJ.out.sz.ge⟩ HF6.out (by have h1 := HM.out; have h2 := HM'.out; rw [natsI_length] at h1 h2; rw [h1, h2]; exact HLT.out))
        exact ⟨rfl, ⟨gs, ga, b, i + 1, .slice a6 m' c6, _, _, _, _, _, _, _, _, _, _, _, _, _, _, _, _, _, _, _, _, _, _, _, rfl, HS⟩⟩
      · have d1 : decide (m' < m) = false := decide_eq_false hlt
        have d2 : decide ((m' : Int) < (m : Int)) = false := decide_eq_false (by omega)
        have HLT := Lib.hid hlt
        clear hlt hm hm' hv hll ho hold
        rw [HV.out]
        go_wp2_with (first
          | (go_at_call 57; (with_reducible refine (KP.out).mono ?_); rintro e w5 ⟨rfl, hra, hf5⟩; have f0 := hf5.cell e0 (fun e => hn3 e.symm); have f1 := hf5.cell e1 (fun e => hn3 e.symm); have f2 := hf5.cell e2 (fun e => hn3 e.symm); have f3 := hf5.cell e3 (fun e => hn3 e.symm); have HRA := Lib.hid hra; have HF5 := Lib.hid hf5; clear hra hf5)
          | (go_at_call 58; (with_reducible refine (KG.out _ HRA.out HF5.out).mono ?_); rintro e w6 ⟨v6, rfl, hnum, hrs, hf6⟩; obtain ⟨a6, c6, hv6, _⟩ := hnum.form; rw [HM'.out] at hv6; subst hv6; have k0 := hf6.cell f0 (fun e => hn2 e.symm); have k1 := hf6.cell f1 (fun e => hn2 e.symm); have k2 := hf6.cell f2 (fun e => hn2 e.symm); have k3 := hf6.cell f3 (fun e => hn2 e.symm); have hr6 : w6.heap[w.heap.size]? = some _ := (hf6.block _ (Nat.lt_of_lt_of_le (Array.getElem?_eq_some_iff.1 HJ.out.res).1 HF5.out.size) (fun e => HJ.out.n4 e.symm)).trans ((HF5.out.block _ (Array.getElem?_eq_some_iff.1 HJ.out.res).1 (fun e => HJ.out.n5 e.symm)).trans HJ.out.res); have r0 : w6.cell? ⟨w.heap.size, 0, none⟩ = some (.slice none 0 0) := cell_of_row _ _ _ _ _ _ hr6; have r1 : w6.cell? ⟨w.heap.size, 1, none⟩ = some (.slice none 0 0) := cell_of_row _ _ _ _ _ _ hr6; have r2 : w6.cell? ⟨w.heap.size, 2, none⟩ = some (.slice none 0 0) := cell_of_row _ _ _ _ _ _ hr6; have r3 : w6.cell? ⟨w.heap.size, 3, none⟩ = some (.slice none 0 0) := cell_of_row _ _ _ _ _ _ hr6; have z0 := frozen_of_row w6 w.heap.size 0 _ _ hr6; have z1 := frozen_of_row w6 w.heap.size 1 _ _ hr6; have z2 := frozen_of_row w6 w.heap.size 2 _ _ hr6; have z3 := frozen_of_row w6 w.heap.size 3 _ _ hr6; have HRS := Lib.hid hrs; have HF6 := Lib.hid hf6; clear hnum hrs hf6 hr6))
        simp only [Exit.jump]
        obtain ⟨s1, s2, s3, s4, s5⟩ := HJ.out.last HRA.out HF5.out ⟨HRS.out.heap, HJ.out.sz.ge⟩ HF6.out (by have h1 := HM.out; have h2 := HM'.out; rw [natsI_length] at h1 h2; rw [h1, h2]; exact HLT.out) (.slice a n c) (.slice (some ⟨gg, 0, none⟩) n n) (.slice (some ⟨gs, 0, none⟩) n n) (.slice (some ⟨ga, 0, none⟩) n n)
        exact bodyPost_ret (results_cell_row rfl _ _ w.heap.size 71 _ (0, 0) _ rfl s5 Try.underlying71 rfl (by kernel_rfl)) rfl ⟨gs, ga, rfl, s1, s2, s3, s4⟩
  · rintro a' wr ⟨gs, ga, b, i, v, u7, u8, u9, u10, u11, u12, u13, u14, u15, u16, u17, u18, u19, u20, u21, u22, u23, u24, u25, u26, u27, u28, u29, rfl, HJ⟩
    obtain ⟨old, ho, hold⟩ := HJ.out.at_
    have HOLD := Lib.hid hold
    have hll : (szF l (farN l goals i)).length = n := by rw [szF_len]; exact HN.out.symm
    have KP := Lib.hid (c57 (.slice a n c) (.slice (some ⟨gg, 0, none⟩) n n) w.heap.size gs ga n (szF l (farN l goals i)) old hll ho hfew (szF_in _ _) HJ.out.n1 wr HJ.out.sz hold)
    have e0 : wr.cell? ⟨b, 0, none⟩ = some (.slice a n c) := cell_of_row _ _ _ _ _ _ HJ.out.box
    have e1 : wr.cell? ⟨b, 1, none⟩ = some (.slice (some ⟨gg, 0, none⟩) n n) := cell_of_row _ _ _ _ _ _ HJ.out.box
    have e2 : wr.cell? ⟨b, 2, none⟩ = some (.slice (some ⟨gs, 0, none⟩) n n) := cell_of_row _ _ _ _ _ _ HJ.out.box
    have e3 : wr.cell? ⟨b, 3, none⟩ = some (.slice (some ⟨ga, 0, none⟩) n n) := cell_of_row _ _ _ _ _ _ HJ.out.box
    obtain ⟨av, cv, hv, _⟩ := HJ.out.num.form
    obtain ⟨m, hm⟩ : ∃ m, (natsI (nearF l (farN l goals i))).length = m := ⟨_, rfl⟩
    obtain ⟨m', hm'⟩ : ∃ m', (natsI (nearF l (nextF l goals (farN l goals i)))).length = m' := ⟨_, rfl⟩
    have HM := Lib.hid hm
    have HM' := Lib.hid hm'
    rw [hm] at hv
    have HV := Lib.hid hv
    have hsz5 := HJ.out.fr.size
    have hn2 := HJ.out.n2
    have hn3 := HJ.out.n3
    have hgsn : gg ≠ gs := by have := HJ.out.sz.ge; omega
    have KG : Hid (∀ w5, IRow w.heap.size w5 ga (atK (szF l (farN l goals i))) → Fr (fun j => j = ga) wr w5 → Calls Try.prog 58 #[.agg #[.slice a n c, .slice (some ⟨gg, 0, none⟩) n n, .slice (some ⟨gs, 0, none⟩) n n, .slice (some ⟨ga, 0, none⟩) n n], .slice av m cv] w5 (GrowP 0 gs l goals (farN l goals i) w5)) := Lib.hid (fun w5 hra hf5 => by
      rw [← HV.out]
      refine c58 (.slice a n c) v 0 gg gs ga n l goals (farN l goals i) HN.out hfew HGL.out HGO.out hgsn (fun e => HJ.out.n1 e.symm) w5 ((HRG.out.fr HJ.out.fr id).fr hf5 (fun e => ?_)) ((HJ.out.sz.fr hf5 HJ.out.n1).mono (Nat.zero_le _)) (hra.mono (Nat.zero_le _)) (NumAt.mono (B := w.heap.size) (w := w5) (hf5.owns HJ.out.num (fun k hk e => ?_)) (Nat.zero_le _)) HJ.out.n7
      · have := hold.ge; omega
      · subst e; exact HJ.out.n8 hk)
    by_cases hlt : m' < m
    · have d1 : decide (m' < m) = true := decide_eq_true hlt
      have d2 : decide ((m' : Int) < (m : Int)) = true := decide_eq_true (by omega)
      have HLT := Lib.hid hlt
      clear hlt hm hm' hv hll ho hold
      rw [HV.out]
      go_wp2_with (first
        | (go_at_call 57; (with_reducible refine (KP.out).mono ?_); rintro e w5 ⟨rfl, hra, hf5⟩; have f0 := hf5.cell e0 (fun e => hn3 e.symm); have f1 := hf5.cell e1 (fun e => hn3 e.symm); have f2 := hf5.cell e2 (fun e => hn3 e.symm); have f3 := hf5.cell e3 (fun e => hn3 e.symm); have HRA := Lib.hid hra; have HF5 := Lib.hid hf5; clear hra hf5)
        | (go_at_call 58; (with_reducible refine (KG.out _ HRA.out HF5.out).mono ?_); rintro e w6 ⟨v6, rfl, hnum, hrs, hf6⟩; obtain ⟨a6, c6, hv6, _⟩ := hnum.form; rw [HM'.out] at hv6; subst hv6; have HNUM := Lib.hid hnum; have HRS := Lib.hid hrs; have HF6 := Lib.hid hf6; clear hnum hrs hf6))
      go_step3
      have HS : Hid (StJ w l goals (.slice a n c) (.slice (some ⟨gg, 0, none⟩) n n) n w.heap.size gs ga b (.slice a6 m' c6) (i + 1) w6) := Lib.hid (HJ.out.next HN.out HRA.out HF5.out HNUM.out ⟨HRS.out.heap, HJ.out.sz.ge⟩ HF6.out (by have h1 := HM.out; have h2 := HM'.out; rw [natsI_length] at h1 h2; rw [h1, h2]; exact HLT.out))
      refine ⟨rfl, ⟨gs, ga, b, i + 1, .slice a6 m' c6, _, _, _, _, _, _, _, _, _, _, _, _, _, _, _, _, _, _, _, _, _, _, _, rfl, HS⟩, ?_⟩
      have hl := HLT.out
      simp [lenOf]
      omega
    · have d1 : decide (m' < m) = false := decide_eq_false hlt
      have d2 : decide ((m' : Int) < (m : Int)) = false := decide_eq_false (by omega)
      have HLT := Lib.hid hlt
      clear hlt hm hm' hv hll ho hold
      rw [HV.out]
      go_wp2_with (first
        | (go_at_call 57; (with_reducible refine (KP.out).mono ?_); rintro e w5 ⟨rfl, hra, hf5⟩; have f0 := hf5.cell e0 (fun e => hn3 e.symm); have f1 := hf5.cell e1 (fun e => hn3 e.symm); have f2 := hf5.cell e2 (fun e => hn3 e.symm); have f3 := hf5.cell e3 (fun e => hn3 e.symm); have HRA := Lib.hid hra; have HF5 := Lib.hid hf5; clear hra hf5)
        | (go_at_call 58; (with_reducible refine (KG.out _ HRA.out HF5.out).mono ?_); rintro e w6 ⟨v6, rfl, hnum, hrs, hf6⟩; obtain ⟨a6, c6, hv6, _⟩ := hnum.form; rw [HM'.out] at hv6; subst hv6; have k0 := hf6.cell f0 (fun e => hn2 e.symm); have k1 := hf6.cell f1 (fun e => hn2 e.symm); have k2 := hf6.cell f2 (fun e => hn2 e.symm); have k3 := hf6.cell f3 (fun e => hn2 e.symm); have hr6 : w6.heap[w.heap.size]? = some _ := (hf6.block _ (Nat.lt_of_lt_of_le (Array.getElem?_eq_some_iff.1 HJ.out.res).1 HF5.out.size) (fun e => HJ.out.n4 e.symm)).trans ((HF5.out.block _ (Array.getElem?_eq_some_iff.1 HJ.out.res).1 (fun e => HJ.out.n5 e.symm)).trans HJ.out.res); have r0 : w6.cell? ⟨w.heap.size, 0, none⟩ = some (.slice none 0 0) := cell_of_row _ _ _ _ _ _ hr6; have r1 : w6.cell? ⟨w.heap.size, 1, none⟩ = some (.slice none 0 0) := cell_of_row _ _ _ _ _ _ hr6; have r2 : w6.cell? ⟨w.heap.size, 2, none⟩ = some (.slice none 0 0) := cell_of_row _ _ _ _ _ _ hr6; have r3 : w6.cell? ⟨w.heap.size, 3, none⟩ = some (.slice none 0 0) := cell_of_row _ _ _ _ _ _ hr6; have z0 := frozen_of_row w6 w.heap.size 0 _ _ hr6; have z1 := frozen_of_row w6 w.heap.size 1 _ _ hr6; have z2 := frozen_of_row w6 w.heap.size 2 _ _ hr6; have z3 := frozen_of_row w6 w.heap.size 3 _ _ hr6; have HRS := Lib.hid hrs; have HF6 := Lib.hid hf6; clear hnum hrs hf6 hr6))
      simp only [Exit.jump]
      obtain ⟨s1, s2, s3, s4, s5⟩ := HJ.out.last HRA.out HF5.out ⟨HRS.out.heap, HJ.out.sz.ge⟩ HF6.out (by have h1 := HM.out; have h2 := HM'.out; rw [natsI_length] at h1 h2; rw [h1, h2]; exact HLT.out) (.slice a n c) (.slice (some ⟨gg, 0, none⟩) n n) (.slice (some ⟨gs, 0, none⟩) n n) (.slice (some ⟨ga, 0, none⟩) n n)
      exact bodyPost_ret (results_cell_row rfl _ _ w.heap.size 71 _ (0, 0) _ rfl s5 Try.underlying71 rfl (by kernel_rfl)) rfl ⟨gs, ga, rfl, s1, s2, s3, s4⟩
end Go.Proofs.Ytfnlhammjallfaa
