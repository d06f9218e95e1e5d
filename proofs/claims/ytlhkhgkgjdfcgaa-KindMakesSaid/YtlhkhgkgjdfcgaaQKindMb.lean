/-
  Tables of types (layer 8): the walk of the law on what is made.
-/
import Derived.Test.YtlhkhgkgjdfcgaaQKindLb
import Derived.LoopTactic
import Derived.Deep.RegionHeld3
import Derived.Outline
namespace Go.Proofs.Ytlhkhgkgjdfcgaa
open Go.RowKit
set_option linter.unusedVariables false
set_option linter.unusedSimpArgs false
set_option maxRecDepth 100000 in
set_option maxHeartbeats 4000000 in
theorem makes_walk (w : World) (a : Option Addr) (n c : Nat) (xs : List ActV) (fsl : Nat → List Fld) (h : ActsAt w a n xs fsl) (hn : (n : Int) ≤ 9223372036854775807)
    (hsz : ∀ k, k < xs.length → (xs.getD k act0).name.size ≤ maxLen ∧ (xs.getD k act0).fn ≤ maxLen ∧ ∀ i, i < (fsl k).length → ((fsl k).getD i fld0).name.size ≤ maxLen) :
    Calls Try.prog 3 #[.slice a n c] w fun r w' => r = .returned (.bool true) ∧ Fr (fun _ => False) w w' := by
  have HFEW := Lib.hid (few_of (c := c) h hn hsz)
  have HC := Lib.hid h.2
  have HN := Lib.hid h.1
  have HNM : Hid (∀ k, k < xs.length → ∀ f ∈ fsl k, f.name.size ≤ maxLen) := Lib.hid (fun k hk f hf => by
    obtain ⟨i, hi, rfl⟩ := List.mem_iff_getElem.1 hf
    have := (hsz k hk).2.2 i hi
    rw [List.getD_eq_getElem?_getD, List.getElem?_eq_getElem hi] at this
    exact this)
  have HNEW := Lib.hid (new_both w)
  clear h hsz
  go_enter Try.func3, Try.ntmps3
  go_wp2_with (first
    | (go_at_call 8; (with_reducible refine HFEW.out.mono ?_); rintro r w2 ⟨b, rfl, hb, rfl⟩; have HBF := Lib.hid hb; clear hb; cases b))
  · go_wp2_with (go_at_call 9; (with_reducible refine (awake_of _).mono ?_); rintro r w3 ⟨rfl, hfr⟩; have HV := Lib.hid hfr; clear hfr)
    go_ret
    exact ⟨rfl, HV.out⟩
  · have hP : FewP xs fsl := by first | exact HBF.out rfl | exact HBF.out trivial
    have HP := Lib.hid hP
    have hn30 : n ≤ 30 := by have := hP.1; have := HN.out; omega
    clear hP HBF hn
    go_wp2_with (first
      | (go_at_call 10; (with_reducible refine HNEW.out.mono ?_); rintro r w1 ⟨rfl, hf1, hlt1, ht⟩; have HT1 := Lib.hid ht; clear ht hf1 hlt1)
      | (go_at_call 11; (with_reducible refine (begin_of _).mono ?_); rintro r w2 ⟨rfl, hf2, hlt2, hrat⟩; have HT2 := Lib.hid (both_start HT1.out hf2 hlt2 hrat); clear hf2 hlt2 hrat))
    go_loopw [4, 5] (fun v q wr => ∃ (k : Nat) (a' : Option Addr) (L c' : Nat), q = .int .i64 k ∧ k ≤ n ∧ v = .slice a' L c' ∧ Hid (BothS w wr w.heap.size a' L)) (fun _ q _ => n - (intOf q).toNat)
    case atStart => exact ⟨0, _, 3, 3, rfl, Nat.zero_le _, rfl, HT2⟩
    case round =>
      obtain ⟨k, a', L, c', rfl, hk, rfl, HW⟩ := hrel
      by_cases hlt : k < n
      · obtain ⟨g, o, rfl, hcell, hfl⟩ := HC.out k (by have := HN.out; omega)
        have hfn : (fsl k).length ≤ 1000 := by have := (HP.out.2 k (by have := HN.out; omega)).2.1; have := hfl.1; omega
        have hnm := HNM.out k (by have := HN.out; omega)
        obtain ⟨y, hy⟩ : ∃ y, xs.getD k act0 = y := ⟨_, rfl⟩
        rw [hy] at hcell hfl
        have hfr0 := HW.out.fr
        obtain ⟨_, q0, q1, q2, q3, q4⟩ := keepO (i := o + k * 5) (y := y) (fun j hj => by rw [Nat.add_assoc]; exact hcell j hj) hfr0
        have HD := Lib.hid (done_boths (c := c') HW.out hfl hfn hnm)
        have t0 : (0 : Int) ≤ k := by omega
        have t1 : (k : Int) < n := by omega
        clear hcell hfl hy hfn hnm hfr0
        go_wp2_with (go_at_call 12; (with_reducible refine HD.out.mono ?_); rintro r w4 ⟨A, B, a4, L4, c4, rfl, ht4⟩; have HT4 := Lib.hid (ht4.quiet (fr_al (Fr.refl _ _) (.cells #[.int .i64 A, .slice a4 L4 c4, .int .i64 B] 31))); clear ht4)
        go_roundw
        case rel => exact ⟨k + 1, _, L4, _, by go_num, by omega, rfl, HT4⟩
        case measure => simp [intOf]; omega
      · obtain rfl : n = k := by omega
        obtain ⟨es, fss, rs, rk, hL, hb⟩ := HW.out
        have hmat := hb.mat
        have h397 := hb.few
        have hl := hmat.len
        have hL4 : L ≤ 400 := by omega
        have HQ : Hid (∀ W, Fr (fun _ => False) wr W → Fr (fun _ => False) w W) := Lib.hid (fun W hW => HW.out.fr.trans hW)
        have HBB : Hid (∀ W, Fr (fun _ => False) wr W → Both w W w.heap.size a' es fss rs rk) := Lib.hid (fun W hW => hb.quiet hW)
        have HDC : Hid (Doc rs (dF fss) (szE es) (alE es) rk ∧ rs.length = L) := Lib.hid ⟨hmat.doc, hL.symm⟩
        have HSZ : Hid (∀ i V W, Fr (fun _ => False) wr V → Fr (fun _ => False) V W → Calls Try.prog 14 #[.pointer (some ⟨w.heap.size, 0, none⟩), .int .i64 i] W fun r w' => r = .returned (.int .i64 (szE es i)) ∧ Fr (fun _ => False) V w') := Lib.hid (fun i V W hV hW => (size_tab (hb.quiet (hV.trans hW)).tab i).mono fun r w' hr => ⟨hr.1, hW.trans hr.2⟩)
        have HAL : Hid (∀ i V W, Fr (fun _ => False) wr V → Fr (fun _ => False) V W → Calls Try.prog 16 #[.pointer (some ⟨w.heap.size, 0, none⟩), .int .i64 i] W fun r w' => r = .returned (.int .i64 (alE es i)) ∧ Fr (fun _ => False) V w') := Lib.hid (fun i V W hV hW => (align_tab (hb.quiet (hV.trans hW)).tab i).mono fun r w' hr => ⟨hr.1, hW.trans hr.2⟩)
        have HRSZ : Hid (∀ i V W, Fr (fun _ => False) wr V → Fr (fun _ => False) V W → Calls Try.prog 15 #[.slice a' L c', .int .i64 i] W fun r w' => r = .returned (.int .i64 (szE es i)) ∧ Fr (fun _ => False) V w') := Lib.hid (fun i V W hV hW => by
          have := rsize_of hmat.doc (by omega) _ i (Nat.le_refl _) W a' c' (hb.quiet (hV.trans hW)).doc
          rw [← hL] at this
          exact this.mono fun r w' hr => ⟨hr.1, hW.trans hr.2⟩)
        have HRAL : Hid (∀ i V W, Fr (fun _ => False) wr V → Fr (fun _ => False) V W → Calls Try.prog 17 #[.slice a' L c', .int .i64 i] W fun r w' => r = .returned (.int .i64 (alE es i)) ∧ Fr (fun _ => False) V w') := Lib.hid (fun i V W hV hW => by
          have := ralign_of hmat.doc (by omega) _ i (Nat.le_refl _) W a' c' (hb.quiet (hV.trans hW)).doc
          rw [← hL] at this
          exact this.mono fun r w' hr => ⟨hr.1, by rw [← hr.2]; exact hW⟩)
        have HSC : Hid (∀ i V W, Fr (fun _ => False) wr V → Fr (fun _ => False) V W → Calls Try.prog 19 #[.pointer (some ⟨w.heap.size, 0, none⟩), .int .i64 i] W fun r w' => r = .returned (.bool (scalarB (entF es i).kind)) ∧ Fr (fun _ => False) V w') := Lib.hid (fun i V W hV hW => (scalar_tab (hb.quiet (hV.trans hW)).tab i).mono fun r w' hr => ⟨hr.1, hW.trans hr.2⟩)
        have HCNT : Hid (∀ W, Fr (fun _ => False) wr W → Calls Try.prog 20 #[.pointer (some ⟨w.heap.size, 0, none⟩)] W fun r w' => r = .returned (.int .i64 L) ∧ W = w') := Lib.hid (fun W hW => by
          have := count_tab (hb.quiet hW).tab
          have e : (3 + (es.length : Int)) = L := by omega
          rw [e] at this
          exact this)
        have HMAT := Lib.hid hmat
        clear hb hmat h397 hl hL HW
        go_wp2
        go_loopw [9] (fun q wl => ∃ i : Int, q = .int .i64 i ∧ -1 ≤ i ∧ i ≤ L + 1 ∧ Hid (Fr (fun _ => False) wr wl)) (fun q _ => (L + 1 - (intOf q)).toNat)
        case atStart => exact ⟨-1, rfl, by omega, by omega, Lib.hid (Fr.refl _ _)⟩
        case round =>
          obtain ⟨i, rfl, hi0, hi1, HX⟩ := hrel
          by_cases hiL : i ≤ L
          · have dL : decide (i ≤ (L : Int)) = true := decide_eq_true hiL
            by_cases hin : 0 ≤ i ∧ i < L
            · obtain ⟨N, rfl⟩ := Int.eq_ofNat_of_zero_le hin.1
              have hN : N < L := by omega
              have hbw := HBB.out _ HX.out
              have hNr : N < rs.length := by rw [HDC.out.2]; exact hN
              obtain ⟨g, rfl, hcell⟩ := hbw.doc.1.2 N hNr
              obtain ⟨m0, m1, m2, m3, m4, m5⟩ := HMAT.out.ent hNr
              obtain ⟨hfl, hfw⟩ := hbw.doc.2 N hNr
              have hty := type_both hbw hNr
              rw [← m5] at hfl
              have c0 : wr.cell? ⟨g, N * 6, none⟩ = some (.int .i64 (entF es (N : Int)).kind) := by rw [m1]; exact hcell 0 (by decide)
              have c1 : wr.cell? ⟨g, N * 6 + 1, none⟩ = some (.int .i64 (entF es (N : Int)).elem) := by rw [m2]; exact hcell 1 (by decide)
              have c2 : wr.cell? ⟨g, N * 6 + 2, none⟩ = some (.int .i64 (entF es (N : Int)).len) := by rw [m3]; exact hcell 2 (by decide)
              have c3 : wr.cell? ⟨g, N * 6 + 3, none⟩ = some (.string (entF es (N : Int)).name) := by rw [m4]; exact hcell 3 (by decide)
              have c4 : wr.cell? ⟨g, N * 6 + 4, none⟩ = some (.slice (rs.getD N rt0).fa (entF es (N : Int)).fn (rs.getD N rt0).fc) := by rw [m5]; exact hcell 4 (by decide)
              have c5 : wr.cell? ⟨g, N * 6 + 5, none⟩ = some (.bool (rs.getD N rt0).opn) := hcell 5 (by decide)
              have HSCN := Lib.hid (HSC.out (N : Int))
              have HSZN := Lib.hid (HSZ.out (N : Int))
              have HALN := Lib.hid (HAL.out (N : Int))
              have HRSZN := Lib.hid (HRSZ.out (N : Int))
              have HRALN := Lib.hid (HRAL.out (N : Int))
              generalize (rs.getD N rt0).fa = ta at c4 hfl
              generalize (rs.getD N rt0).fc = tc at c4
              generalize (rs.getD N rt0).opn = op at c5
              generalize dF fss N = fs at hfl hfw hty
              generalize szE es (N : Int) = sz at HSZN HRSZN
              generalize alE es (N : Int) = al at HALN HRALN
              generalize entF es (N : Int) = e at c0 c1 c2 c3 c4 hfl hty HSCN
              obtain ⟨k, el, ln, nm, ea, fn, ec, es1, ea1⟩ := e
              dsimp only at c0 c1 c2 c3 c4 hfl hty HSCN
              have HTY := Lib.hid hty
              have HFL := Lib.hid hfl
              have HFW := Lib.hid hfw
              have HROW : Hid (∀ W, Fr (fun _ => False) wr W → W.cell? ⟨g, N * 6, none⟩ = some (.int .i64 k) ∧ W.cell? ⟨g, N * 6 + 1, none⟩ = some (.int .i64 el) ∧ W.cell? ⟨g, N * 6 + 2, none⟩ = some (.int .i64 ln) ∧ W.cell? ⟨g, N * 6 + 3, none⟩ = some (.string nm) ∧ W.cell? ⟨g, N * 6 + 4, none⟩ = some (.slice ta fn tc) ∧ W.cell? ⟨g, N * 6 + 5, none⟩ = some (.bool op)) := Lib.hid (fun W hW => ⟨hW.cell c0 id, hW.cell c1 id, hW.cell c2 id, hW.cell c3 id, hW.cell c4 id, hW.cell c5 id⟩)
              have t0 : (0 : Int) ≤ N := by omega
              have t1 : (N : Int) < L := by omega
              clear hty hfl hfw c0 c1 c2 c3 c4 c5 m0 m1 m2 m3 m4 m5 hcell hbw hNr hN hin hi0 hi1 hiL HSZ HAL HRSZ HRAL HSC HBB HMAT HDC
              go_wp2_with (go_at_call 13; (with_reducible refine HTY.out.mono ?_); rintro r w5 ⟨g2, cc2, rfl, hf5, hl5⟩; have HF5 := Lib.hid hf5; have HL5 := Lib.hid hl5; clear hf5 hl5)
              obtain ⟨w6, hw6⟩ : ∃ w6, w5.alloc (.cells #[.int .i64 k, .int .i64 el, .int .i64 ln, .string nm, .slice g2 fn cc2] 38) = w6 := ⟨_, rfl⟩
              have HF06 : Hid (Fr (fun _ => False) wr w6) := Lib.hid (by rw [← hw6]; exact fr_al HF5.out _)
              have HF6 := Lib.hid (HX.out.trans HF06.out)
              have HKP : Hid (∀ W, Fr (fun _ => False) w6 W → Fr (fun _ => False) w6 W ∧ W.cell? ⟨w5.heap.size, 0, none⟩ = some (.int .i64 k) ∧ W.cell? ⟨w5.heap.size, 1, none⟩ = some (.int .i64 el) ∧ W.cell? ⟨w5.heap.size, 2, none⟩ = some (.int .i64 ln) ∧ W.cell? ⟨w5.heap.size, 3, none⟩ = some (.string nm) ∧ W.cell? ⟨w5.heap.size, 4, none⟩ = some (.slice g2 fn cc2) ∧ W.cell? ⟨g, N * 6, none⟩ = some (.int .i64 k) ∧ W.cell? ⟨g, N * 6 + 1, none⟩ = some (.int .i64 el) ∧ W.cell? ⟨g, N * 6 + 2, none⟩ = some (.int .i64 ln) ∧ W.cell? ⟨g, N * 6 + 3, none⟩ = some (.string nm) ∧ W.cell? ⟨g, N * 6 + 4, none⟩ = some (.slice ta fn tc) ∧ W.cell? ⟨g, N * 6 + 5, none⟩ = some (.bool op)) := Lib.hid (fun W hW => by
                refine ⟨hW, hW.cell ?_ id, hW.cell ?_ id, hW.cell ?_ id, hW.cell ?_ id, hW.cell ?_ id, HROW.out W (HF06.out.trans hW)⟩ <;> rw [← hw6]
                · exact fcell w5 _ _ 0 _ rfl
                · exact fcell w5 _ _ 1 _ rfl
                · exact fcell w5 _ _ 2 _ rfl
                · exact fcell w5 _ _ 3 _ rfl
                · exact fcell w5 _ _ 4 _ rfl)
              have HSM : Hid (∀ W, Fr (fun _ => False) w6 W → Calls Try.prog 18 #[.agg #[.int .i64 k, .int .i64 el, .int .i64 ln, .string nm, .slice g2 fn cc2], .agg #[.int .i64 k, .int .i64 el, .int .i64 ln, .string nm, .slice ta fn tc, .bool op]] W fun r w' => r = .returned (.bool true) ∧ Fr (fun _ => False) w6 w') := Lib.hid (fun W hW => (same_of W k el ln nm g2 ta fn cc2 tc op fs (HL5.out.quiet ((show Fr (fun _ => False) w5 w6 by rw [← hw6]; exact fr_al (Fr.refl _ _) _).trans hW)) (HFL.out.quiet (HF06.out.trans hW)) HFW.out).mono fun r w' hr => ⟨hr.1, hW.trans hr.2⟩)
              rw [hw6]
              clear hw6 HROW HL5 HFL HFW HTY HF5
              go_region_held3 (fun W => Fr (fun _ => False) w6 W ∧ W.cell? ⟨w5.heap.size, 0, none⟩ = some (.int .i64 k) ∧ W.cell? ⟨w5.heap.size, 1, none⟩ = some (.int .i64 el) ∧ W.cell? ⟨w5.heap.size, 2, none⟩ = some (.int .i64 ln) ∧ W.cell? ⟨w5.heap.size, 3, none⟩ = some (.string nm) ∧ W.cell? ⟨w5.heap.size, 4, none⟩ = some (.slice g2 fn cc2) ∧ W.cell? ⟨g, N * 6, none⟩ = some (.int .i64 k) ∧ W.cell? ⟨g, N * 6 + 1, none⟩ = some (.int .i64 el) ∧ W.cell? ⟨g, N * 6 + 2, none⟩ = some (.int .i64 ln) ∧ W.cell? ⟨g, N * 6 + 3, none⟩ = some (.string nm) ∧ W.cell? ⟨g, N * 6 + 4, none⟩ = some (.slice ta fn tc) ∧ W.cell? ⟨g, N * 6 + 5, none⟩ = some (.bool op))
                (first | exact HKP.out _ (fr_drew (Fr.refl _ _)) | assumption | exact HKP.out _ (by assumption))
                (first
                  | (go_at_call 14; refine (HSZN.out w6 _ HF6.out (by first | exact fr_drew (Fr.refl _ _) | assumption)).mono ?_; rintro r w9 ⟨rfl, hf9⟩)
                  | (go_at_call 15; refine (HRSZN.out w6 _ HF6.out (by first | exact fr_drew (Fr.refl _ _) | assumption)).mono ?_; rintro r w10 ⟨rfl, hf10⟩)
                  | (go_at_call 16; refine (HALN.out w6 _ HF6.out (by first | exact fr_drew (Fr.refl _ _) | assumption)).mono ?_; rintro r w11 ⟨rfl, hf11⟩)
                  | (go_at_call 17; refine (HRALN.out w6 _ HF6.out (by first | exact fr_drew (Fr.refl _ _) | assumption)).mono ?_; rintro r w12 ⟨rfl, hf12⟩)
                  | (go_at_call 18; refine (HSM.out _ (by first | exact fr_drew (Fr.refl _ _) | assumption)).mono ?_; rintro r w13 ⟨rfl, hf13⟩))
              all_goals
                have HF13 := Lib.hid hf13
                have HK4 : Hid ((k = 1 ∧ scalarB k = true) ∨ (k = 2 ∧ scalarB k = true) ∨ (k = 3 ∧ scalarB k = true) ∨ (((k == 1) = false ∧ (k == 2) = false ∧ (k == 3) = false) ∧ scalarB k = false)) := Lib.hid (by
                  by_cases k1 : k = 1
                  · exact .inl ⟨k1, by rw [k1]; rfl⟩
                  · by_cases k2 : k = 2
                    · exact .inr (.inl ⟨k2, by rw [k2]; rfl⟩)
                    · by_cases k3 : k = 3
                      · exact .inr (.inr (.inl ⟨k3, by rw [k3]; rfl⟩))
                      · have b1 : (k == 1) = false := by rw [beq_eq_false_iff_ne]; exact k1
                        have b2 : (k == 2) = false := by rw [beq_eq_false_iff_ne]; exact k2
                        have b3 : (k == 3) = false := by rw [beq_eq_false_iff_ne]; exact k3
                        exact .inr (.inr (.inr ⟨⟨b1, b2, b3⟩, by unfold scalarB; rw [b1, b2, b3]; rfl⟩)))
                clear hf9 hf10 hf11 hf12 hf13 HSM HSZN HRSZN HALN HRALN
                generalize scalarB k = sb at HSCN HK4
                rcases HK4.out with ⟨rfl, rfl⟩ | ⟨rfl, rfl⟩ | ⟨rfl, rfl⟩ | ⟨⟨b1, b2, b3⟩, rfl⟩
                all_goals
                  clear HK4
                  go_wp2_with (go_at_call 19; (with_reducible refine (HSCN.out w6 _ HF6.out HF13.out).mono ?_); rintro r w14 ⟨rfl, hf14⟩; have HF14 := Lib.hid hf14; obtain ⟨_, x0, _⟩ := HKP.out _ hf14; clear hf14)
                  go_roundw
                  case rel => exact ⟨(N : Int) + 1, by go_num, by omega, by omega, Lib.hid (HF6.out.trans HF14.out)⟩
                  case measure => simp [intOf]; omega
            · have hbw := HBB.out _ HX.out
              have hin2 : ¬ (0 ≤ i ∧ i < (rs.length : Int)) := by rw [HDC.out.2]; exact hin
              obtain ⟨hty, hs0, ha0, hk0⟩ := hbw.none_of hin2
              have HTY := Lib.hid hty
              have HSCN := Lib.hid (HSC.out i)
              have HSZN := Lib.hid (HSZ.out i)
              have HALN := Lib.hid (HAL.out i)
              have HRSZN := Lib.hid (HRSZ.out i)
              have HRALN := Lib.hid (HRAL.out i)
              rw [hs0] at HSZN HRSZN
              rw [ha0] at HALN HRALN
              rw [hk0] at HSCN
              have hcase : (i = -1) ∨ (i = L ∧ decide ((0 : Int) ≤ i) = true ∧ decide (i < (L : Int)) = false) := by
                by_cases q : i = -1
                · exact .inl q
                · exact .inr ⟨by omega, decide_eq_true (by omega), decide_eq_false (by omega)⟩
              have HI := Lib.hid (And.intro hi0 (And.intro hi1 hiL))
              clear hty hs0 ha0 hk0 hbw hin hin2 hi0 hi1 hiL HSZ HAL HRSZ HRAL HSC HBB HMAT HDC
              rcases hcase with rfl | ⟨rfl, d0, d1⟩
              all_goals
                go_wp2_with (go_at_call 13; (with_reducible refine HTY.out.mono ?_); rintro r w5 ⟨rfl, hf5⟩; have HF5 := Lib.hid hf5; clear hf5)
                obtain ⟨w6, hw6⟩ : ∃ w6, w5.alloc (.cells #[.int .i64 0, .int .i64 0, .int .i64 0, .string ⟨#[]⟩, .slice none 0 0] 38) = w6 := ⟨_, rfl⟩
                have HF06 : Hid (Fr (fun _ => False) wr w6) := Lib.hid (by rw [← hw6]; exact fr_al HF5.out _)
                have HF6 := Lib.hid (HX.out.trans HF06.out)
                rw [hw6]
                clear hw6 HTY HF5
                refine wp_region_class (fun W => Fr (fun _ => False) w6 W) (by kernel_rfl) (by kernel_rfl) (fr_drew (Fr.refl _ _)) ?_
                repeat (first
                  | go_big_quiet_skip
                  | (go_big_quiet_want; go_big_quiet_op; first
                    | go_big_quiet_on
                    | (refine ⟨_, fun _ _ => rfl, ?_⟩; go_big_quiet_on)
                    | (apply Exists.intro; refine ⟨fun W hW => ?_, ?_⟩; (first | exact HSZN.out w6 W HF6.out hW | exact HRSZN.out w6 W HF6.out hW | exact HALN.out w6 W HF6.out hW | exact HRALN.out w6 W HF6.out hW); go_big_quiet_on)))
                refine wpQuiet_nil ?_
                intro w13 hf13
                have HF13 := Lib.hid hf13
                have HSB : Hid (scalarB 0 = false) := Lib.hid rfl
                rw [HSB.out] at HSCN
                clear hf13 HSZN HRSZN HALN HRALN
                go_wp2_with (go_at_call 19; (with_reducible refine (HSCN.out w6 _ HF6.out HF13.out).mono ?_); rintro r w14 ⟨rfl, hf14⟩; have HF14 := Lib.hid hf14; clear hf14)
                go_roundw
                case rel => first | exact ⟨0, by go_num, by omega, by omega, Lib.hid (HF6.out.trans HF14.out)⟩ | exact ⟨(L : Int) + 1, by go_num, by omega, by omega, Lib.hid (HF6.out.trans HF14.out)⟩
                case measure => simp [intOf] <;> omega
          · have dL : decide (i ≤ (L : Int)) = false := decide_eq_false hiL
            go_wp2_with (first
              | (go_at_call 20; (with_reducible refine (HCNT.out _ HX.out).mono ?_); rintro r vc ⟨rfl, rfl⟩)
              | (go_at_call 9; (with_reducible refine (awake_of _).mono ?_); rintro r v5 ⟨rfl, hfr⟩; have HV := Lib.hid (HX.out.trans hfr); clear hfr)
              | (go_at_call 20; (with_reducible refine (HCNT.out _ HV.out).mono ?_); rintro r vc ⟨rfl, rfl⟩))
            go_ret
            exact ⟨rfl, HQ.out _ HV.out⟩
end Go.Proofs.Ytlhkhgkgjdfcgaa
