/-
  Tables of types (layer 8): the walk of the law on finding structs and fields.
-/
import Derived.Test.YtlhkhgkgjdfcgaaQKindIb
import Derived.LoopTactic
import Derived.Deep.RegionHeld3
import Derived.Outline
namespace Go.Proofs.Ytlhkhgkgjdfcgaa
open Go.RowKit
set_option linter.unusedVariables false
set_option linter.unusedSimpArgs false
set_option maxRecDepth 100000 in
set_option maxHeartbeats 4000000 in
theorem finds_walk (w : World) (a : Option Addr) (n c : Nat) (xs : List ActV) (fsl : Nat → List Fld) (h : ActsAt w a n xs fsl) (hn : (n : Int) ≤ 9223372036854775807)
    (hsz : ∀ k, k < xs.length → (xs.getD k act0).name.size ≤ maxLen ∧ (xs.getD k act0).fn ≤ maxLen ∧ ∀ i, i < (fsl k).length → ((fsl k).getD i fld0).name.size ≤ maxLen) (m : Int) (nm : ByteArray) (hnm8 : nm.size ≤ maxLen) :
    Calls Try.prog 4 #[.slice a n c, .int .i64 m, .string nm] w fun r w' => r = .returned (.bool true) ∧ Fr (fun _ => False) w w' := by
  have HFEW := Lib.hid (few_of (c := c) h hn hsz)
  have HC := Lib.hid h.2
  have HN := Lib.hid h.1
  have HNM : Hid (∀ k, k < xs.length → ∀ f ∈ fsl k, f.name.size ≤ maxLen) := Lib.hid (fun k hk f hf => by
    obtain ⟨i, hi, rfl⟩ := List.mem_iff_getElem.1 hf
    have := (hsz k hk).2.2 i hi
    rw [List.getD_eq_getElem?_getD, List.getElem?_eq_getElem hi] at this
    exact this)
  have HNEW := Lib.hid (new_both w)
  have hnmi : (nm.size : Int) ≤ 9223372036854775807 := by unfold maxLen at hnm8; omega
  clear h hsz hnm8
  go_enter Try.func4, Try.ntmps4
  by_cases hlong : (100 : Int) < nm.size
  · have b100 : decide ((100 : Int) < nm.size) = true := decide_eq_true hlong
    go_wp2_with (first
      | (go_at_call 8; (with_reducible refine HFEW.out.mono ?_); rintro r w2 ⟨b, rfl, hb, rfl⟩; clear hb; cases b)
      | (go_at_call 9; (with_reducible refine (awake_of _).mono ?_); rintro r w3 ⟨rfl, hfr⟩; have HV := Lib.hid hfr; clear hfr))
    all_goals
      go_ret
      exact ⟨rfl, HV.out⟩
  · have b100 : decide ((100 : Int) < nm.size) = false := decide_eq_false hlong
    go_wp2_with (first
      | (go_at_call 8; (with_reducible refine HFEW.out.mono ?_); rintro r w2 ⟨b, rfl, hb, rfl⟩; have HBF := Lib.hid hb; clear hb; cases b))
    · go_wp2_with (go_at_call 9; (with_reducible refine (awake_of _).mono ?_); rintro r w3 ⟨rfl, hfr⟩; have HV := Lib.hid hfr; clear hfr)
      go_ret
      exact ⟨rfl, HV.out⟩
    · have hP : FewP xs fsl := by first | exact HBF.out rfl | exact HBF.out trivial
      have HP := Lib.hid hP
      have hn30 : n ≤ 30 := by have := hP.1; have := HN.out; omega
      clear hP HBF hn hlong b100 hnmi
      go_wp2_with (first
        | (go_at_call 10; (with_reducible refine HNEW.out.mono ?_); rintro r w1 ⟨rfl, hf1, hlt1, ht⟩; have HT1 := Lib.hid ht; clear ht hf1 hlt1)
        | (go_at_call 11; (with_reducible refine (begin_of _).mono ?_); rintro r w2 ⟨rfl, hf2, hlt2, hrat⟩; have HT2 := Lib.hid (both_start HT1.out hf2 hlt2 hrat); clear hf2 hlt2 hrat))
      go_loopw [8, 9] (fun v q wr => ∃ (k : Nat) (a' : Option Addr) (L c' : Nat), q = .int .i64 k ∧ k ≤ n ∧ v = .slice a' L c' ∧ Hid (BothS w wr w.heap.size a' L)) (fun _ q _ => n - (intOf q).toNat)
      case atStart => exact ⟨0, _, 3, 3, rfl, Nat.zero_le _, rfl, HT2⟩
      case round =>
        obtain ⟨k, a', L, c', rfl, hk, rfl, HW⟩ := hrel
        by_cases hlt : k < n
        · obtain ⟨g, o, rfl, hcell, hfl⟩ := HC.out k (by have := HN.out; omega)
          have hfn : (fsl k).length ≤ 1000 := by have := (HP.out.2 k (by have := HN.out; omega)).2.1; have := hfl.1; omega
          have hnm := HNM.out k (by have := HN.out; omega)
          obtain ⟨y, hy⟩ : ∃ y, xs.getD k act0 = y := ⟨_, rfl⟩
          rw [hy] at hcell hfl
          have hfr0 := HW.out.fr
          obtain ⟨_, q0, q1, q2, q3, q4⟩ := keepO (i := o + k * 5) (y := y) (fun j hj => by rw [Nat.add_assoc]; exact hcell j hj) hfr0
          have HD := Lib.hid (done_boths (c := c') HW.out hfl hfn hnm)
          have t0 : (0 : Int) ≤ k := by omega
          have t1 : (k : Int) < n := by omega
          clear hcell hfl hy hfn hnm hfr0
          go_wp2_with (go_at_call 12; (with_reducible refine HD.out.mono ?_); rintro r w4 ⟨A, B, a4, L4, c4, rfl, ht4⟩; have HT4 := Lib.hid (ht4.quiet (fr_al (Fr.refl _ _) (.cells #[.int .i64 A, .slice a4 L4 c4, .int .i64 B] 31))); clear ht4)
          go_roundw
          case rel => exact ⟨k + 1, _, L4, _, by go_num, by omega, rfl, HT4⟩
          case measure => simp [intOf]; omega
        · obtain rfl : n = k := by omega
          obtain ⟨es, fss, rs, rk, hL, hb⟩ := HW.out
          have hmat := hb.mat
          have h397 := hb.few
          have hl := hmat.len
          have hL4 : L ≤ 400 := by omega
          have HQ : Hid (∀ W, Fr (fun _ => False) wr W → Fr (fun _ => False) w W) := Lib.hid (fun W hW => HW.out.fr.trans hW)
          obtain ⟨A, B, C, hFA, hRF, hABC⟩ : ∃ A B C : Int, Calls Try.prog 21 #[.pointer (some ⟨w.heap.size, 0, none⟩), .string nm] wr (fun r w' => r = .returned (.tuple #[.int .i64 A, .int .i64 B]) ∧ Fr (fun _ => False) wr w') ∧ (∀ W, Fr (fun _ => False) wr W → Calls Try.prog 22 #[.slice a' L c', .string nm] W fun r w' => r = .returned (.int .i64 C) ∧ Fr (fun _ => False) W w') ∧ ((B = 0 ∧ C = A ∧ 0 ≤ A) ∨ (B = 4 ∧ A = 0 ∧ C = -1)) := by
            have hrf := hmat.rfind nm
            by_cases hk : findK es nm < es.length
            · refine ⟨3 + (findK es nm : Int), 0, 3 + (findK es nm : Int), (find_tab hb.tab nm).mono fun r w' hr => ?_, fun W hW => (rfind_of (by rw [hL]; exact (hb.quiet hW).doc.1) (by omega) nm).mono fun r w' hr => ?_, .inl ⟨rfl, rfl, by omega⟩⟩
              · unfold FindP at hr; rw [if_pos hk, if_pos hk] at hr; exact hr
              · obtain ⟨r1, r2⟩ := rfindP_found hr (by omega)
                rw [hrf, Int.natCast_add] at r1
                exact ⟨r1, r2⟩
            · refine ⟨0, 4, -1, (find_tab hb.tab nm).mono fun r w' hr => ?_, fun W hW => (rfind_of (by rw [hL]; exact (hb.quiet hW).doc.1) (by omega) nm).mono fun r w' hr => ?_, .inr ⟨rfl, rfl, rfl⟩⟩
              · unfold FindP at hr; rw [if_neg hk, if_neg hk] at hr; exact hr
              · unfold RFindP at hr
                have e : ¬ rs.findIdx (isRName nm) < rs.length := fun q => by unfold Proofs.Ytlhkhgkgjdfcgaa.rfind at hrf; omega
                rw [if_neg e] at hr
                exact hr
          have HFA := Lib.hid hFA
          have HRF := Lib.hid hRF
          have HFT : Hid (∀ W, Fr (fun _ => False) wr W → Calls Try.prog 23 #[.pointer (some ⟨w.heap.size, 0, none⟩), .int .i64 m, .string nm] W fun r w' => r = .returned (.tuple #[.agg #[.string (fieldA es fss m nm).name, .int .i64 (fieldA es fss m nm).type, .int .i64 (fieldA es fss m nm).off], .int .i64 (fieldB es fss m nm)]) ∧ Fr (fun _ => False) W w') := Lib.hid (fun W hW => field_tab (hb.quiet hW).tab m nm)
          have HI : Hid (∀ W, Calls Try.prog 24 #[.slice a' L c', .int .i64 m] W fun r w' => r = .returned (.bool (decide (0 ≤ m ∧ m < L))) ∧ W = w') := Lib.hid (fun W => is_of a' L c' m W)
          have hmf := hmat.field m nm
          rw [← hL] at hmf
          have HDOC : Hid (∀ N, N < L → ∃ g, a' = some ⟨g, 0, none⟩ ∧ g < wr.heap.size ∧ (∀ j, j < 6 → wr.cell? ⟨g, N * 6 + j, none⟩ = (rs.getD N rt0).vals[j]?) ∧ FldAt wr (rs.getD N rt0).fa (rs.getD N rt0).fn (dF fss N) ∧ (dF fss N).length ≤ 1000 ∧ dupB (dF fss N) = false) := Lib.hid (fun N hN => by
            rw [hL] at hN
            obtain ⟨g, e, hc⟩ := hb.doc.1.2 N hN
            have h1 : ∃ x, (rs.getD N rt0).vals[0]? = some x := ⟨_, rfl⟩
            obtain ⟨x, h1⟩ := h1
            exact ⟨g, e, by have := World.block_lt_of_cell? wr _ ((hc 0 (by decide)).trans h1); simpa using this, hc, (hb.doc.2 N hN).1, (hb.doc.2 N hN).2, hmat.dis N⟩)
          generalize fieldA es fss m nm = fA at hmf HFT
          generalize fieldB es fss m nm = fB at hmf HFT
          clear hFA hRF hb hmat h397 hl HW
          obtain ⟨f0, f1, f2⟩ := fA
          dsimp only at HFT
          rcases hmf with ⟨hin, hA2, rfl⟩ | ⟨N, rfl, hN, hk, hA2, rfl⟩ | ⟨N, rfl, hN, hk, hA2, hB2⟩
          · unfold fld0 at hA2
            injection hA2 with e0 e1 e2
            subst e0 e1 e2
            rw [decide_eq_false (by exact hin)] at HI
            rcases hABC with ⟨rfl, rfl, hA⟩ | ⟨rfl, rfl, rfl⟩
            all_goals
              first | (have dA : decide ((0 : Int) ≤ C) = true := decide_eq_true hA) | skip
              clear hL hin
              go_wp2_with (first
                | (go_at_call 21; (with_reducible refine HFA.out.mono ?_); rintro r w1 ⟨rfl, hf1⟩; have HF1 := Lib.hid hf1; clear hf1)
                | (go_at_call 22; (with_reducible refine (HRF.out _ HF1.out).mono ?_); rintro r w2 ⟨rfl, hf2⟩; have HF2 := Lib.hid (HF1.out.trans hf2); clear hf2)
                | (go_at_call 23; (with_reducible refine (HFT.out _ HF2.out).mono ?_); rintro r w3 ⟨rfl, hf3⟩; have HF3 := Lib.hid (HF2.out.trans hf3); clear hf3)
                | (go_at_call 24; (with_reducible refine (HI.out _).mono ?_); rintro r w4 ⟨rfl, rfl⟩)
                | (go_at_call 9; (with_reducible refine (awake_of _).mono ?_); rintro r w5 ⟨rfl, hf5⟩; have HF5 := Lib.hid hf5; have hz := two_box hf5; have z0 := hz.1 0 _ rfl; have z1 := hz.1 1 _ rfl; have z2 := hz.1 2 _ rfl; have y0 := hz.2 0 _ rfl; have y1 := hz.2 1 _ rfl; have y2 := hz.2 2 _ rfl; clear hf5 hz))
              all_goals
                go_ret
                exact ⟨rfl, (HQ.out _ (fr_al (fr_al HF3.out _) _)).trans HF5.out⟩
          · unfold fld0 at hA2
            injection hA2 with e0 e1 e2
            subst e0 e1 e2
            rw [decide_eq_true (by omega : (0 : Int) ≤ (N : Int) ∧ (N : Int) < L)] at HI
            obtain ⟨g, rfl, hg, hcell, hfl, hfew, hdup⟩ := HDOC.out N hN
            have c0 : wr.cell? ⟨g, N * 6, none⟩ = some (.int .i64 (rs.getD N rt0).kind) := hcell 0 (by decide)
            generalize (rs.getD N rt0).kind = kd at c0 hk
            have HC0 : Hid (∀ W, Fr (fun _ => False) wr W → W.cell? ⟨g, N * 6, none⟩ = some (.int .i64 kd)) := Lib.hid (fun W hW => hW.cell c0 id)
            have k5 : (kd == 5) = false := by rw [beq_eq_false_iff_ne]; exact hk
            have k5' : (kd != 5) = true := by rw [bne_iff_ne]; exact hk
            have t0 : (0 : Int) ≤ N := by omega
            have t1 : (N : Int) < L := by omega
            rcases hABC with ⟨rfl, rfl, hA⟩ | ⟨rfl, rfl, rfl⟩
            all_goals
              first | (have dA : decide ((0 : Int) ≤ C) = true := decide_eq_true hA) | skip
              clear hL hcell hfl hfew hdup c0 hk hN
              go_wp2_with (first
                | (go_at_call 21; (with_reducible refine HFA.out.mono ?_); rintro r w1 ⟨rfl, hf1⟩; have HF1 := Lib.hid hf1; clear hf1)
                | (go_at_call 22; (with_reducible refine (HRF.out _ HF1.out).mono ?_); rintro r w2 ⟨rfl, hf2⟩; have HF2 := Lib.hid (HF1.out.trans hf2); clear hf2)
                | (go_at_call 23; (with_reducible refine (HFT.out _ HF2.out).mono ?_); rintro r w3 ⟨rfl, hf3⟩; have HF3 := Lib.hid (HF2.out.trans hf3); have e0 := HC0.out _ (fr_al (fr_al HF3.out (.cells #[.string ⟨#[]⟩, .int .i64 0, .int .i64 0] 53)) (.cells #[.string ⟨#[]⟩, .int .i64 0, .int .i64 0] 53)); have e3 := HC0.out _ HF3.out; clear hf3)
                | (go_at_call 24; (with_reducible refine (HI.out _).mono ?_); rintro r w4 ⟨rfl, rfl⟩)
                | (go_at_call 9; (with_reducible refine (awake_of _).mono ?_); rintro r w5 ⟨rfl, hf5⟩; have HF5 := Lib.hid hf5; have hz := two_box hf5; have z0 := hz.1 0 _ rfl; have z1 := hz.1 1 _ rfl; have z2 := hz.1 2 _ rfl; have y0 := hz.2 0 _ rfl; have y1 := hz.2 1 _ rfl; have y2 := hz.2 2 _ rfl; clear hf5 hz))
              all_goals
                go_ret
                exact ⟨rfl, (HQ.out _ (fr_al (fr_al HF3.out _) _)).trans HF5.out⟩
          · rw [decide_eq_true (by omega : (0 : Int) ≤ (N : Int) ∧ (N : Int) < L)] at HI
            obtain ⟨g, rfl, hg, hcell, hfl, hfew, hdup⟩ := HDOC.out N hN
            have c0 : wr.cell? ⟨g, N * 6, none⟩ = some (.int .i64 5) := by rw [← hk]; exact hcell 0 (by decide)
            have c4 : wr.cell? ⟨g, N * 6 + 4, none⟩ = some (.slice (rs.getD N rt0).fa (rs.getD N rt0).fn (rs.getD N rt0).fc) := hcell 4 (by decide)
            generalize (rs.getD N rt0).fa = fa at c4 hfl
            generalize (rs.getD N rt0).fn = fn at c4 hfl
            generalize (rs.getD N rt0).fc = fc at c4
            generalize dF fss N = fs at hfl hfew hdup hA2 hB2
            have hfnl := hfl.1
            have hfn1 : fn ≤ 1000 := by omega
            have HNF := Lib.hid hfnl
            have HC0 : Hid (∀ W, Fr (fun _ => False) wr W → W.cell? ⟨g, N * 6, none⟩ = some (.int .i64 5)) := Lib.hid (fun W hW => hW.cell c0 id)
            have HC4 : Hid (∀ W b, wr.heap.size ≤ b → Fr (fun j => j = b) wr W → W.cell? ⟨g, N * 6 + 4, none⟩ = some (.slice fa fn fc) ∧ FldAt W fa fn fs) := Lib.hid (fun W b hb hW => ⟨hW.cell c4 (fun e => by simp only at e; omega), hfl.kept hW (fun g2 o e hne hh => by have := fld_lt hfl g2 o e hne; omega)⟩)
            have HON := Lib.hid (fun (j : Nat) (hj : j < fs.length) => fld_only hdup nm hj)
            have HA2 := Lib.hid hA2
            have HB2 := Lib.hid hB2
            have t0 : (0 : Int) ≤ N := by omega
            have t1 : (N : Int) < L := by omega
            rcases hABC with ⟨rfl, rfl, hA⟩ | ⟨rfl, rfl, rfl⟩
            all_goals
              first | (have dA : decide ((0 : Int) ≤ C) = true := decide_eq_true hA) | skip
              clear hL hcell hfl hfew hdup c0 hk hN c4 hA2 hB2 hfnl
              go_wp2_with (first
                | (go_at_call 21; (with_reducible refine HFA.out.mono ?_); rintro r w1 ⟨rfl, hf1⟩; have HF1 := Lib.hid hf1; clear hf1)
                | (go_at_call 22; (with_reducible refine (HRF.out _ HF1.out).mono ?_); rintro r w2 ⟨rfl, hf2⟩; have HF2 := Lib.hid (HF1.out.trans hf2); clear hf2)
                | (go_at_call 23; (with_reducible refine (HFT.out _ HF2.out).mono ?_); rintro r w3 ⟨rfl, hf3⟩; have HF3 := Lib.hid (HF2.out.trans hf3); have e0 := HC0.out _ (fr_al (fr_al HF3.out (.cells #[.string f0, .int .i64 f1, .int .i64 f2] 53)) (.cells #[.string ⟨#[]⟩, .int .i64 0, .int .i64 0] 53)); have e3 := HC0.out _ HF3.out; clear hf3)
                | (go_at_call 24; (with_reducible refine (HI.out _).mono ?_); rintro r w4 ⟨rfl, rfl⟩))
              have HS := Lib.hid (YW.start w3 #[.string f0, .int .i64 f1, .int .i64 f2] 53)
              have HZ := Lib.hid ((two_box (Fr.refl (fun _ => False) ((w3.alloc (.cells #[.string f0, .int .i64 f1, .int .i64 f2] 53)).alloc (.cells #[.string ⟨#[]⟩, .int .i64 0, .int .i64 0] 53)))).1)
              have HF6 := Lib.hid (fr_al (fr_al HF3.out (.cells #[.string f0, .int .i64 f1, .int .i64 f2] 53)) (.cells #[.string ⟨#[]⟩, .int .i64 0, .int .i64 0] 53))
              have lw3 := HF3.out.size
              clear e0 e3
              obtain ⟨w6, hw6⟩ : ∃ w6, (w3.alloc (.cells #[.string f0, .int .i64 f1, .int .i64 f2] 53)).alloc (.cells #[.string ⟨#[]⟩, .int .i64 0, .int .i64 0] 53) = w6 := ⟨_, rfl⟩
              rw [hw6] at HS HZ HF6 ⊢
              clear hw6
              obtain ⟨K, hK⟩ : ∃ K, fldK fs nm = K := ⟨_, rfl⟩
              have EB : Hid (wI K fn = fB) := Lib.hid (by rw [HB2.out, HNF.out, ← hK]; rfl)
              have EA : Hid (yI fs K fn = ⟨f0, f1, f2⟩) := Lib.hid (by rw [HA2.out, HNF.out, ← hK]; rfl)
              have HON2 : Hid (∀ i, i < fs.length → isFld nm (fs.getD i fld0) = decide (i = K)) := Lib.hid (by rw [← hK]; exact HON.out)
              clear hK HON HA2 HB2
              go_loopw [18, 20] (fun wv q wl => ∃ i : Nat, q = .int .i64 i ∧ i ≤ fn ∧ wv = .int .i64 (wI K i) ∧ Hid (YW w6 wl (w3.heap.size + 1) (yI fs K i))) (fun _ q _ => fn - (intOf q).toNat)
              case atStart => exact ⟨0, rfl, Nat.zero_le _, rfl, HS⟩
              case round =>
                obtain ⟨i, rfl, hi, rfl, HY⟩ := hrel
                obtain ⟨x4, hflw⟩ := HC4.out _ (w3.heap.size + 1) (by omega) ((HF6.out.mono (fun _ _ f => f.elim)).trans HY.out.fr)
                by_cases hlt2 : i < fn
                · obtain ⟨g2, o2, hfa, hc⟩ := hflw.2 i (by have := HNF.out; omega)
                  have hon := HON2.out i (by have := HNF.out; omega)
                  obtain ⟨f, hf⟩ : ∃ f, fs.getD i fld0 = f := ⟨_, rfl⟩
                  rw [hf] at hc hon
                  have HFE := Lib.hid hf
                  have q0 : wr.cell? ⟨g2, o2 + i * 3, none⟩ = some (.string f.name) := hc 0 (by decide)
                  have q1 : wr.cell? ⟨g2, o2 + i * 3 + 1, none⟩ = some (.int .i64 f.type) := hc 1 (by decide)
                  have q2 : wr.cell? ⟨g2, o2 + i * 3 + 2, none⟩ = some (.int .i64 f.off) := hc 2 (by decide)
                  have y0 : wr.cell? ⟨w3.heap.size + 1, 0, none⟩ = some (.string (yI fs K i).name) := HY.out.c 0 (by decide)
                  have y1 : wr.cell? ⟨w3.heap.size + 1, 1, none⟩ = some (.int .i64 (yI fs K i).type) := HY.out.c 1 (by decide)
                  have y2 : wr.cell? ⟨w3.heap.size + 1, 2, none⟩ = some (.int .i64 (yI fs K i).off) := HY.out.c 2 (by decide)
                  have z0 := HY.out.fz 0 (by decide)
                  have z1 := HY.out.fz 1 (by decide)
                  have z2 := HY.out.fz 2 (by decide)
                  have t2 : (0 : Int) ≤ i := by omega
                  have t3 : (i : Int) < fn := by omega
                  subst hfa
                  by_cases hiK : i = K
                  · have b0 : (f.name.toList == nm.toList) = true := by rw [decide_eq_true hiK] at hon; exact hon
                    have E1 : Hid (wI K (i + 1) = 0) := Lib.hid (by rw [← hiK]; exact wI_hit i)
                    have E2 : Hid (yI fs K (i + 1) = f) := Lib.hid (by rw [← hiK, yI_hit]; exact hf)
                    clear hon hc hf hflw hiK
                    go_wp2
                    go_roundw
                    case rel => exact ⟨i + 1, by go_num, by omega, by rw [E1.out], Lib.hid (by rw [E2.out]; exact HY.out.put f)⟩
                    case measure => simp [intOf]; omega
                  · have b0 : (f.name.toList == nm.toList) = false := by rw [decide_eq_false hiK] at hon; exact hon
                    have E1 : Hid (wI K (i + 1) = wI K i) := Lib.hid (wI_next hiK)
                    have E2 : Hid (yI fs K (i + 1) = yI fs K i) := Lib.hid (yI_next fs hiK)
                    clear hon hc hf hflw hiK
                    go_wp2
                    go_roundw
                    case rel => exact ⟨i + 1, by go_num, by omega, by rw [E1.out], Lib.hid (by rw [E2.out]; exact HY.out)⟩
                    case measure => simp [intOf]; omega
                · obtain rfl : fn = i := by omega
                  rw [EB.out]
                  have hy := HY.out
                  rw [EA.out] at hy
                  have HY2 := Lib.hid hy
                  have HNB : Hid (¬ (fun j => j = w3.heap.size + 1) w3.heap.size) := Lib.hid (by simp)
                  clear HY hy hflw
                  go_wp2_with (go_at_call 9; (with_reducible refine (awake_of _).mono ?_); rintro r w5 ⟨rfl, hf5⟩; have HF5 := Lib.hid hf5; have z0 := hf5.cell (HY2.out.fr.cell (HZ.out 0 _ rfl) HNB.out) id; have z1 := hf5.cell (HY2.out.fr.cell (HZ.out 1 _ rfl) HNB.out) id; have z2 := hf5.cell (HY2.out.fr.cell (HZ.out 2 _ rfl) HNB.out) id; have y0 := hf5.cell ((HY2.out.c 0 (by decide)).trans rfl) id; have y1 := hf5.cell ((HY2.out.c 1 (by decide)).trans rfl) id; have y2 := hf5.cell ((HY2.out.c 2 (by decide)).trans rfl) id; clear hf5)
                  all_goals
                    go_ret
                    exact ⟨rfl, ((HQ.out _ HF6.out).trans' HY2.out.fr (fun j hj e => by have := (HQ.out _ (Fr.refl _ _)).size; omega)).trans HF5.out⟩
end Go.Proofs.Ytlhkhgkgjdfcgaa
