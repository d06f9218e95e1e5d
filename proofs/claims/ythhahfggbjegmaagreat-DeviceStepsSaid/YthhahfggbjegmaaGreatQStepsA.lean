/-
  The law that steps and failures one by one are as the document says (layer 3): its walk.
-/
import Derived.Test.YthhahfggbjegmaaGreatQRunsB
import Derived.Deep.Grids
namespace Go.Proofs.YthhahfggbjegmaaGreat
open Go.RowKit
set_option linter.unusedVariables false
set_option linter.unusedSimpArgs false
set_option maxRecDepth 100000 in
set_option maxHeartbeats 8000000 in
theorem steps_few (a0 a1 a2 a3 a4 : Option Addr) (n m i f q c0 c1 c2 c3 c4 : Nat) (N : Int) (w : World) (hq : q ≤ 9223372036854775807) (h : fewB n m i f N = false ∨ (fewB n m i f N = true ∧ (400 < q ∨ 32768 < n ∨ 65536 < m))) :
    Calls Tryz.prog 4 #[.agg #[.slice a0 n c0, .slice a1 m c1, .slice a2 i c2, .slice a3 f c3, .int .i64 N], .slice a4 q c4] w fun e w' => e = .returned (.bool true) ∧ Fr (fun _ => False) w w' := by
  obtain ⟨wB, hwB⟩ : ∃ wB : World, wB = w.alloc (.cells #[.slice a0 n c0, .slice a1 m c1, .slice a2 i c2, .slice a3 f c3, .int .i64 N] 26) := ⟨_, rfl⟩
  have hF : Fr (fun _ => False) w wB := by rw [hwB]; exact Fr.of_by0 (World.grownBy_alloc _ _ _)
  have HF := Lib.hid hF
  have HX : Hid (∀ W, Fr (fun _ => False) wB W → W.cell? ⟨w.heap.size, 0, none⟩ = some (.slice a0 n c0) ∧ W.cell? ⟨w.heap.size, 1, none⟩ = some (.slice a1 m c1) ∧ W.cell? ⟨w.heap.size, 2, none⟩ = some (.slice a2 i c2) ∧ W.cell? ⟨w.heap.size, 3, none⟩ = some (.slice a3 f c3) ∧ W.cell? ⟨w.heap.size, 4, none⟩ = some (.int .i64 N)) := Lib.hid (fun W hW => box_cells (by rw [← hwB]; exact hW))
  obtain ⟨x0, x1, x2, x3, x4⟩ := HX.out wB (Fr.refl _ _)
  have H18 := Lib.hid (dv18 a0 a1 a2 a3 n m i f c0 c1 c2 c3 N wB)
  obtain ⟨B, hB⟩ : ∃ B, w.heap.size = B := ⟨_, rfl⟩
  rw [hB] at HX x0 x1 x2 x3 x4
  clear hF
  rcases h with h | ⟨h, hh⟩
  · rw [h] at H18
    clear h
    go_enter Tryz.func4, Tryz.ntmps4
    go_wp2_with (first
      | (go_at_call 6; (try rw [← hwB]); (with_reducible refine H18.out.mono ?_); rintro e w1 ⟨rfl, hg⟩; have H1 := Lib.hid hg; clear x0 x1 x2 x3 x4; obtain ⟨x0, x1, x2, x3, x4⟩ := HX.out _ hg; clear hg)
      | (go_at_call 7; (with_reducible refine (dv19 _).mono ?_); rintro e w2 ⟨rfl, hg⟩; have H2 := Lib.hid (H1.out.trans hg); clear hg))
    go_ret
    exact ⟨rfl, HF.out.trans H2.out⟩
  · rw [h] at H18
    have hfew := of_decide_eq_true h
    have hn : n ≤ 33000 := by omega
    have hm : m ≤ 66000 := by omega
    clear h hfew
    by_cases h1 : 400 < q
    · have d1 : (400 : Int) < q := by omega
      clear hh h1
      go_enter Tryz.func4, Tryz.ntmps4
      go_wp2_with (first
        | (go_at_call 6; (try rw [← hwB]); (with_reducible refine H18.out.mono ?_); rintro e w1 ⟨rfl, hg⟩; have H1 := Lib.hid hg; clear x0 x1 x2 x3 x4; obtain ⟨x0, x1, x2, x3, x4⟩ := HX.out _ hg; clear hg)
        | (go_at_call 7; (with_reducible refine (dv19 _).mono ?_); rintro e w2 ⟨rfl, hg⟩; have H2 := Lib.hid (H1.out.trans hg); clear hg))
      go_ret
      exact ⟨rfl, HF.out.trans H2.out⟩
    by_cases h2 : 32768 < n
    · have d1 : decide ((400 : Int) < q) = false := decide_eq_false (by omega)
      have d2 : decide ((32768 : Int) < n) = true := decide_eq_true (by omega)
      have d3 : (32768 : Int) < n := by omega
      clear hh h1
      go_enter Tryz.func4, Tryz.ntmps4
      go_wp2_with (first
        | (go_at_call 6; (try rw [← hwB]); (with_reducible refine H18.out.mono ?_); rintro e w1 ⟨rfl, hg⟩; have H1 := Lib.hid hg; clear x0 x1 x2 x3 x4; obtain ⟨x0, x1, x2, x3, x4⟩ := HX.out _ hg; clear hg)
        | (go_at_call 7; (with_reducible refine (dv19 _).mono ?_); rintro e w2 ⟨rfl, hg⟩; have H2 := Lib.hid (H1.out.trans hg); clear hg))
      go_ret
      exact ⟨rfl, HF.out.trans H2.out⟩
    · have d1 : decide ((400 : Int) < q) = false := decide_eq_false (by omega)
      have d2 : decide ((32768 : Int) < n) = false := decide_eq_false (by omega)
      have d3 : (65536 : Int) < m := by omega
      clear hh h1 h2
      go_enter Tryz.func4, Tryz.ntmps4
      go_wp2_with (first
        | (go_at_call 6; (try rw [← hwB]); (with_reducible refine H18.out.mono ?_); rintro e w1 ⟨rfl, hg⟩; have H1 := Lib.hid hg; clear x0 x1 x2 x3 x4; obtain ⟨x0, x1, x2, x3, x4⟩ := HX.out _ hg; clear hg)
        | (go_at_call 7; (with_reducible refine (dv19 _).mono ?_); rintro e w2 ⟨rfl, hg⟩; have H2 := Lib.hid (H1.out.trans hg); clear hg))
      go_ret
      exact ⟨rfl, HF.out.trans H2.out⟩
set_option maxRecDepth 100000 in
set_option maxHeartbeats 8000000 in
theorem steps_no (a0 a1 a2 a3 a4 : Option Addr) (n m i f q c0 c1 c2 c3 c4 : Nat) (N : Int) (w : World) (h : fewB n m i f N = true) (hq : q ≤ 400) (hn : n ≤ 32768) (hm : m ≤ 65536) (hmay : mayB n m = false) :
    Calls Tryz.prog 4 #[.agg #[.slice a0 n c0, .slice a1 m c1, .slice a2 i c2, .slice a3 f c3, .int .i64 N], .slice a4 q c4] w fun e w' => e = .returned (.bool true) ∧ Fr (fun _ => False) w w' := by
  obtain ⟨wB, hwB⟩ : ∃ wB : World, wB = w.alloc (.cells #[.slice a0 n c0, .slice a1 m c1, .slice a2 i c2, .slice a3 f c3, .int .i64 N] 26) := ⟨_, rfl⟩
  have hF : Fr (fun _ => False) w wB := by rw [hwB]; exact Fr.of_by0 (World.grownBy_alloc _ _ _)
  have HF := Lib.hid hF
  have HX : Hid (∀ W, Fr (fun _ => False) wB W → W.cell? ⟨w.heap.size, 0, none⟩ = some (.slice a0 n c0) ∧ W.cell? ⟨w.heap.size, 1, none⟩ = some (.slice a1 m c1) ∧ W.cell? ⟨w.heap.size, 2, none⟩ = some (.slice a2 i c2) ∧ W.cell? ⟨w.heap.size, 3, none⟩ = some (.slice a3 f c3) ∧ W.cell? ⟨w.heap.size, 4, none⟩ = some (.int .i64 N)) := Lib.hid (fun W hW => box_cells (by rw [← hwB]; exact hW))
  obtain ⟨x0, x1, x2, x3, x4⟩ := HX.out wB (Fr.refl _ _)
  have H18 := Lib.hid (dv18 a0 a1 a2 a3 n m i f c0 c1 c2 c3 N wB)
  rw [h] at H18
  have H20 := Lib.hid (fun W => dv20_no a0 n c0 a1 m c1 (.slice a2 i c2) (by omega) (by omega) hmay W)
  have d1 : decide ((400 : Int) < q) = false := decide_eq_false (by omega)
  have d2 : decide ((32768 : Int) < n) = false := decide_eq_false (by omega)
  have d3 : decide ((65536 : Int) < m) = false := decide_eq_false (by omega)
  obtain ⟨B, hB⟩ : ∃ B, w.heap.size = B := ⟨_, rfl⟩
  rw [hB] at HX x0 x1 x2 x3 x4
  clear h hmay hF hq hn hm
  go_enter Tryz.func4, Tryz.ntmps4
  go_wp2_with (first
    | (go_at_call 6; (try rw [← hwB]); (with_reducible refine H18.out.mono ?_); rintro e w1 ⟨rfl, hg⟩; have H1 := Lib.hid hg; clear x0 x1 x2 x3 x4; obtain ⟨x0, x1, x2, x3, x4⟩ := HX.out _ hg; clear hg)
    | (go_at_call 8; (with_reducible refine (H20.out _).mono ?_); rintro e w2 ⟨rfl, rfl⟩)
    | (go_at_call 7; (with_reducible refine (dv19 _).mono ?_); rintro e w2 ⟨rfl, hg⟩; have H2 := Lib.hid (H1.out.trans hg); clear hg))
  go_ret
  exact ⟨rfl, HF.out.trans H2.out⟩
theorem adv_le (L : Lay) (hc : CodeOk L) (s : MSt) : (advM L s).c 39 ≤ s.c 39 + 1 := by
  unfold advM
  split
  · rename_i t ht
    have h2 := exec5_steps (by have := (fetch_ok hc s).2.2.2.1; omega) ht
    show updN t.c 39 (t.c 39 + 1) 39 ≤ _
    rw [updN_same, h2]
    omega
  · show updN s.c 40 2 39 ≤ _
    rw [updN_other (by decide)]
    omega
theorem stepM_ok {L : Lay} (hc : CodeOk L) {s : MSt} (h : (s.log.length : Int) ≤ s.c 39) : ((stepM L s).log.length : Int) ≤ (stepM L s).c 39 ∧ (stepM L s).c 39 ≤ s.c 39 + 1 := by
  unfold stepM
  split
  · exact ⟨adv_log hc h, adv_le L hc s⟩
  · exact ⟨h, by omega⟩
theorem failS_ok {s : MSt} (h : (s.log.length : Int) ≤ s.c 39) : ((failS s).log.length : Int) ≤ (failS s).c 39 ∧ (failS s).c 39 ≤ s.c 39 + 1 := by
  unfold failS
  split
  · exact ⟨fail_log h, by rw [(fail_steps s).1]; omega⟩
  · exact ⟨h, by omega⟩
def StepRel (wB : World) (ba bb : Nat) (L : Lay) (R : RLay) (k : Nat) (wr : World) : Prop :=
  ∃ s lv gb rv, MPair wB wr ba bb L lv s R gb rv s ∧ (s.log.length : Int) ≤ s.c 39 ∧ s.c 39 ≤ k
set_option maxRecDepth 100000 in
set_option maxHeartbeats 16000000 in
theorem steps_yes (a0 a1 a2 a3 a4 : Option Addr) (n m i f q c0 c1 c2 c3 c4 : Nat) (N : Int) (w : World) (ws ds ins fs : List Int) (F : Nat → Bool) (hn : ws.length = n) (hm : ds.length = m) (hi : ins.length = i)
    (h : fewB n m i f N = true) (hq : q ≤ 400) (hn2 : n ≤ 32768) (hm2 : m ≤ 65536) (hmay : mayB n m = true) (L0 : ListAt .u32 w (.slice a0 n c0) ws) (L1 : ListAt .u8 w (.slice a1 m c1) ds) (L2 : ListAt .u32 w (.slice a2 i c2) ins)
    (b0 : Words ws) (b1 : Bytes ds) (b2 : Words ins) (L4 : ∀ k, k < q → ∃ b o, a4 = some ⟨b, o, none⟩ ∧ w.cell? ⟨b, o + k, none⟩ = some (.bool (F k))) :
    Calls Tryz.prog 4 #[.agg #[.slice a0 n c0, .slice a1 m c1, .slice a2 i c2, .slice a3 f c3, .int .i64 N], .slice a4 q c4] w fun e w' => e = .returned (.bool true) ∧ Fr (fun _ => False) w w' := by
  obtain ⟨wB, hwB⟩ : ∃ wB : World, wB = w.alloc (.cells #[.slice a0 n c0, .slice a1 m c1, .slice a2 i c2, .slice a3 f c3, .int .i64 N] 26) := ⟨_, rfl⟩
  have hF : Fr (fun _ => False) w wB := by rw [hwB]; exact Fr.of_by0 (World.grownBy_alloc _ _ _)
  have HF := Lib.hid hF
  have HX : Hid (∀ W, Fr (fun _ => False) wB W → W.cell? ⟨w.heap.size, 0, none⟩ = some (.slice a0 n c0) ∧ W.cell? ⟨w.heap.size, 1, none⟩ = some (.slice a1 m c1) ∧ W.cell? ⟨w.heap.size, 2, none⟩ = some (.slice a2 i c2) ∧ W.cell? ⟨w.heap.size, 3, none⟩ = some (.slice a3 f c3) ∧ W.cell? ⟨w.heap.size, 4, none⟩ = some (.int .i64 N)) := Lib.hid (fun W hW => box_cells (by rw [← hwB]; exact hW))
  obtain ⟨x0, x1, x2, x3, x4⟩ := HX.out wB (Fr.refl _ _)
  have H18 := Lib.hid (dv18 a0 a1 a2 a3 n m i f c0 c1 c2 c3 N wB)
  rw [h] at H18
  have hfew := of_decide_eq_true h
  have K0 := L0.kept hF
  have K1 := L1.kept hF
  have K2 := L2.kept hF
  have il : ins.length ≤ 100000 := by omega
  have HL4 : Hid (∀ k, k < q → ∃ b o, a4 = some ⟨b, o, none⟩ ∧ ∀ W, Fr (fun _ => False) wB W → W.cell? ⟨b, o + k, none⟩ = some (.bool (F k))) := Lib.hid (fun k hk => by
    obtain ⟨b, o, e, hc⟩ := L4 k hk
    exact ⟨b, o, e, fun W hW => (hF.trans hW).cell hc id⟩)
  have HNEW := Lib.hid (fun W (hW : Fr (fun _ => False) wB W) => new_at (K0.kept hW) (K1.kept hW) (K2.kept hW) b0 b1 b2 il (by rw [hn, hm]; exact hmay))
  have HBEG := Lib.hid (fun W (hW : Fr (fun _ => False) wB W) => rm_begin a0 a1 a2 n m i c0 c1 c2 ws ds ins W hn hm hi hmay (K0.kept hW) (K1.kept hW) (K2.kept hW) b0 b1 b2 il)
  have HK : Hid (ListAt .u32 wB (.slice a0 ws.length c0) ws ∧ ListAt .u32 wB (.slice a2 ins.length c2) ins) := Lib.hid ⟨by rw [hn]; exact K0, by rw [hi]; exact K2⟩
  have d1 : decide ((400 : Int) < q) = false := decide_eq_false (by omega)
  have d2 : decide ((32768 : Int) < n) = false := decide_eq_false (by omega)
  have d3 : decide ((65536 : Int) < m) = false := decide_eq_false (by omega)
  obtain ⟨B, hB⟩ : ∃ B, w.heap.size = B := ⟨_, rfl⟩
  rw [hB] at HX x0 x1 x2 x3 x4
  clear h hmay hfew hF hn hm hi L0 L1 L2 L4 K0 K1 K2 b0 b1 b2 il hn2 hm2
  go_enter Tryz.func4, Tryz.ntmps4
  go_wp2_with (go_at_call 6; (try rw [← hwB]); (with_reducible refine H18.out.mono ?_); rintro e w1 ⟨rfl, hg⟩; have H1 := Lib.hid hg; clear x0 x1 x2 x3 x4; obtain ⟨x0, x1, x2, x3, x4⟩ := HX.out _ hg; clear hg)
  go_at_call 8
  refine (HNEW.out w1 H1.out).mono ?_
  rintro e wa ⟨L, rfl, ca, da, ia, Aa, Wa, Fa, sa1, sa2, sa3, sa4⟩
  have HA1 := Lib.hid (And.intro ca (And.intro da (And.intro ia (And.intro Aa (And.intro Wa (And.intro Fa (And.intro sa1 sa2)))))))
  have HFa := Lib.hid (H1.out.trans Fa)
  clear ca da ia Aa Wa Fa sa1 sa2 sa3 sa4 x0 x1 x2 x3 x4 HNEW H18
  obtain ⟨x0, x1, x2, x3, x4⟩ := HX.out _ HFa.out
  go_wp2_with fail
  go_at_call 14
  refine (HBEG.out wa HFa.out).mono ?_
  rintro e wb ⟨R, gb, rfl, e1, e2, e3, e4, e5, Rr, Wr, Fb, r1, r2, r3⟩
  have HP := Lib.hid (MPair.start H1.out HA1.out.2.2.2.1 HA1.out.2.2.2.2.1 HA1.out.2.2.2.2.2.1 HA1.out.2.2.2.2.2.2.1 HA1.out.2.2.2.2.2.2.2 HA1.out.1 HA1.out.2.1 HA1.out.2.2.1 (Fr.refl _ _) HK.out.1 HK.out.2 e1 e2 e3 e4 e5 Rr Wr Fb r1 r2 r3)
  generalize w1.heap.size = ba at HP
  generalize wa.heap.size = bb at HP
  have HR0 : Hid (StepRel wB ba bb L R 0 wb) := Lib.hid ⟨_, _, _, _, HP.out, init_log ds, Int.le_refl _⟩
  clear e1 e2 e3 e4 e5 Rr Wr Fb r1 r2 r3 HA1 HBEG HK HFa H1 x0 x1 x2 x3 x4 HP d1 d2 d3
  go_wp2
  go_loopw [8] (fun v wr => ∃ k : Nat, v = .int .i64 k ∧ k ≤ q ∧ Hid (StepRel wB ba bb L R k wr)) (fun v _ => q - (intOf v).toNat)
  case atStart => exact ⟨0, rfl, Nat.zero_le _, HR0⟩
  case round =>
    obtain ⟨k, rfl, hk, HW⟩ := hrel
    clear HR0
    obtain ⟨s, lv, gb1, rv, hp, hlg, hst⟩ := HW.out
    have HP := Lib.hid hp
    have HLG := Lib.hid hlg
    have hst2 : s.c 39 ≤ 400 := by omega
    clear hp hlg
    by_cases hlt : k < q
    · obtain ⟨fb, fo, rfl, hb⟩ := HL4.out k hlt
      have g0 := hb wr HP.out.fr
      have t0 : (0 : Int) ≤ k := by omega
      have t1 : (k : Int) < q := by omega
      clear hb
      cases hF : F k with
      | true =>
        rw [hF] at g0
        clear hF
        have H17 := Lib.hid (rm_step_at' HP.out.r HP.out.wr HLG.out (by omega))
        go_wp2_with fail
        go_at_call 17
        refine H17.out.mono ?_
        rintro e w3 ⟨rfl, hk3⟩
        rw [← HP.out.steps] at hk3
        obtain ⟨gb3, rv3, hp3⟩ := HP.out.turnR hk3
        have hd3 : Fr (fun _ => False) w3 w3.drew := (Fr.refl _ _).drewN 1
        have HP3 := Lib.hid (hp3.quiet hd3)
        clear hd3
        clear H17 hk3 hp3
        have HS := Lib.hid (step_at HP3.out.a HP3.out.wa HLG.out (by omega))
        have hso := stepM_ok HP3.out.wa.ok HLG.out
        obtain ⟨sx, hsx⟩ : ∃ sx, stepM L s = sx := ⟨_, rfl⟩
        rw [hsx] at HS hso
        have HSX := Lib.hid hsx
        have HP4 : Hid (∀ {w' lv'}, MPair wB w' ba bb L lv' sx R gb3 rv3 (stepM L s) → MPair wB w' ba bb L lv' sx R gb3 rv3 sx) := Lib.hid (fun h => by rw [hsx] at h; exact h)
        have HZ : Hid (∀ {w' lv' t}, MPair wB w' ba bb L lv' t R gb3 rv3 (stepM L s) → w'.cell? ⟨R.rb, 9, none⟩ = some (.int .i64 (sx.c 40))) := Lib.hid (fun h => by have := h.r.num 9 (.inr (.inr (.inr (.inr (.inl rfl))))); rw [hsx] at this; exact this)
        have z9 := HZ.out HP3.out
        have HSO := Lib.hid hso
        clear hsx hso g0
        generalize sx.c 40 = tx at *
        go_wp2_with fail
        go_region_with (go_at_call 10; (with_reducible refine HS.out.mono ?_); rintro e w4 ⟨rfl, hk4⟩; obtain ⟨lv4, hp4⟩ := HP3.out.turn hk4; have y9 := HZ.out hp4; have HP5 := Lib.hid (HP4.out hp4); clear hk4 hp4)
        all_goals
          go_wp2
          go_roundw
          case rel => exact ⟨k + 1, by go_num, by omega, Lib.hid ⟨_, _, _, _, HP5.out, HSO.out.1, by have := HSO.out.2; omega⟩⟩
          case measure => simp [intOf]; omega
      | false =>
        rw [hF] at g0
        clear hF
        have H17 := Lib.hid (rm_fail_at' HP.out.r HP.out.wr)
        go_wp2_with fail
        go_at_call 18
        refine H17.out.mono ?_
        rintro e w3 ⟨rfl, hk3⟩
        obtain ⟨gb3, rv3, hp3⟩ := HP.out.turnR hk3
        have HP3 := Lib.hid hp3
        clear H17 hk3 hp3 g0
        have HS := Lib.hid (fail_at' HP3.out.a HP3.out.wa)
        have HSO := Lib.hid (failS_ok HLG.out)
        go_wp2_with (go_at_call 19; (with_reducible refine HS.out.mono ?_); rintro e w4 ⟨rfl, hk4⟩; obtain ⟨lv4, hp4⟩ := HP3.out.turn hk4; have HP5 := Lib.hid hp4; clear hk4 hp4)
        go_roundw
        case rel => exact ⟨k + 1, by go_num, by omega, Lib.hid ⟨_, _, _, _, HP5.out, HSO.out.1, by have := HSO.out.2; omega⟩⟩
        case measure => simp [intOf]; omega
    · obtain rfl : k = q := by omega
      have HLL : Hid (s.log.length ≤ 1000000) := Lib.hid (by have := HLG.out; omega)
      go_wp2_with (first
        | (go_at_call 7; (with_reducible refine (dv19 _).mono ?_); rintro e w7 ⟨rfl, hg⟩; have HP8 := Lib.hid (HP.out.quiet hg); clear hg)
        | (go_at_call 16; (with_reducible refine (alike_at HP8.out.a HP8.out.wa HP8.out.r HP8.out.wr HP8.out.dn.symm HLL.out).mono ?_); rintro e w9 ⟨rfl, hg⟩; have HG := Lib.hid (HP8.out.fr.trans hg); clear hg))
      go_ret
      exact ⟨rfl, HF.out.trans HG.out⟩
end Go.Proofs.YthhahfggbjegmaaGreat
