/-
  The law that any code runs as the document says (layer 3): its walk where there is a machine.
-/
import Derived.Test.YthhahfggbjegmaaGreatQRmU
namespace Go.Proofs.YthhahfggbjegmaaGreat
open Go.RowKit
set_option linter.unusedVariables false
set_option linter.unusedSimpArgs false
theorem init_log (ds : List Int) : ((initM ds).log.length : Int) ≤ (initM ds).c 39 := by show ((0 : Nat) : Int) ≤ 0; decide
set_option maxRecDepth 100000 in
set_option maxHeartbeats 16000000 in
theorem runs_yes (a0 a1 a2 a3 : Option Addr) (n m i f c0 c1 c2 c3 : Nat) (N : Int) (w : World) (ws ds ins fs : List Int) (hn : ws.length = n) (hm : ds.length = m) (hi : ins.length = i) (hfl : fs.length = f)
    (h : fewB n m i f N = true) (hmay : mayB n m = true) (L0 : ListAt .u32 w (.slice a0 n c0) ws) (L1 : ListAt .u8 w (.slice a1 m c1) ds) (L2 : ListAt .u32 w (.slice a2 i c2) ins) (L3 : I64s (fun _ => True) w (.slice a3 f c3) fs)
    (b0 : Words ws) (b1 : Bytes ds) (b2 : Words ins) :
    Calls Tryz.prog 3 #[.agg #[.slice a0 n c0, .slice a1 m c1, .slice a2 i c2, .slice a3 f c3, .int .i64 N]] w fun e w' => e = .returned (.bool true) ∧ Fr (fun _ => False) w w' := by
  obtain ⟨wB, hwB⟩ : ∃ wB : World, wB = w.alloc (.cells #[.slice a0 n c0, .slice a1 m c1, .slice a2 i c2, .slice a3 f c3, .int .i64 N] 26) := ⟨_, rfl⟩
  have hF : Fr (fun _ => False) w wB := by rw [hwB]; exact Fr.of_by0 (World.grownBy_alloc _ _ _)
  have HF := Lib.hid hF
  have HX : Hid (∀ W, Fr (fun _ => False) wB W → W.cell? ⟨w.heap.size, 0, none⟩ = some (.slice a0 n c0) ∧ W.cell? ⟨w.heap.size, 1, none⟩ = some (.slice a1 m c1) ∧ W.cell? ⟨w.heap.size, 2, none⟩ = some (.slice a2 i c2) ∧ W.cell? ⟨w.heap.size, 3, none⟩ = some (.slice a3 f c3) ∧ W.cell? ⟨w.heap.size, 4, none⟩ = some (.int .i64 N)) := Lib.hid (fun W hW => box_cells (by rw [← hwB]; exact hW))
  obtain ⟨x0, x1, x2, x3, x4⟩ := HX.out wB (Fr.refl _ _)
  have H18 := Lib.hid (dv18 a0 a1 a2 a3 n m i f c0 c1 c2 c3 N wB)
  rw [h] at H18
  have hfew := of_decide_eq_true h
  have hN : N ≤ 400 := hfew.2.2.2.2
  have K0 := L0.kept hF
  have K1 := L1.kept hF
  have K2 := L2.kept hF
  have HL3 := Lib.hid (L3.kept hF (fun _ _ => id))
  have il : ins.length ≤ 100000 := by omega
  have HNEW := Lib.hid (fun W (hW : Fr (fun _ => False) wB W) => new_at (K0.kept hW) (K1.kept hW) (K2.kept hW) b0 b1 b2 il (by rw [hn, hm]; exact hmay))
  have HBEG := Lib.hid (fun W (hW : Fr (fun _ => False) wB W) => rm_begin a0 a1 a2 n m i c0 c1 c2 ws ds ins W hn hm hi hmay (K0.kept hW) (K1.kept hW) (K2.kept hW) b0 b1 b2 il)
  have HM : Hid (∀ W, Calls Tryz.prog 9 #[.int .i64 n, .int .i64 m] W fun e w' => e = .returned (.int .i64 0) ∧ W = w') := Lib.hid (fun W => by have := rm_may n m (by omega) (by omega) W; rw [hmay] at this; exact this)
  have HK : Hid (ListAt .u32 wB (.slice a0 ws.length c0) ws ∧ ListAt .u32 wB (.slice a2 ins.length c2) ins) := Lib.hid ⟨by rw [hn]; exact K0, by rw [hi]; exact K2⟩
  have HFL := Lib.hid hfl
  obtain ⟨B, hB⟩ : ∃ B, w.heap.size = B := ⟨_, rfl⟩
  rw [hB] at HX x0 x1 x2 x3 x4
  clear h hmay hfew hF hn hm hi hfl L0 L1 L2 L3 K0 K1 K2 b0 b1 b2 il
  go_enter Tryz.func3, Tryz.ntmps3
  go_wp2_with (go_at_call 6; (try rw [← hwB]); (with_reducible refine H18.out.mono ?_); rintro e w1 ⟨rfl, hg⟩; have H1 := Lib.hid hg; clear x0 x1 x2 x3 x4; obtain ⟨x0, x1, x2, x3, x4⟩ := HX.out _ hg; clear hg)
  go_at_call 8
  refine (HNEW.out w1 H1.out).mono ?_
  rintro e wa ⟨L, rfl, ca, da, ia, Aa, Wa, Fa, sa1, sa2, sa3, sa4⟩
  have HA1 := Lib.hid (And.intro ca (And.intro da (And.intro ia (And.intro Aa (And.intro Wa (And.intro Fa (And.intro sa1 sa2)))))))
  have HFa := Lib.hid (H1.out.trans Fa)
  clear ca da ia Aa Wa Fa sa1 sa2 sa3 sa4 x0 x1 x2 x3 x4 HNEW H18
  obtain ⟨x0, x1, x2, x3, x4⟩ := HX.out _ HFa.out
  go_wp2_with (go_at_call 9; (with_reducible refine (HM.out _).mono ?_); rintro e w2 ⟨rfl, rfl⟩)
  go_at_call 14
  refine (HBEG.out wa HFa.out).mono ?_
  rintro e wb ⟨R, gb, rfl, e1, e2, e3, e4, e5, Rr, Wr, Fb, r1, r2, r3⟩
  have HP := Lib.hid (MPair.start H1.out HA1.out.2.2.2.1 HA1.out.2.2.2.2.1 HA1.out.2.2.2.2.2.1 HA1.out.2.2.2.2.2.2.1 HA1.out.2.2.2.2.2.2.2 HA1.out.1 HA1.out.2.1 HA1.out.2.2.1 (Fr.refl _ _) HK.out.1 HK.out.2 e1 e2 e3 e4 e5 Rr Wr Fb r1 r2 r3)
  generalize w1.heap.size = ba at HP
  generalize wa.heap.size = bb at HP
  clear e1 e2 e3 e4 e5 Rr Wr Fb r1 r2 r3 HA1 HBEG HK HFa H1 HM x0 x1 x2 x3 x4
  obtain ⟨x0, x1, x2, x3, x4⟩ := HX.out _ HP.out.fr
  have HRUN := Lib.hid (rm_run HP.out.r HP.out.wr (init_log ds) N (by omega) a3 f c3 fs HFL.out (HP.out.far HL3.out))
  go_wp2_with fail
  go_at_call 15
  refine HRUN.out.mono ?_
  rintro e w3 ⟨rfl, hk3⟩
  rw [← HP.out.runs] at hk3
  obtain ⟨gb3, rv3, hp3⟩ := HP.out.turnR hk3
  have HP3 := Lib.hid hp3
  clear HRUN hk3 hp3 x0 x1 x2 x3 x4 HP
  have hll : (runE L N fs (initM ds)).log.length ≤ 1000000 := by
    have h1 := runE_log (L := L) (n := N) (l := fs) HP3.out.wa.ok (init_log ds)
    have h2 := runE_le (L := L) (n := N) (l := fs) (s := initM ds) HP3.out.wa.ok
    have h3 : (initM ds).c 39 = 0 := rfl
    omega
  have HRUN := Lib.hid (fun W (hW : MPair wB W ba bb L (.slice none 0 0) (initM ds) R gb3 rv3 (runE L N fs (initM ds))) => dv21 hW.a hW.wa (init_log ds) N (by omega) (.slice a3 f c3) fs (far_old hW.na hW.fr HL3.out))
  generalize runE L N fs (initM ds) = sx at *
  have HLL := Lib.hid hll
  clear hll
  have HP3d := Lib.hid (HP3.out.quiet ((Fr.refl _ _).drewN 1))
  obtain ⟨tx, htx⟩ : ∃ tx, sx.c 40 = tx := ⟨_, rfl⟩
  rw [htx] at HRUN
  have HS9 : Hid (∀ {W lv s gb rv}, MPair wB W ba bb L lv s R gb rv sx → W.cell? ⟨R.rb, 9, none⟩ = some (.int .i64 tx)) := Lib.hid (fun hW => by rw [← htx]; exact hW.r.num 9 (.inr (.inr (.inr (.inr (.inl rfl))))))
  have HTX := Lib.hid htx
  clear htx
  go_wp2_with fail
  obtain ⟨x0, x1, x2, x3, x4⟩ := HX.out _ HP3d.out.fr
  have z9 := HS9.out HP3d.out
  go_region_with (first
    | (go_at_call 7; (with_reducible refine (dv19 _).mono ?_); rintro e w7 ⟨rfl, hg⟩; have HP7 := Lib.hid (HP3d.out.quiet hg); obtain ⟨y0, y1, y2, y3, y4⟩ := HX.out _ HP7.out.fr; have u9 := HS9.out HP7.out; clear hg)
    | (go_at_call 11; (with_reducible refine (HRUN.out _ HP7.out).mono ?_); rintro e w8 ⟨rfl, hk⟩; obtain ⟨lv8, hp8⟩ := HP7.out.turn hk; have HP8 := Lib.hid hp8; have v9 := HS9.out hp8; clear hk hp8)
    | (go_at_call 16; (with_reducible refine (alike_at HP8.out.a HP8.out.wa HP8.out.r HP8.out.wr HP8.out.dn.symm HLL.out).mono ?_); rintro e w9 ⟨rfl, hg⟩; have HG := Lib.hid (HP8.out.fr.trans hg); clear hg))
  all_goals
    go_wp2
    go_ret
    exact ⟨rfl, HF.out.trans HG.out⟩
end Go.Proofs.YthhahfggbjegmaaGreat
