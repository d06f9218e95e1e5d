/-
  The law that code and inputs are never written (layer 3): its walk.
-/
import Derived.Test.YthhahfggbjegmaaGreatQCodeB
import Derived.Outline
namespace Go.Proofs.YthhahfggbjegmaaGreat
open Go.RowKit
set_option linter.unusedVariables false
set_option linter.unusedSimpArgs false
set_option maxRecDepth 100000 in
set_option maxHeartbeats 16000000 in
theorem code_yes (a0 a1 a2 a3 : Option Addr) (n m i f c0 c1 c2 c3 : Nat) (N : Int) (w : World) (ws ds ins fs : List Int) (hn : ws.length = n) (hm : ds.length = m) (hi : ins.length = i) (hfl : fs.length = f)
    (L0 : ListAt .u32 w (.slice a0 n c0) ws) (L1 : ListAt .u8 w (.slice a1 m c1) ds) (L2 : ListAt .u32 w (.slice a2 i c2) ins) (L3 : I64s (fun _ => True) w (.slice a3 f c3) fs) (b0 : Words ws) (b1 : Bytes ds) (b2 : Words ins) (h : fewB n m i f N = true) (hmay : mayB n m = true) :
    Calls Tryz.prog 5 #[.agg #[.slice a0 n c0, .slice a1 m c1, .slice a2 i c2, .slice a3 f c3, .int .i64 N]] w fun e w' => e = .returned (.bool true) ∧ Fr (fun _ => False) w w' := by
  obtain ⟨wB, hwB⟩ : ∃ wB : World, wB = w.alloc (.cells #[.slice a0 n c0, .slice a1 m c1, .slice a2 i c2, .slice a3 f c3, .int .i64 N] 26) := ⟨_, rfl⟩
  have hF : Fr (fun _ => False) w wB := by rw [hwB]; exact Fr.of_by0 (World.grownBy_alloc _ _ _)
  have HF := Lib.hid hF
  have HX : Hid (∀ W, Fr (fun _ => False) wB W → W.cell? ⟨w.heap.size, 0, none⟩ = some (.slice a0 n c0) ∧ W.cell? ⟨w.heap.size, 1, none⟩ = some (.slice a1 m c1) ∧ W.cell? ⟨w.heap.size, 2, none⟩ = some (.slice a2 i c2) ∧ W.cell? ⟨w.heap.size, 3, none⟩ = some (.slice a3 f c3) ∧ W.cell? ⟨w.heap.size, 4, none⟩ = some (.int .i64 N)) := Lib.hid (fun W hW => box_cells (by rw [← hwB]; exact hW))
  obtain ⟨x0, x1, x2, x3, x4⟩ := HX.out wB (Fr.refl _ _)
  have H18 := Lib.hid (dv18 a0 a1 a2 a3 n m i f c0 c1 c2 c3 N wB)
  rw [h] at H18
  have hfew := of_decide_eq_true h
  have hn' : n ≤ 33000 := by omega
  have hm' : m ≤ 66000 := by omega
  have hi' : i ≤ 40 := by omega
  have hN : N ≤ 400 := hfew.2.2.2.2
  have K0 := Lib.hid (L0.kept hF)
  have K1 := Lib.hid (L1.kept hF)
  have K2 := Lib.hid (L2.kept hF)
  have HN := Lib.hid hn
  have HM := Lib.hid hm
  have HI := Lib.hid hi
  have HB0 := Lib.hid b0
  have HB1 := Lib.hid b1
  have HB2 := Lib.hid b2
  obtain ⟨ip, hp0, hp1, hp2, hp3⟩ := info_parts info24
  obtain ⟨iq, hq0, hq1, hq2, hq3⟩ := info_parts info6
  obtain ⟨B, hB⟩ : ∃ B, w.heap.size = B := ⟨_, rfl⟩
  rw [hB] at HX x0 x1 x2 x3 x4
  have HL3 := Lib.hid (L3.kept hF (fun _ _ => id))
  have il : ins.length ≤ 100000 := by omega
  have HNEW := Lib.hid (fun (v0 v1 v2 : Value) W (k0 : ListAt .u32 W v0 ws) (k1 : ListAt .u8 W v1 ds) (k2 : ListAt .u32 W v2 ins) => new_at k0 k1 k2 b0 b1 b2 il (by rw [hn, hm]; exact hmay))
  have HBEG := Lib.hid (fun W (hW : Fr (fun _ => False) wB W) => rm_begin a0 a1 a2 n m i c0 c1 c2 ws ds ins W hn hm hi hmay (K0.out.kept hW) (K1.out.kept hW) (K2.out.kept hW) b0 b1 b2 il)
  have HK : Hid (ListAt .u32 wB (.slice a0 ws.length c0) ws ∧ ListAt .u32 wB (.slice a2 ins.length c2) ins) := Lib.hid ⟨by rw [hn]; exact K0.out, by rw [hi]; exact K2.out⟩
  have HFL := Lib.hid hfl
  clear h hmay hfew hF hn hm hi hfl L0 L1 L2 L3 b0 b1 b2 il
  go_enter Tryz.func5, Tryz.ntmps5
  go_wp2_with (first
    | (go_at_call 6; (try rw [← hwB]); (with_reducible refine H18.out.mono ?_); rintro e w1 ⟨rfl, hg⟩; have H1 := Lib.hid hg; clear x0 x1 x2 x3 x4; obtain ⟨x0, x1, x2, x3, x4⟩ := HX.out _ hg; clear hg)
    | (at_builtin; refine wpl_app0 rfl _ _ 22 rfl 40 ip (.int .u32 0) 4 Tryz.underlying22 hp0 hp1 hp2 hp3 rfl (by rfl) .u32 a0 n c0 ws (by rfl) HN.out (K0.out.kept H1.out) (by unfold maxLen; omega) (by omega) ?_; intro vv w2 hown hg; obtain ⟨s1, k1, rfl, rr, ll, bb⟩ := own_row (mx := 4294967295) hown HN.out HB0.out; have R1 := Lib.hid rr; have A1 := Lib.hid ll; have B1 := Lib.hid bb; have J1 := Lib.hid hg; have G1 := Lib.hid (H1.out.trans hg); clear hown hg rr ll bb x0 x1 x2 x3 x4; obtain ⟨x0, x1, x2, x3, x4⟩ := HX.out _ G1.out)
    | (at_builtin; refine wpl_app0 rfl _ _ 23 rfl 5 iq (.int .u8 0) 1 Tryz.underlying23 hq0 hq1 hq2 hq3 rfl (by rfl) .u8 a1 m c1 ds (by rfl) HM.out (K1.out.kept G1.out) (by unfold maxLen; omega) (by omega) ?_; intro vv w3 hown hg; obtain ⟨s2, k2, rfl, rr, ll, bb⟩ := own_row (mx := 255) hown HM.out HB1.out; have R2 := Lib.hid rr; have A2 := Lib.hid ll; have B2 := Lib.hid bb; have J2 := Lib.hid hg; have G2 := Lib.hid (G1.out.trans hg); clear hown hg rr ll bb x0 x1 x2 x3 x4; obtain ⟨x0, x1, x2, x3, x4⟩ := HX.out _ G2.out)
    | (at_builtin; refine wpl_app0 rfl _ _ 22 rfl 40 ip (.int .u32 0) 4 Tryz.underlying22 hp0 hp1 hp2 hp3 rfl (by rfl) .u32 a2 i c2 ins (by rfl) HI.out (K2.out.kept G2.out) (by unfold maxLen; omega) (by omega) ?_; intro vv w4 hown hg; obtain ⟨s3, k3, rfl, rr, ll, bb⟩ := own_row (mx := 4294967295) hown HI.out HB2.out; have R3 := Lib.hid rr; have A3 := Lib.hid ll; have B3 := Lib.hid bb; have J3 := Lib.hid hg; have G3 := Lib.hid (G2.out.trans hg); clear hown hg rr ll bb x0 x1 x2 x3 x4; obtain ⟨x0, x1, x2, x3, x4⟩ := HX.out _ G3.out))
  go_at_call 8
  refine (HNEW.out _ _ _ w4 (A1.out.kept (J2.out.trans J3.out)) (A2.out.kept J3.out) A3.out).mono ?_
  rintro e wa ⟨L, rfl, ca, da, ia, Aa, Wa, Fa, sa1, sa2, sa3, sa4⟩
  have HA1 := Lib.hid (And.intro ca (And.intro da (And.intro ia (And.intro Aa (And.intro Wa (And.intro Fa (And.intro sa1 (And.intro sa2 (And.intro sa3 sa4)))))))))
  have HS0 : Hid (Scr wa s1 s2 s3 n m i wa) := Lib.hid ⟨Fr.refl _ _, (R1.out.kept (J2.out.trans J3.out) (fun _ _ => id)).kept Fa (fun _ _ => id), (R2.out.kept J3.out (fun _ _ => id)).kept Fa (fun _ _ => id), R3.out.kept Fa (fun _ _ => id)⟩
  have HD : Hid (Apart s1 s2 s3 ∧ ∀ x, ScrF s1 s2 s3 x → wB.heap.size ≤ x ∧ x < w4.heap.size) := Lib.hid (by
    have z1 := J2.out.size
    have z2 := J3.out.size
    have z3 := H1.out.size
    have z4 := J1.out.size
    refine ⟨⟨fun x h1 h2 => ?_, fun x h1 h2 => ?_, fun x h1 h2 => ?_⟩, fun x hx => ?_⟩
    · have := B1.out x h1; have := B2.out x h2; omega
    · have := B1.out x h1; have := B3.out x h2; omega
    · have := B2.out x h1; have := B3.out x h2; omega
    · rcases hx with h | h | h
      · have := B1.out x h; omega
      · have := B2.out x h; omega
      · have := B3.out x h; omega)
  have HFa := Lib.hid (G3.out.trans Fa)
  have hz4 := (G3.out.trans Fa).size
  clear ca da ia Aa Wa Fa sa1 sa2 sa3 sa4 x0 x1 x2 x3 x4 HNEW H18 R1 R2 R3 A1 A2 A3 B1 B2 B3 J1 J2 J3 G1 G2 H1 K0 K1 K2 hp0 hp1 hp2 hp3 hq0 hq1 hq2 hq3
  have HSF : Hid (∀ W, Fr (ScrF s1 s2 s3) wa W → Fr (fun _ => False) wB W) := Lib.hid (fun W hW => HFa.out.trans' hW (fun j hj q => by have := (HD.out.2 j q).1; omega))
  go_wp2
  go_loopw [8] (fun v wr => ∃ k : Nat, v = .int .i64 k ∧ k ≤ n ∧ Hid (Scr wa s1 s2 s3 n m i wr)) (fun v _ => n - (intOf v).toNat)
  case atStart => exact ⟨0, rfl, Nat.zero_le _, HS0⟩
  case round =>
    clear HS0
    obtain ⟨k, rfl, hk, HW⟩ := hrel
    by_cases hlt : k < n
    · obtain ⟨g, x, rfl, y0, y1, hc, hz⟩ := HW.out.r1 k hlt
      have HW' := Lib.hid (HW.out.set1 HD.out.1 hlt (v := 0) (by decide) (by decide))
      have t0 : (0 : Int) ≤ k := by omega
      have t1 : (k : Int) < n := by omega
      clear HSF HA1 HBEG
      go_wp2
      go_roundw
      case rel => exact ⟨k + 1, by go_num, by omega, HW'⟩
      case measure => simp [intOf]; omega
    · obtain rfl : n = k := by omega
      go_wp2
      go_loopw [9] (fun v wr => ∃ k : Nat, v = .int .i64 k ∧ k ≤ m ∧ Hid (Scr wa s1 s2 s3 n m i wr)) (fun v _ => m - (intOf v).toNat)
      case atStart => exact ⟨0, rfl, Nat.zero_le _, HW⟩
      case round =>
        clear HW
        obtain ⟨q, rfl, hq, HW⟩ := hrel
        by_cases hlt : q < m
        · obtain ⟨g, x, rfl, y0, y1, hc, hz⟩ := HW.out.r2 q hlt
          have HW' := Lib.hid (fun v (v0 : 0 ≤ v) (v1 : v ≤ 255) => HW.out.set2 HD.out.1 hlt (v := v) v0 v1)
          have t0 : (0 : Int) ≤ q := by omega
          have t1 : (q : Int) < m := by omega
          clear HSF HA1 HBEG
          go_wp2
          go_roundw
          case rel => exact ⟨q + 1, by go_num, by omega, Lib.hid (HW'.out _ (by omega) (by omega))⟩
          case measure => simp [intOf]; omega
        · obtain rfl : m = q := by omega
          go_wp2
          go_loopw [10] (fun v wr => ∃ k : Nat, v = .int .i64 k ∧ k ≤ i ∧ Hid (Scr wa s1 s2 s3 n m i wr)) (fun v _ => i - (intOf v).toNat)
          case atStart => exact ⟨0, rfl, Nat.zero_le _, HW⟩
          case round =>
            clear HW
            obtain ⟨r, rfl, hr, HW⟩ := hrel
            by_cases hlt : r < i
            · obtain ⟨g, x, rfl, y0, y1, hc, hz⟩ := HW.out.r3 r hlt
              have HW' := Lib.hid (fun v (v0 : 0 ≤ v) (v1 : v ≤ 4294967295) => HW.out.set3 HD.out.1 hlt (v := v) v0 v1)
              have t0 : (0 : Int) ≤ r := by omega
              have t1 : (r : Int) < i := by omega
              clear HSF HA1 HBEG
              go_wp2
              go_roundw
              case rel => exact ⟨r + 1, by go_num, by omega, Lib.hid (HW'.out _ (by omega) (by omega))⟩
              case measure => simp [intOf]; omega
            · obtain rfl : i = r := by omega
              have hsz := HW.out.fr.size
              have AT : At w4.heap.size wr L (.slice none 0 0) (initM ds) := own_kept HA1.out.2.2.2.1 HA1.out.2.2.2.2.1 HW.out.fr HA1.out.2.2.2.2.2.2.1 HA1.out.2.2.2.2.2.2.2.1 HA1.out.2.2.2.2.2.2.2.2.1 HA1.out.2.2.2.2.2.2.2.2.2 (fun x hx => .inl (HD.out.2 x hx).2)
              have HAT := Lib.hid AT
              have hdn : L.dn = m := HA1.out.2.1.trans HM.out
              have HDAT : Hid (Calls Tryz.prog 20 #[.pointer (some ⟨L.b, 0, none⟩)] wr fun e w' => ∃ v, e = .returned v ∧ DataIs wr m (initM ds).data v w') := Lib.hid (by rw [← hdn]; exact data_at HAT.out HA1.out.2.2.2.2.1)
              have HBD : Hid (∀ k, k < m → 0 ≤ (initM ds).data k ∧ (initM ds).data k ≤ 255) := Lib.hid (fun k hk => HAT.out.bd k (by rw [hdn]; exact hk))
              have HFR := Lib.hid (HSF.out wr HW.out.fr)
              clear AT hdn hsz HD HSF HW hz4
              go_wp2_with fail
              go_at_call 20
              refine HDAT.out.mono ?_
              rintro e wd ⟨vd, rfl, hdat⟩
              obtain ⟨g4, c4, rfl, hfd, hg4, _, _, hcd⟩ := hdat
              have HD4 : Hid (wr.heap.size ≤ g4 ∧ Fr (fun _ => False) wr wd) := Lib.hid ⟨hg4, hfd⟩
              have HR4 : Hid (Fr (fun k => k = g4) wd wd ∧ RowOf .u8 255 wd (some ⟨g4, 0, none⟩) m) := Lib.hid ⟨Fr.refl _ _, fun j hj => ⟨g4, _, rfl, (HBD.out j hj).1, (HBD.out j hj).2, (hcd j hj).1, (hcd j hj).2⟩⟩
              clear hfd hg4 hcd HDAT HBD
              go_wp2
              go_loopw [12] (fun v wq => ∃ k : Nat, v = .int .i64 k ∧ k ≤ m ∧ Hid (Fr (fun k => k = g4) wd wq ∧ RowOf .u8 255 wq (some ⟨g4, 0, none⟩) m)) (fun v _ => m - (intOf v).toNat)
              case atStart => exact ⟨0, rfl, Nat.zero_le _, HR4⟩
              case round =>
                clear HR4
                obtain ⟨q4, rfl, hq4, HW4⟩ := hrel
                by_cases hlt : q4 < m
                · obtain ⟨g, x, e4, y0, y1, hc, hz⟩ := HW4.out.2 q4 hlt
                  simp only [Option.some.injEq, Addr.mk.injEq, and_true] at e4
                  subst e4
                  have HW' := Lib.hid (fun v (v0 : 0 ≤ v) (v1 : v ≤ 255) => And.intro (HW4.out.1.trans (Fr.setCell (F := fun k => k = g4) _ ⟨g4, q4, none⟩ (.int .u8 v) rfl)) (HW4.out.2.set hlt (v := v) v0 v1))
                  have t0 : (0 : Int) ≤ q4 := by omega
                  have t1 : (q4 : Int) < m := by omega
                  clear HA1 HBEG HAT HFR HD4
                  go_wp2
                  go_roundw
                  case rel => exact ⟨q4 + 1, by go_num, by omega, Lib.hid (HW'.out _ (by omega) (by omega))⟩
                  case measure => simp [intOf]; omega
                · obtain rfl : m = q4 := by omega
                  have hfr4 := (HD4.out.2.mono (G := fun k => k = g4) (fun _ _ f => f.elim)).trans HW4.out.1
                  have hsz4 := HFR.out.size
                  have HAQ := Lib.hid (own_kept HAT.out HA1.out.2.2.2.2.1 hfr4 HA1.out.2.2.2.2.2.2.1 HA1.out.2.2.2.2.2.2.2.1 HA1.out.2.2.2.2.2.2.2.2.1 HA1.out.2.2.2.2.2.2.2.2.2 (fun x hx => .inr (by have := HD4.out.1; omega)))
                  have HFQ := Lib.hid (HFR.out.trans' hfr4 (fun j hj e => by have := HD4.out.1; omega))
                  have HBZ : Hid (wB.heap.size ≤ w4.heap.size) := Lib.hid G3.out.size
                  clear hfr4 hsz4 HW4 HD4 HFR HAT
                  obtain ⟨x0, x1, x2, x3, x4⟩ := HX.out _ HFQ.out
                  go_wp2_with fail
                  go_at_call 14
                  refine (HBEG.out _ HFQ.out).mono ?_
                  rintro e wb ⟨R, gb, rfl, e1, e2, e3, e4, e5, Rr, Wr, Fb, r1, r2, r3⟩
                  have HP := Lib.hid (MPair.start2 HFQ.out HAQ.out HA1.out.2.2.2.2.1 (by have := HBZ.out; have := HA1.out.2.2.2.2.2.2.1; omega) (by have := HBZ.out; have := HA1.out.2.2.2.2.2.2.2.1; omega) HA1.out.1 HA1.out.2.1 HA1.out.2.2.1 HK.out.1 HK.out.2 e1 e2 e3 e4 e5 Rr Wr Fb r1 r2 r3)
                  generalize w4.heap.size = ba at HP
                  generalize wr.heap.size = bb at HP
                  clear e1 e2 e3 e4 e5 Rr Wr Fb r1 r2 r3 HA1 HBEG HK HFQ HAQ HBZ x0 x1 x2 x3 x4
                  obtain ⟨x0, x1, x2, x3, x4⟩ := HX.out _ HP.out.fr
                  have HRUN := Lib.hid (rm_run HP.out.r HP.out.wr (init_log ds) N (by omega) a3 f c3 fs HFL.out (HP.out.far HL3.out))
                  go_wp2_with fail
                  go_at_call 15
                  refine HRUN.out.mono ?_
                  rintro e w6 ⟨rfl, hk3⟩
                  rw [← HP.out.runs] at hk3
                  obtain ⟨gb3, rv3, hp3⟩ := HP.out.turnR hk3
                  have HP3 := Lib.hid hp3
                  clear HRUN hk3 hp3 x0 x1 x2 x3 x4 HP
                  obtain ⟨x0, x1, x2, x3, x4⟩ := HX.out _ HP3.out.fr
                  have hll : (runE L N fs (initM ds)).log.length ≤ 1000000 := by
                    have h1 := runE_log (L := L) (n := N) (l := fs) HP3.out.wa.ok (init_log ds)
                    have h2 := runE_le (L := L) (n := N) (l := fs) (s := initM ds) HP3.out.wa.ok
                    have h3 : (initM ds).c 39 = 0 := rfl
                    omega
                  have HLL := Lib.hid hll
                  clear hll
                  have HRUN := Lib.hid (dv21 HP3.out.a HP3.out.wa (init_log ds) N (by omega) (.slice a3 f c3) fs (far_old HP3.out.na HP3.out.fr HL3.out))
                  generalize runE L N fs (initM ds) = sx at *
                  go_wp2_with fail
                  go_at_call 11
                  refine HRUN.out.mono ?_
                  rintro e w7 ⟨rfl, hk⟩
                  obtain ⟨lv8, hp8⟩ := HP3.out.turn hk
                  have HP7 := Lib.hid hp8
                  clear hk hp8 HRUN HP3 x0 x1 x2 x3 x4
                  go_wp2_with (first
                    | (go_at_call 7; (with_reducible refine (dv19 _).mono ?_); rintro e w8 ⟨rfl, hg⟩; have HP8 := Lib.hid (HP7.out.quiet hg); clear hg)
                    | (go_at_call 16; (with_reducible refine (alike_at HP8.out.a HP8.out.wa HP8.out.r HP8.out.wr HP8.out.dn.symm HLL.out).mono ?_); rintro e w9 ⟨rfl, hg⟩; have HG := Lib.hid (HP8.out.fr.trans hg); clear hg))
                  go_ret
                  exact ⟨rfl, HF.out.trans HG.out⟩
end Go.Proofs.YthhahfggbjegmaaGreat
