/-
  The law that code and inputs are never written (layer 3): its walk.
-/
import Derived.Test.YthhahfggbjegmaaGreatQCodeA
import Derived.Outline
namespace Go.Proofs.YthhahfggbjegmaaGreat
open Go.RowKit
set_option linter.unusedVariables false
set_option linter.unusedSimpArgs false
set_option maxRecDepth 100000 in
set_option maxHeartbeats 8000000 in
theorem code_few (a0 a1 a2 a3 : Option Addr) (n m i f c0 c1 c2 c3 : Nat) (N : Int) (w : World) (h : fewB n m i f N = false) :
    Calls Tryz.prog 5 #[.agg #[.slice a0 n c0, .slice a1 m c1, .slice a2 i c2, .slice a3 f c3, .int .i64 N]] w fun e w' => e = .returned (.bool true) ∧ Fr (fun _ => False) w w' := by
  obtain ⟨wB, hwB⟩ : ∃ wB : World, wB = w.alloc (.cells #[.slice a0 n c0, .slice a1 m c1, .slice a2 i c2, .slice a3 f c3, .int .i64 N] 26) := ⟨_, rfl⟩
  have hF : Fr (fun _ => False) w wB := by rw [hwB]; exact Fr.of_by0 (World.grownBy_alloc _ _ _)
  have HF := Lib.hid hF
  have HX : Hid (∀ W, Fr (fun _ => False) wB W → W.cell? ⟨w.heap.size, 0, none⟩ = some (.slice a0 n c0) ∧ W.cell? ⟨w.heap.size, 1, none⟩ = some (.slice a1 m c1) ∧ W.cell? ⟨w.heap.size, 2, none⟩ = some (.slice a2 i c2) ∧ W.cell? ⟨w.heap.size, 3, none⟩ = some (.slice a3 f c3) ∧ W.cell? ⟨w.heap.size, 4, none⟩ = some (.int .i64 N)) := Lib.hid (fun W hW => box_cells (by rw [← hwB]; exact hW))
  obtain ⟨x0, x1, x2, x3, x4⟩ := HX.out wB (Fr.refl _ _)
  have H18 := Lib.hid (dv18 a0 a1 a2 a3 n m i f c0 c1 c2 c3 N wB)
  rw [h] at H18
  obtain ⟨B, hB⟩ : ∃ B, w.heap.size = B := ⟨_, rfl⟩
  rw [hB] at HX x0 x1 x2 x3 x4
  clear hF h
  go_enter Tryz.func5, Tryz.ntmps5
  go_wp2_with (first
    | (go_at_call 6; (try rw [← hwB]); (with_reducible refine H18.out.mono ?_); rintro e w1 ⟨rfl, hg⟩; have H1 := Lib.hid hg; clear x0 x1 x2 x3 x4; obtain ⟨x0, x1, x2, x3, x4⟩ := HX.out _ hg; clear hg)
    | (go_at_call 7; (with_reducible refine (dv19 _).mono ?_); rintro e w2 ⟨rfl, hg⟩; have H2 := Lib.hid (H1.out.trans hg); clear hg))
  go_ret
  exact ⟨rfl, HF.out.trans H2.out⟩
set_option maxRecDepth 100000 in
set_option maxHeartbeats 8000000 in
theorem code_no (a0 a1 a2 a3 : Option Addr) (n m i f c0 c1 c2 c3 : Nat) (N : Int) (w : World) (ws ds ins fs : List Int) (hn : ws.length = n) (hm : ds.length = m) (hi : ins.length = i) (hfl : fs.length = f)
    (L0 : ListAt .u32 w (.slice a0 n c0) ws) (L1 : ListAt .u8 w (.slice a1 m c1) ds) (L2 : ListAt .u32 w (.slice a2 i c2) ins) (L3 : I64s (fun _ => True) w (.slice a3 f c3) fs) (b0 : Words ws) (b1 : Bytes ds) (b2 : Words ins) (h : fewB n m i f N = true) (hmay : mayB n m = false) :
    Calls Tryz.prog 5 #[.agg #[.slice a0 n c0, .slice a1 m c1, .slice a2 i c2, .slice a3 f c3, .int .i64 N]] w fun e w' => e = .returned (.bool true) ∧ Fr (fun _ => False) w w' := by
  obtain ⟨wB, hwB⟩ : ∃ wB : World, wB = w.alloc (.cells #[.slice a0 n c0, .slice a1 m c1, .slice a2 i c2, .slice a3 f c3, .int .i64 N] 26) := ⟨_, rfl⟩
  have hF : Fr (fun _ => False) w wB := by rw [hwB]; exact Fr.of_by0 (World.grownBy_alloc _ _ _)
  have HF := Lib.hid hF
  have HX : Hid (∀ W, Fr (fun _ => False) wB W → W.cell? ⟨w.heap.size, 0, none⟩ = some (.slice a0 n c0) ∧ W.cell? ⟨w.heap.size, 1, none⟩ = some (.slice a1 m c1) ∧ W.cell? ⟨w.heap.size, 2, none⟩ = some (.slice a2 i c2) ∧ W.cell? ⟨w.heap.size, 3, none⟩ = some (.slice a3 f c3) ∧ W.cell? ⟨w.heap.size, 4, none⟩ = some (.int .i64 N)) := Lib.hid (fun W hW => box_cells (by rw [← hwB]; exact hW))
  obtain ⟨x0, x1, x2, x3, x4⟩ := HX.out wB (Fr.refl _ _)
  have H18 := Lib.hid (dv18 a0 a1 a2 a3 n m i f c0 c1 c2 c3 N wB)
  rw [h] at H18
  have hfew := of_decide_eq_true h
  have hn' : n ≤ 33000 := by omega
  have hm' : m ≤ 66000 := by omega
  have hi' : i ≤ 40 := by omega
  have hN : N ≤ 400 := hfew.2.2.2.2
  have K0 := Lib.hid (L0.kept hF)
  have K1 := Lib.hid (L1.kept hF)
  have K2 := Lib.hid (L2.kept hF)
  have HN := Lib.hid hn
  have HM := Lib.hid hm
  have HI := Lib.hid hi
  have HB0 := Lib.hid b0
  have HB1 := Lib.hid b1
  have HB2 := Lib.hid b2
  obtain ⟨ip, hp0, hp1, hp2, hp3⟩ := info_parts info24
  obtain ⟨iq, hq0, hq1, hq2, hq3⟩ := info_parts info6
  obtain ⟨B, hB⟩ : ∃ B, w.heap.size = B := ⟨_, rfl⟩
  rw [hB] at HX x0 x1 x2 x3 x4
  have H20 := Lib.hid (fun v0 k0 v1 k1 v2 W => dv20_no v0 n k0 v1 m k1 v2 (by omega) (by omega) hmay W)
  clear h hmay hfew hF hn hm hi hfl L0 L1 L2 L3 b0 b1 b2
  go_enter Tryz.func5, Tryz.ntmps5
  go_wp2_with (first
    | (go_at_call 6; (try rw [← hwB]); (with_reducible refine H18.out.mono ?_); rintro e w1 ⟨rfl, hg⟩; have H1 := Lib.hid hg; clear x0 x1 x2 x3 x4; obtain ⟨x0, x1, x2, x3, x4⟩ := HX.out _ hg; clear hg)
    | (at_builtin; refine wpl_app0 rfl _ _ 22 rfl 40 ip (.int .u32 0) 4 Tryz.underlying22 hp0 hp1 hp2 hp3 rfl (by rfl) .u32 a0 n c0 ws (by rfl) HN.out (K0.out.kept H1.out) (by unfold maxLen; omega) (by omega) ?_; intro vv w2 hown hg; obtain ⟨s1, k1, rfl, rr, ll, bb⟩ := own_row (mx := 4294967295) hown HN.out HB0.out; have R1 := Lib.hid rr; have A1 := Lib.hid ll; have B1 := Lib.hid bb; have J1 := Lib.hid hg; have G1 := Lib.hid (H1.out.trans hg); clear hown hg rr ll bb x0 x1 x2 x3 x4; obtain ⟨x0, x1, x2, x3, x4⟩ := HX.out _ G1.out)
    | (at_builtin; refine wpl_app0 rfl _ _ 23 rfl 5 iq (.int .u8 0) 1 Tryz.underlying23 hq0 hq1 hq2 hq3 rfl (by rfl) .u8 a1 m c1 ds (by rfl) HM.out (K1.out.kept G1.out) (by unfold maxLen; omega) (by omega) ?_; intro vv w3 hown hg; obtain ⟨s2, k2, rfl, rr, ll, bb⟩ := own_row (mx := 255) hown HM.out HB1.out; have R2 := Lib.hid rr; have A2 := Lib.hid ll; have B2 := Lib.hid bb; have J2 := Lib.hid hg; have G2 := Lib.hid (G1.out.trans hg); clear hown hg rr ll bb x0 x1 x2 x3 x4; obtain ⟨x0, x1, x2, x3, x4⟩ := HX.out _ G2.out)
    | (at_builtin; refine wpl_app0 rfl _ _ 22 rfl 40 ip (.int .u32 0) 4 Tryz.underlying22 hp0 hp1 hp2 hp3 rfl (by rfl) .u32 a2 i c2 ins (by rfl) HI.out (K2.out.kept G2.out) (by unfold maxLen; omega) (by omega) ?_; intro vv w4 hown hg; obtain ⟨s3, k3, rfl, rr, ll, bb⟩ := own_row (mx := 4294967295) hown HI.out HB2.out; have R3 := Lib.hid rr; have A3 := Lib.hid ll; have B3 := Lib.hid bb; have J3 := Lib.hid hg; have G3 := Lib.hid (G2.out.trans hg); clear hown hg rr ll bb x0 x1 x2 x3 x4; obtain ⟨x0, x1, x2, x3, x4⟩ := HX.out _ G3.out)
    | (go_at_call 8; (with_reducible refine (H20.out _ _ _ _ _ _).mono ?_); rintro e w5 ⟨rfl, rfl⟩)
    | (go_at_call 7; (with_reducible refine (dv19 _).mono ?_); rintro e w6 ⟨rfl, hg⟩; have H2 := Lib.hid (G3.out.trans hg); clear hg))
  go_ret
  exact ⟨rfl, HF.out.trans H2.out⟩
end Go.Proofs.YthhahfggbjegmaaGreat
