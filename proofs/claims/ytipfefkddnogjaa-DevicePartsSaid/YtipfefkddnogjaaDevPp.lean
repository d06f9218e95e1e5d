/-
  The law that a run of so many steps is one of fewer and then of these (layer 3): its walk where there is a machine, or none.
-/
import Derived.Test.YtipfefkddnogjaaDevOo
import Derived.Test.YtipfefkddnogjaaDevQq
namespace Go.Proofs.Ytipfefkddnogjaa
open Go.RowKit
set_option linter.unusedVariables false
set_option linter.unusedSimpArgs false
theorem info3 : (Try.prog.info? 3).map (fun i => (i.zero, i.size, i.bytes)) = some (some (.int .i64 0), 1, 8) := by kernel_rfl
def later (fs : List Int) (st : Int) (j : Nat) : List Int := (fs.take j).filter fun x => decide (st ≤ x)
theorem later_step {fs : List Int} {st : Int} {j : Nat} (hj : j < fs.length) : later fs st (j + 1) = if st ≤ fs.getD j 0 then later fs st j ++ [fs.getD j 0] else later fs st j := by
  have e : fs.take (j + 1) = fs.take j ++ [fs.getD j 0] := by
    rw [List.take_succ_eq_append_getElem hj, List.getD_eq_getElem?_getD, List.getElem?_eq_getElem hj]; rfl
  unfold later
  rw [e, List.filter_append]
  by_cases h : st ≤ fs.getD j 0
  · rw [if_pos h, List.filter_cons_of_pos (by simpa using h)]; rfl
  · rw [if_neg h, List.filter_cons_of_neg (by simpa using h)]; simp
theorem later_len (fs : List Int) (st : Int) (j : Nat) : (later fs st j).length ≤ j := by
  have := List.length_filter_le (fun x => decide (st ≤ x)) (fs.take j)
  have h2 := List.length_take_le j fs
  unfold later; omega
/-- What the loop that gathers the later failures holds. -/
def LatRel (W : World) (fs : List Int) (st : Int) (j : Nat) (v : Value) (wr : World) : Prop :=
  Fr (fun _ => False) W wr ∧ wr.ownsRow W.heap.size 3 1 v (later fs st j).length ((later fs st j).map (Value.int .i64))
theorem lat_no {W wr : World} {fs : List Int} {st x : Int} {j : Nat} {v : Value} (h : LatRel W fs st j v wr) (hj : j < fs.length) (hx : fs.getD j 0 = x) (hlt : ¬ st ≤ x) : LatRel W fs st (j + 1) v wr := by
  subst hx
  unfold LatRel
  rw [later_step hj, if_neg hlt]
  exact h
theorem lat_yes {W wr w1 : World} {fs : List Int} {st x : Int} {j : Nat} {v v' : Value} {o : Obj} (h : LatRel W fs st j v wr) (hj : j < fs.length) (hx : fs.getD j 0 = x) (hle : st ≤ x)
    (hown : w1.ownsRow W.heap.size 3 1 v' ((later fs st j).length + 1) ((later fs st j).map (Value.int .i64) ++ [.int .i64 x])) (hg : (wr.alloc o).grownBy w1 v.ownBlock) : LatRel W fs st (j + 1) v' w1 := by
  subst hx
  unfold LatRel
  rw [later_step hj, if_pos hle, List.length_append, List.map_append]
  refine ⟨(h.1.trans (Fr.of_by0 (World.grownBy_alloc wr o none))).trans' (Fr.of_by hg) (fun q hq e => ?_), hown⟩
  have := (h.2.lt q e).1
  omega
def RiseTo (fs : List Int) (i : Nat) : Prop := ∀ j, j + 1 < i → fs.getD j 0 < fs.getD (j + 1) 0
set_option maxRecDepth 100000 in
set_option maxHeartbeats 16000000 in
theorem parts_in (a0 a1 a2 a3 : Option Addr) (n m i f c0 c1 c2 c3 : Nat) (N k : Int) (w : World) (ws ds ins fs : List Int) (hn : ws.length = n) (hm : ds.length = m) (hi : ins.length = i) (hfl : fs.length = f)
    (h : fewB n m i f N = true) (hk : k ≤ N) (L0 : ListAt .u32 w (.slice a0 n c0) ws) (L1 : ListAt .u8 w (.slice a1 m c1) ds) (L2 : ListAt .u32 w (.slice a2 i c2) ins) (L3 : I64s (fun _ => True) w (.slice a3 f c3) fs)
    (b0 : Words ws) (b1 : Bytes ds) (b2 : Words ins) :
    Calls Try.prog 6 #[.agg #[.slice a0 n c0, .slice a1 m c1, .slice a2 i c2, .slice a3 f c3, .int .i64 N], .int .i64 k] w fun e w' => e = .returned (.bool true) ∧ Fr (fun _ => False) w w' := by
  obtain ⟨wB, hwB⟩ : ∃ wB : World, wB = w.alloc (.cells #[.slice a0 n c0, .slice a1 m c1, .slice a2 i c2, .slice a3 f c3, .int .i64 N] 43) := ⟨_, rfl⟩
  have hF : Fr (fun _ => False) w wB := by rw [hwB]; exact Fr.of_by0 (World.grownBy_alloc _ _ _)
  have HF := Lib.hid hF
  have HX : Hid (∀ W, Fr (fun _ => False) wB W → W.cell? ⟨w.heap.size, 0, none⟩ = some (.slice a0 n c0) ∧ W.cell? ⟨w.heap.size, 1, none⟩ = some (.slice a1 m c1) ∧ W.cell? ⟨w.heap.size, 2, none⟩ = some (.slice a2 i c2) ∧ W.cell? ⟨w.heap.size, 3, none⟩ = some (.slice a3 f c3) ∧ W.cell? ⟨w.heap.size, 4, none⟩ = some (.int .i64 N)) := Lib.hid (fun W hW => box_cells (by rw [← hwB]; exact hW))
  have hfew := of_decide_eq_true h
  obtain ⟨B, hB⟩ : ∃ B, w.heap.size = B := ⟨_, rfl⟩
  have hBs : B < wB.heap.size := by rw [hwB, ← hB]; simp
  rw [hB] at HX
  obtain ⟨x0, x1, x2, x3, x4⟩ := HX.out wB (Fr.refl _ _)
  have H18 := Lib.hid (c18 a0 a1 a2 a3 n m i f c0 c1 c2 c3 N wB)
  rw [h] at H18
  have hf100 : f ≤ 100 := hfew.2.2.2.1
  have H0 := Lib.hid (And.intro hn (And.intro hm (And.intro hi (And.intro hfl (And.intro L0 (And.intro L1 (And.intro L2 (And.intro L3 (And.intro b0 (And.intro b1 (And.intro b2 (And.intro hfew (And.intro hB hBs)))))))))))))
  have HL3 := Lib.hid (L3.kept hF (fun _ _ => id))
  have hc3 : c3 ≤ 9223372036854775807 ∧ f ≤ c3 := by
    obtain ⟨a, c, e, q1, q2, _⟩ := L3
    simp only [Value.slice.injEq] at e
    obtain ⟨_, _, rfl⟩ := e
    omega
  obtain ⟨hc3, hfc⟩ := hc3
  clear h hF hn hm hi hfl L0 L1 L2 L3 b0 b1 b2 hfew hBs
  go_enter Try.func6, Try.ntmps6
  go_wp2_with (go_at_call 18; (try rw [← hwB]); (with_reducible refine H18.out.mono ?_); rintro e w1 ⟨rfl, hg⟩; have H1 := Lib.hid hg; obtain ⟨y0, y1, y2, y3, y4⟩ := HX.out _ hg; clear hg)
  clear x0 x1 x2 x3 x4 y0 y1 y2 y4 H18 hwB
  go_loopw [5] (fun q wr => ∃ j : Nat, 1 ≤ j ∧ j ≤ 101 ∧ (j ≤ f ∨ j = 1) ∧ q = .int .i64 j ∧ Hid (Fr (fun _ => False) wB wr ∧ RiseTo fs j)) (fun q _ => 101 - (intOf q).toNat)
  case atStart => exact ⟨1, by omega, by omega, .inr rfl, rfl, Lib.hid ⟨H1.out, fun j hj => by omega⟩⟩
  case round =>
    obtain ⟨j, hj1, hj2, hj3, rfl, HW⟩ := hrel
    clear y3 H1
    obtain ⟨x0, x1, x2, x3, x4⟩ := HX.out _ HW.out.1
    by_cases hlt : j < f
    · obtain ⟨aa, cc, ee, _, _, hcs⟩ := HL3.out
      simp only [Value.slice.injEq] at ee
      obtain ⟨rfl, hfe, rfl⟩ := ee
      have hne : ¬ fs = [] := fun e => by have := H0.out.2.2.2.1; rw [e] at this; simp at this; omega
      obtain ⟨fb, fo, rfl, _, hcell⟩ := hcs.resolve_left hne
      have g0 := HW.out.1.cell (hcell j (by rw [H0.out.2.2.2.1]; exact hlt)) id
      have g1 := HW.out.1.cell (hcell (j - 1) (by rw [H0.out.2.2.2.1]; omega)) id
      obtain ⟨x, hx⟩ : ∃ x, fs.getD j 0 = x := ⟨_, rfl⟩
      obtain ⟨y, hy⟩ : ∃ y, fs.getD (j - 1) 0 = y := ⟨_, rfl⟩
      rw [hx] at g0
      rw [hy] at g1
      have HXY := Lib.hid (And.intro hx hy)
      have t0 : (0 : Int) ≤ j := by omega
      have t1 : (j : Int) < f := by omega
      have t2 : (0 : Int) ≤ (j : Int) - 1 := by omega
      have t3 : (j : Int) - 1 < f := by omega
      have t4 : IntKind.i64.wrap ((j : Int) - 1) = (j : Int) - 1 := by rw [IntKind.wrap_i64]; omega
      have t5 : ((j : Int) - 1).toNat = j - 1 := by omega
      clear hcs hne hcell hx hy hfe
      by_cases hle : x ≤ y
      · go_wp2_with fail
        go_quiet (fail)
        go_wp2_with (go_at_call 19; (with_reducible refine (c19 _).mono ?_); rintro e w2 ⟨rfl, hg⟩; have H2 := Lib.hid hg; clear hg)
        go_ret
        exact ⟨rfl, HF.out.trans (HW.out.1.trans (((Fr.refl _ _).drewN _).trans H2.out))⟩
      · have hle' : decide (x ≤ y) = false := decide_eq_false hle
        go_wp2_with fail
        go_quiet (fail)
        clear t4 t5
        go_wp2_with fail
        go_roundw
        case rel => exact ⟨j + 1, by omega, by omega, by omega, by go_num, Lib.hid ⟨HW.out.1.drewN _, fun q hq => by
          by_cases hqj : q + 1 < j
          · exact HW.out.2 q hqj
          · obtain rfl : q = j - 1 := by omega
            have e1 : j - 1 + 1 = j := by omega
            rw [e1, HXY.out.1, HXY.out.2]; omega⟩⟩
        case measure => simp [intOf]; omega
    · have HR : Hid (Rising fs) := Lib.hid (rising_of fs (fun q hq => HW.out.2 q (by rw [H0.out.2.2.2.1] at hq; omega)))
      have HFr := Lib.hid HW.out.1
      have hlt' : decide (j < f) = false := decide_eq_false hlt
      clear hlt hj1 hj2 hj3 HW
      cases hmay : mayB n m with
      | false =>
        have H20 := Lib.hid (fun W => c20_no a0 n c0 a1 m c1 (.slice a2 i c2) (by have := H0.out.2.2.2.2.2.2.2.2.2.2.2.1; omega) (by have := H0.out.2.2.2.2.2.2.2.2.2.2.2.1; omega) hmay W)
        clear hmay
        go_wp2_with (first
          | (go_at_call 20; (with_reducible refine (H20.out _).mono ?_); rintro e w2 ⟨rfl, rfl⟩)
          | (go_at_call 19; (with_reducible refine (c19 _).mono ?_); rintro e w2 ⟨rfl, hg⟩; have H2 := Lib.hid hg; clear hg))
        go_ret
        exact ⟨rfl, HF.out.trans (HFr.out.trans H2.out)⟩
      | true =>
        have HNEW := Lib.hid (fun W (hW : Fr (fun _ => False) w W) => new_at (H0.out.2.2.2.2.1.kept hW) (H0.out.2.2.2.2.2.1.kept hW) (H0.out.2.2.2.2.2.2.1.kept hW) H0.out.2.2.2.2.2.2.2.2.1 H0.out.2.2.2.2.2.2.2.2.2.1 H0.out.2.2.2.2.2.2.2.2.2.2.1 (by have := H0.out.2.2.2.2.2.2.2.2.2.2.2.1; have := H0.out.2.2.1; omega) (by rw [H0.out.1, H0.out.2.1]; exact hmay))
        clear hmay
        go_wp2_with fail
        go_at_call 20
        refine (HNEW.out wr (HF.out.trans HFr.out)).mono ?_
        rintro e wa ⟨La, rfl, ca, da, ia, Aa, Wa, Fa, sa1, sa2, sa3, sa4⟩
        have HFa := Lib.hid (HFr.out.trans Fa)
        obtain ⟨z0, z1, z2, z3, z4⟩ := HX.out _ HFa.out
        have HA1 := Lib.hid (And.intro ca (And.intro da (And.intro ia (And.intro Aa (And.intro Wa (And.intro Fa (And.intro sa1 sa2)))))))
        clear ca da ia Aa Wa Fa sa1 sa2 sa3 sa4 x0 x1 x2 x3 x4 hlt'
        go_wp2_with fail
        go_at_call 20
        refine (HNEW.out wa (HF.out.trans HFa.out)).mono ?_
        rintro e wb ⟨Lb, rfl, cb, db, ib, Ab, Wb, Fb, sb1, sb2, sb3, sb4⟩
        have HFb := Lib.hid (HFa.out.trans Fb)
        obtain ⟨x0, x1, x2, x3, x4⟩ := HX.out _ HFb.out
        have HP := Lib.hid (Pair.start HFr.out HA1.out.2.2.2.1 HA1.out.2.2.2.2.1 HA1.out.2.2.2.2.2.1 HA1.out.2.2.2.2.2.2.1 HA1.out.2.2.2.2.2.2.2 Ab Wb Fb sb1 sb2 sb3 sb4)
        have HLay : Hid (∀ l s, runE La N l s = runE Lb N l s) := Lib.hid (fun l s => runE_lay (HA1.out.1.trans cb.symm) (HA1.out.2.2.1.trans ib.symm) (HA1.out.2.1.trans db.symm) N l s)
        have hN : N ≤ 400 := H0.out.2.2.2.2.2.2.2.2.2.2.2.1.2.2.2.2
        generalize wr.heap.size = ba at HP
        generalize wa.heap.size = bb at HP
        clear cb db ib Ab Wb Fb sb1 sb2 sb3 sb4 z0 z1 z2 z3 z4 HA1 HNEW HFa HFr HFb
        have H21 := Lib.hid (c21 HP.out.aa HP.out.wa (by show ((0 : Nat) : Int) ≤ 0; decide) N (by omega) (.slice a3 f c3) fs (far_old HP.out.na HP.out.fr HL3.out))
        go_wp2_with fail
        go_at_call 21
        refine H21.out.mono ?_
        rintro e w3 ⟨rfl, hk3⟩
        obtain ⟨lva, hp3⟩ := HP.out.turn hk3
        have HP3 := Lib.hid hp3
        obtain ⟨z0, z1, z2, z3, z4⟩ := HX.out _ HP3.out.fr
        clear H21 hk3 hp3 HP x0 x1 x2 x3 x4
        have H21 := Lib.hid (c21 HP3.out.ab HP3.out.wb (by show ((0 : Nat) : Int) ≤ 0; decide) k (by omega) (.slice a3 f c3) fs (far_old HP3.out.nb HP3.out.fr HL3.out))
        go_wp2_with fail
        go_at_call 21
        refine H21.out.mono ?_
        rintro e w4 ⟨rfl, hk4⟩
        obtain ⟨lvb, hp4⟩ := HP3.out.swap.turn hk4
        have HP4 := Lib.hid hp4.swap
        obtain ⟨x0, x1, x2, x3, x4⟩ := HX.out _ HP4.out.fr
        have hlog : ((runE Lb k fs (initM ds)).log.length : Int) ≤ (runE Lb k fs (initM ds)).c 39 := runE_log HP4.out.wb.ok (by show ((0 : Nat) : Int) ≤ 0; decide)
        have hle : (runE Lb k fs (initM ds)).c 39 ≤ max k 0 := runE_le HP4.out.wb.ok
        have hparts : runE Lb N fs (initM ds) = runE Lb N (fs.filter fun x => decide ((runE Lb k fs (initM ds)).c 39 ≤ x)) (runE Lb k fs (initM ds)) := runE_parts HP4.out.wb.ok HR.out hk (initM ds)
        have hlay := HLay.out fs (initM ds)
        clear H21 hk4 hp4 HP3 z0 z1 z2 z3 z4 HLay
        generalize runE Lb k fs (initM ds) = sB at *
        generalize runE Lb N fs (initM ds) = sN at *
        generalize runE La N fs (initM ds) = sA at *
        subst hlay
        have st0 : 0 ≤ sB.c 39 := HP4.out.ab.bw 39 (.inr (by decide))
        have H22 := Lib.hid (c22 Lb.b (sB.c 40) w4 (HP4.out.ab.num 40 (.inr (by decide))))
        have H23 := Lib.hid (c23 Lb.b (sB.c 39) w4 (HP4.out.ab.num 39 (.inr (by decide))))
        have HS := Lib.hid (And.intro hlog (And.intro hle hparts))
        have hst : sB.c 39 ≤ 400 := by omega
        clear hlog hle hparts
        obtain ⟨st, hst'⟩ : ∃ st, sB.c 39 = st := ⟨_, rfl⟩
        obtain ⟨sx, hsx'⟩ : ∃ sx, sB.c 40 = sx := ⟨_, rfl⟩
        rw [hst'] at H23 st0 hst
        rw [hsx'] at H22
        have HST := Lib.hid (And.intro hst' hsx')
        clear hst' hsx'
        go_wp2_with (first
          | (go_at_call 22; (with_reducible refine H22.out.mono ?_); rintro e w5 ⟨rfl, rfl⟩)
          | (go_at_call 23; (with_reducible refine H23.out.mono ?_); rintro e w5 ⟨rfl, rfl⟩))
        obtain ⟨i0, hi0, hz0, hz1, hz2⟩ := info_parts info3
        clear x0 x1 x2 x4 H22 H23
        go_loopw [12, 13] (fun v q wr => ∃ j : Nat, j ≤ f ∧ q = .int .i64 j ∧ Hid (LatRel w5 fs st j v wr)) (fun _ q _ => f - (intOf q).toNat)
        case atStart => exact ⟨0, by omega, rfl, Lib.hid ⟨Fr.refl _ _, World.ownsRow_nil _ _ _ _⟩⟩
        case round =>
          obtain ⟨j, hj, rfl, HW⟩ := hrel
          obtain ⟨z0, z1, z2, z3, z4⟩ := HX.out _ (HP4.out.fr.trans HW.out.1)
          clear z0 z1 z2 x3
          by_cases hlt : j < f
          · have hne : ¬ fs = [] := fun e => by have := H0.out.2.2.2.1; rw [e] at this; simp at this; omega
            have hjl : j < fs.length := by rw [H0.out.2.2.2.1]; exact hlt
            obtain ⟨aa, cc, ee, _, _, hcs⟩ := HL3.out
            simp only [Value.slice.injEq] at ee
            obtain ⟨rfl, hfe, rfl⟩ := ee
            obtain ⟨fb, fo, rfl, _, hcell⟩ := hcs.resolve_left hne
            have g0 := (HP4.out.fr.trans HW.out.1).cell (hcell j hjl) id
            obtain ⟨x, hx⟩ : ∃ x, fs.getD j 0 = x := ⟨_, rfl⟩
            rw [hx] at g0
            have HXX := Lib.hid hx
            have HJL := Lib.hid hjl
            have t0 : (0 : Int) ≤ j := by omega
            have t1 : (j : Int) < f := by omega
            clear hcs hne hcell hx hfe hjl
            by_cases hle : st ≤ x
            · have hlen := later_len fs st j
              obtain ⟨q, hq⟩ : ∃ q, (later fs st j).length = q := ⟨_, rfl⟩
              have hown := HW.out.2
              rw [hq] at hown hlen
              have HQ := Lib.hid hq
              have HO := Lib.hid hown
              have hbz := HW.out.1.size
              clear hown hq
              go_wp2_with (at_builtin; refine wpList_append_own_at _ rfl _ _ 41 rfl w5.heap.size 3 i0 (.int .i64 0) 1 8 Try.underlying41 hi0 hz0 hz1 hz2 rfl (by decide) _ q _ (by rfl) (HO.out.alloc _) ⟨wr.heap.size, 0, none⟩ 1 1 [.int .i64 x] (by rfl) rfl (cell_one_new _ _ _) (by simp [Value.oneCell']) (by unfold maxLen; omega) (by omega) (by simp; omega) ?_; intro v' w6 hown' hgrow _ _)
              have HW' := Lib.hid (lat_yes HW.out HJL.out HXX.out hle (by rw [HQ.out]; exact hown') hgrow)
              clear hown' hgrow
              go_wp2
              go_roundw
              case rel => exact ⟨j + 1, by omega, by go_num, HW'⟩
              case measure => simp [intOf]; omega
            · have hle' : decide (st ≤ x) = false := decide_eq_false hle
              go_wp2
              go_roundw
              case rel => exact ⟨j + 1, by omega, by go_num, Lib.hid (lat_no HW.out HJL.out HXX.out hle)⟩
              case measure => simp [intOf]; omega
          · obtain rfl : j = f := by omega
            have hl21 := far_own HP4.out.ab HP4.out.wb HW.out.1 HW.out.2
            have hlat : later fs st j = fs.filter (fun x => decide (sB.c 39 ≤ x)) := by
              unfold later; rw [List.take_of_length_le (by rw [H0.out.2.2.2.1]; exact Nat.le_refl _), HST.out.1]
            rw [hlat] at hl21
            have hp5 := HP4.out.quiet HW.out.1
            have H21 := Lib.hid (c21 hp5.ab hp5.wb HS.out.1 N (by omega) _ _ hl21)
            rw [← HS.out.2.2] at H21
            have HP5 := Lib.hid hp5
            clear hl21 hlat hp5
            go_wp2_with fail
            go_at_call 21
            refine H21.out.mono ?_
            rintro e w6 ⟨rfl, hk6⟩
            obtain ⟨lvb2, hp6⟩ := HP5.out.swap.turn hk6
            have HP6 := Lib.hid hp6.swap
            have hstop : Hid (sx ≠ 0 → sA.c 40 = sx ∧ sA.c 39 = st) := Lib.hid (fun hz => by
              have e1 : runE Lb N (fs.filter (fun x => decide (sB.c 39 ≤ x))) sB = sB := runE_stop (fun q => hz (by rw [← HST.out.2]; exact q.1))
              have e2 := HS.out.2.2
              rw [e1] at e2
              rw [e2]
              exact ⟨HST.out.2, HST.out.1⟩)
            have hll : sA.log.length ≤ 1000000 := by
              have h1 := runE_log (L := Lb) (n := N) (l := fs.filter (fun x => decide (sB.c 39 ≤ x))) HP6.out.wb.ok HS.out.1
              have h2 := runE_le (L := Lb) (n := N) (l := fs.filter (fun x => decide (sB.c 39 ≤ x))) (s := sB) HP6.out.wb.ok
              rw [← HS.out.2.2] at h1 h2
              have h3 := HST.out.1
              omega
            have G22a := Lib.hid (fun W (hW : Fr (fun _ => False) w6 W) => c22 La.b (sA.c 40) W ((HP6.out.quiet hW).aa.num 40 (.inr (by decide))))
            have G22b := Lib.hid (fun W (hW : Fr (fun _ => False) w6 W) => c22 Lb.b (sA.c 40) W ((HP6.out.quiet hW).ab.num 40 (.inr (by decide))))
            have G23a := Lib.hid (fun W (hW : Fr (fun _ => False) w6 W) => c23 La.b (sA.c 39) W ((HP6.out.quiet hW).aa.num 39 (.inr (by decide))))
            have G23b := Lib.hid (fun W (hW : Fr (fun _ => False) w6 W) => c23 Lb.b (sA.c 39) W ((HP6.out.quiet hW).ab.num 39 (.inr (by decide))))
            have G24a := Lib.hid (fun W (hW : Fr (fun _ => False) w6 W) => c24 La.b (sA.c 32) W ((HP6.out.quiet hW).aa.num 32 (.inl (by decide))))
            have G24b := Lib.hid (fun W (hW : Fr (fun _ => False) w6 W) => c24 Lb.b (sA.c 32) W ((HP6.out.quiet hW).ab.num 32 (.inl (by decide))))
            have G27a := Lib.hid (fun W (hW : Fr (fun _ => False) w6 W) => c27 La.b (sA.c 41) W ((HP6.out.quiet hW).aa.num 41 (.inr (by decide))))
            have G27b := Lib.hid (fun W (hW : Fr (fun _ => False) w6 W) => c27 Lb.b (sA.c 41) W ((HP6.out.quiet hW).ab.num 41 (.inr (by decide))))
            have G26a : Hid (∀ W, Fr (fun _ => False) w6 W → Calls Try.prog 26 #[.pointer (some ⟨La.b, 0, none⟩), .int .i64 5] W fun e w' => e = .returned (.int .u32 (sA.c 5)) ∧ w' = W) := Lib.hid (fun W (hW : Fr (fun _ => False) w6 W) => c26 La.b 5 (by decide) (sA.c 5) W ((HP6.out.quiet hW).aa.reg (by decide)))
            have G26b : Hid (∀ W, Fr (fun _ => False) w6 W → Calls Try.prog 26 #[.pointer (some ⟨Lb.b, 0, none⟩), .int .i64 5] W fun e w' => e = .returned (.int .u32 (sA.c 5)) ∧ w' = W) := Lib.hid (fun W (hW : Fr (fun _ => False) w6 W) => c26 Lb.b 5 (by decide) (sA.c 5) W ((HP6.out.quiet hW).ab.reg (by decide)))
            have G25a := Lib.hid (fun W (hW : Fr (fun _ => False) w6 W) => log_at (HP6.out.quiet hW).aa HP6.out.wa hll)
            have G25b := Lib.hid (fun W (hW : Fr (fun _ => False) w6 W) => log_at (HP6.out.quiet hW).ab HP6.out.wb hll)
            have HC0 := Lib.hid (Fr.refl (fun _ => False) w6)
            have HFin := Lib.hid (HF.out.trans HP6.out.fr)
            clear H21 hk6 hp6 hll z3 z4 HP4 HP5 HP6 HS HST HL3 HX H0 HR hN st0 hst hi0 hz0 hz1 hz2 HW
            generalize sA.c 40 = t40 at *
            generalize sA.c 39 = t39 at *
            generalize sA.c 32 = t32 at *
            generalize sA.c 41 = t41 at *
            generalize sA.c 5 = t5 at *
            generalize sA.log = tl at *
            generalize La.b = pa at *
            generalize Lb.b = pb at *
            by_cases hsx : sx = 0
            · subst hsx
              clear hstop
              go_wp2_with (first
                | (go_at_call 19; (with_reducible refine (c19 _).mono ?_); rintro e w7 ⟨rfl, hg⟩; have HC := Lib.hid (HC0.out.trans hg); clear hg)
                | (go_at_call 22; (with_reducible refine (G22a.out _ HC.out).mono ?_); rintro e wz ⟨rfl, rfl⟩)
                | (go_at_call 22; (with_reducible refine (G22b.out _ HC.out).mono ?_); rintro e wz ⟨rfl, rfl⟩)
                | (go_at_call 23; (with_reducible refine (G23a.out _ HC.out).mono ?_); rintro e wz ⟨rfl, rfl⟩)
                | (go_at_call 23; (with_reducible refine (G23b.out _ HC.out).mono ?_); rintro e wz ⟨rfl, rfl⟩)
                | (go_at_call 24; (with_reducible refine (G24a.out _ HC.out).mono ?_); rintro e wz ⟨rfl, rfl⟩)
                | (go_at_call 24; (with_reducible refine (G24b.out _ HC.out).mono ?_); rintro e wz ⟨rfl, rfl⟩)
                | (go_at_call 26; (with_reducible refine (G26a.out _ HC.out).mono ?_); rintro e wz ⟨rfl, rfl⟩)
                | (go_at_call 26; (with_reducible refine (G26b.out _ HC.out).mono ?_); rintro e wz ⟨rfl, rfl⟩)
                | (go_at_call 27; (with_reducible refine (G27a.out _ HC.out).mono ?_); rintro e wz ⟨rfl, rfl⟩)
                | (go_at_call 27; (with_reducible refine (G27b.out _ HC.out).mono ?_); rintro e wz ⟨rfl, rfl⟩)
                | (go_at_call 25; (with_reducible refine (G25a.out _ HC.out).mono ?_); rintro e w8 ⟨_, rfl, _, _, rfl, hg, _⟩; replace HC := Lib.hid (HC.out.trans hg); clear hg)
                | (go_at_call 25; (with_reducible refine (G25b.out _ HC.out).mono ?_); rintro e w9 ⟨_, rfl, _, _, rfl, hg, _⟩; replace HC := Lib.hid (HC.out.trans hg); clear hg))
              go_ret
              exact ⟨rfl, HFin.out.trans HC.out⟩
            · obtain ⟨q1, q2⟩ := hstop.out hsx
              subst q1 q2
              have e1 : (t40 == 0) = false := by rw [beq_eq_false_iff_ne]; exact hsx
              have e2 : (t40 != 0) = true := by rw [bne_iff_ne]; exact hsx
              clear hstop hsx
              go_wp2_with (first
                | (go_at_call 19; (with_reducible refine (c19 _).mono ?_); rintro e w7 ⟨rfl, hg⟩; have HC := Lib.hid (HC0.out.trans hg); clear hg)
                | (go_at_call 22; (with_reducible refine (G22b.out _ HC0.out).mono ?_); rintro e wz ⟨rfl, rfl⟩)
                | (go_at_call 23; (with_reducible refine (G23b.out _ HC0.out).mono ?_); rintro e wz ⟨rfl, rfl⟩)
                | (go_at_call 22; (with_reducible refine (G22a.out _ HC.out).mono ?_); rintro e wz ⟨rfl, rfl⟩)
                | (go_at_call 22; (with_reducible refine (G22b.out _ HC.out).mono ?_); rintro e wz ⟨rfl, rfl⟩)
                | (go_at_call 23; (with_reducible refine (G23a.out _ HC.out).mono ?_); rintro e wz ⟨rfl, rfl⟩)
                | (go_at_call 23; (with_reducible refine (G23b.out _ HC.out).mono ?_); rintro e wz ⟨rfl, rfl⟩)
                | (go_at_call 24; (with_reducible refine (G24a.out _ HC.out).mono ?_); rintro e wz ⟨rfl, rfl⟩)
                | (go_at_call 24; (with_reducible refine (G24b.out _ HC.out).mono ?_); rintro e wz ⟨rfl, rfl⟩)
                | (go_at_call 26; (with_reducible refine (G26a.out _ HC.out).mono ?_); rintro e wz ⟨rfl, rfl⟩)
                | (go_at_call 26; (with_reducible refine (G26b.out _ HC.out).mono ?_); rintro e wz ⟨rfl, rfl⟩)
                | (go_at_call 27; (with_reducible refine (G27a.out _ HC.out).mono ?_); rintro e wz ⟨rfl, rfl⟩)
                | (go_at_call 27; (with_reducible refine (G27b.out _ HC.out).mono ?_); rintro e wz ⟨rfl, rfl⟩)
                | (go_at_call 25; (with_reducible refine (G25a.out _ HC.out).mono ?_); rintro e w8 ⟨_, rfl, _, _, rfl, hg, _⟩; replace HC := Lib.hid (HC.out.trans hg); clear hg)
                | (go_at_call 25; (with_reducible refine (G25b.out _ HC.out).mono ?_); rintro e w9 ⟨_, rfl, _, _, rfl, hg, _⟩; replace HC := Lib.hid (HC.out.trans hg); clear hg))
              go_ret
              exact ⟨rfl, HFin.out.trans HC.out⟩
end Go.Proofs.Ytipfefkddnogjaa
