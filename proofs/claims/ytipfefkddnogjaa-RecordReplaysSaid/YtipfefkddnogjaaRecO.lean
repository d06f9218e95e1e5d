/-
  The contract of the document's own Orderly (layer 4).
-/
import Derived.Test.YtipfefkddnogjaaRecL
namespace Go.Proofs.Ytipfefkddnogjaa
open Go.RowKit Go.Maps
set_option linter.unusedVariables false
set_option linter.unusedSimpArgs false

theorem recAt_same {w : World} {b o b' o' : Nat} {l : List Rc} {j : Nat} (h : RecAt w (some ⟨b, o, none⟩) l) (hj : j < l.length) : w.cell? ⟨b, o + j * 2, none⟩ = some (.int .u32 (l.getD j (0, 0)).1) ∧ w.cell? ⟨b, o + j * 2 + 1, none⟩ = some (.int .u32 (l.getD j (0, 0)).2) := by
  obtain ⟨b', o', e, z0, z1⟩ := h j hj
  simp only [Option.some.injEq, Addr.mk.injEq, and_true] at e
  obtain ⟨rfl, rfl⟩ := e
  exact ⟨z0, z1⟩
theorem rc_at {l : List Rc} (hr : Rcs l) {k : Nat} (hk : k < l.length) : Rc.ok (l.getD k (0, 0)) :=
  hr _ (by rw [List.getD_eq_getElem?_getD, List.getElem?_eq_getElem hk]; exact List.getElem_mem hk)
set_option maxRecDepth 100000 in
set_option maxHeartbeats 16000000 in
theorem c35 (a : Option Addr) (c : Nat) (l : List Rc) (hl : l.length < 1000000) (hr : Rcs l) (w : World) (hat : RecAt w a l) :
    Calls Try.prog 35 #[.slice a l.length c] w fun e w' => e = .returned (.bool (ordP l)) ∧ w.grownBy w' none := by
  have HA := Lib.hid hat
  have HRc := Lib.hid hr
  clear hat hr
  have H0 : Hid (ordK l 0 = true) := Lib.hid rfl
  have HB0 := Lib.hid (by_refl w)
  go_enter Try.func35, Try.ntmps35
  go_wp2
  go_loopw [3] (fun i wr => ∃ k : Nat, k ≤ l.length ∧ i = .int .i64 k ∧ Hid (ordK l k = true) ∧ Hid (w.grownBy wr none)) (fun i _ => l.length - (intOf i).toNat)
  case atStart => exact ⟨0, by omega, rfl, H0, HB0⟩
  case round =>
    obtain ⟨k, hk, rfl, HO, HB⟩ := hrel
    clear H0 HB0
    by_cases hlt : k < l.length
    · have HRA := Lib.hid (recAt_by HA.out HB.out)
      obtain ⟨b, o, rfl, c0, c1⟩ := HRA.out k hlt
      have K63 := Lib.hid (fun w (h : RecAt w (some ⟨b, o, none⟩) l) => c63 (some ⟨b, o, none⟩) c l hl k hlt w h)
      have hm := Lib.hid (most_ord (by omega) HRc.out HO.out)
      have hroK := rc_at HRc.out hlt
      obtain ⟨⟨x0, x1⟩, ⟨y0, y1⟩⟩ := hroK
      have h1 : (k : Int) < l.length := by omega
      have h2 : (0 : Int) ≤ k := by omega
      obtain ⟨wo, hwo⟩ : ∃ wo : World, wo = wr := ⟨_, rfl⟩
      subst hwo
      go_wp2
      go_loop [4, 5] (fun m i => ∃ j : Nat, j ≤ k ∧ i = .int .i64 j ∧ m = .int .i64 (mostTo l j)) (fun _ i => k - (intOf i).toNat)
      case atStart => exact ⟨0, by omega, rfl, rfl⟩
      case round =>
        obtain ⟨j, hj, rfl, rfl⟩ := hrel
        by_cases hjl : j < k
        · obtain ⟨z0, z1⟩ := recAt_same (b' := b) (o' := o) HRA.out (show j < l.length by omega)
          have hroJ := rc_at HRc.out (show j < l.length by omega)
          obtain ⟨⟨p0, p1⟩, _⟩ := hroJ
          have HM : Hid (mostTo l (j + 1) = if mostTo l j < (l.getD j (0, 0)).1 then (l.getD j (0, 0)).1 else mostTo l j) := Lib.hid rfl
          have g1 : (j : Int) < k := by omega
          have g2 : (j : Int) < l.length := by omega
          have g3 : (0 : Int) ≤ j := by omega
          clear z1
          generalize (l.getD j (0, 0)).1 = x at *
          generalize mostTo l j = m at *
          by_cases hc : m < x
          · go_wp2
            go_round
            case rel => exact ⟨j + 1, by omega, by go_num, by rw [HM.out, if_pos hc]⟩
            case measure => simp [intOf]; omega
          · have hc' : x ≤ m := by omega
            go_wp2
            go_round
            case rel => exact ⟨j + 1, by omega, by go_num, by rw [HM.out, if_neg hc]⟩
            case measure => simp [intOf]; omega
        · have hj4 : j = k := by omega
          subst hj4
          have F2 : Hid (okStep (firsts (l.take j)) (l.getD j (0, 0)) = false → ordP l = false) := Lib.hid (ord_false hlt)
          have F3 : Hid (okStep (firsts (l.take j)) (l.getD j (0, 0)) = true → ordK l (j + 1) = true) := Lib.hid (fun h => by unfold ordK; rw [HO.out, h]; rfl)
          have hh := ord_has (l := l) (k := j) (by omega) HO.out (l.getD j (0, 0)).1
          have N1 := ahd_neg (l := l) (k := j) hlt
          have N2 := ahd_pos (l := l) (k := j) hlt
          have V : ∀ q : Nat, q < j → (l.getD q (0, 0)).1 = (l.getD j (0, 0)).1 → (∀ i, i < q → (l.getD i (0, 0)).1 ≠ (l.getD j (0, 0)).1) → valN (firsts (l.take j)) (l.getD j (0, 0)).1 = (l.getD q (0, 0)).2 := fun q hq e hb => by
            rw [valN_firsts _ _ ((hasN_take (by omega)).2 ⟨q, hq, e⟩)]
            exact valN_first (by omega) hq e hb
          have hmo := hm.out
          have hal : (firsts (l.take j)).length < 1000000 := by have := length_firsts (l.take j); have := List.length_take_le j l; omega
          have C0 := Lib.hid c0
          have C1 := Lib.hid c1
          generalize hM : mostTo l j = m at *
          clear hm hM
          generalize firsts (l.take j) = acc at *
          cases hn : hasN acc (l.getD j (0, 0)).1
          · have e := N1 hn
            rw [e] at K63
            have hge : (acc.length : Int) ≤ (l.getD j (0, 0)).1 := by
              by_cases h : (l.getD j (0, 0)).1 < acc.length
              · have := hh.2 ⟨x0, h⟩
                rw [hn] at this; cases this
              · omega
            have hok : okStep acc (l.getD j (0, 0)) = ((l.getD j (0, 0)).1 == (acc.length : Int)) := by unfold okStep; rw [if_neg (by rw [hn]; simp)]
            clear N1 N2 V hh hn e
            by_cases hc : m + 1 < (l.getD j (0, 0)).1
            · have HP : Hid (ordP l = false) := Lib.hid (F2.out (by rw [hok, beq_eq_false_iff_ne]; omega))
              clear hok F2 F3
              have hmo1 : m = (acc.length : Int) - 1 := hmo
              have hm1 : -1 ≤ m := by omega
              have hm2 : m ≤ 1000000000 := by omega
              clear hmo hmo1 hge
              generalize l.getD j (0, 0) = r at *
              go_wp2
              go_ret
              exact ⟨by rw [HP.out]; rfl, HB.out⟩
            · have HP : Hid (ordK l (j + 1) = true) := Lib.hid (F3.out (by rw [hok, beq_iff_eq]; omega))
              have hc' : (l.getD j (0, 0)).1 ≤ m + 1 := by omega
              clear hok F2 F3
              have hmo1 : m = (acc.length : Int) - 1 := hmo
              have hm1 : -1 ≤ m := by omega
              have hm2 : m ≤ 1000000000 := by omega
              clear hmo hmo1 hge
              generalize l.getD j (0, 0) = r at *
              go_wp2_with (go_at_call 63; (with_reducible refine (K63.out _ (by exact HRA.out)).mono ?_); rintro e w1 ⟨rfl, hg⟩
                           have HG := Lib.hid (HB.out.trans hg)
                           clear hg)
              go_quiet (fail)
              go_wp2
              go_roundw
              case rel => exact ⟨j + 1, by omega, by go_num, HP, Lib.hid (by_drewN HG.out _)⟩
              case measure => simp [intOf]; omega
          · obtain ⟨q, hq, e, e1, e2⟩ := N2 hn
            rw [e] at K63
            have hv := V q hq e1 e2
            have hlt2 := (hh.1 hn).2
            have hok : okStep acc (l.getD j (0, 0)) = (valN acc (l.getD j (0, 0)).1 == (l.getD j (0, 0)).2) := by unfold okStep; rw [if_pos hn]
            rw [hv] at hok
            obtain ⟨_, z1⟩ := recAt_same (b' := b) (o' := o) HRA.out (show q < l.length by omega)
            have Z1 := Lib.hid z1
            have hc : (l.getD j (0, 0)).1 ≤ m + 1 := by omega
            have hm1 : -1 ≤ m := by omega
            have hm2 : m ≤ 1000000000 := by omega
            have q1 : (q : Int) < l.length := by omega
            have q2 : (0 : Int) ≤ q := by omega
            clear N1 N2 V hh hn e hv hlt2 hmo e1 e2 z1
            generalize (l.getD q (0, 0)).2 = y at *
            have hc2 : m + 1 < (l.getD j (0, 0)).1 → False := by omega
            cases he : (y == (l.getD j (0, 0)).2)
            · have HP : Hid (ordP l = false) := Lib.hid (F2.out (by rw [hok, he]))
              have he' : (y != (l.getD j (0, 0)).2) = true := by unfold bne; rw [he]; rfl
              clear hok F2 F3 he hc2
              generalize l.getD j (0, 0) = r at *
              go_wp2_with (go_at_call 63; (with_reducible refine (K63.out _ (by exact HRA.out)).mono ?_); rintro e w1 ⟨rfl, hg⟩
                           have HG := Lib.hid (HB.out.trans hg)
                           have z1 := hg.cell Z1.out (by simp)
                           have c1' := hg.cell C1.out (by simp)
                           clear hg)
              go_quiet (fail)
              go_wp2
              go_ret
              exact ⟨by rw [HP.out]; rfl, by_drewN HG.out _⟩
            · have HP : Hid (ordK l (j + 1) = true) := Lib.hid (F3.out (by rw [hok, he]))
              have he' : (y != (l.getD j (0, 0)).2) = false := by unfold bne; rw [he]; rfl
              clear hok F2 F3 he hc2
              generalize l.getD j (0, 0) = r at *
              go_wp2_with (go_at_call 63; (with_reducible refine (K63.out _ (by exact HRA.out)).mono ?_); rintro e w1 ⟨rfl, hg⟩
                           have HG := Lib.hid (HB.out.trans hg)
                           have z1 := hg.cell Z1.out (by simp)
                           have c1' := hg.cell C1.out (by simp)
                           clear hg)
              go_quiet (fail)
              go_wp2
              go_roundw
              case rel => exact ⟨j + 1, by omega, by go_num, HP, Lib.hid (by_drewN HG.out _)⟩
              case measure => simp [intOf]; omega
    · have hk4 : k = l.length := by omega
      subst hk4
      have HP : Hid (ordP l = true) := Lib.hid HO.out
      go_wp2
      go_ret
      exact ⟨by rw [HP.out]; rfl, HB.out⟩
end Go.Proofs.Ytipfefkddnogjaa
