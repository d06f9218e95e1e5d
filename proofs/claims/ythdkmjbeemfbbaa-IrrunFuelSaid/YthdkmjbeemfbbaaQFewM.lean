/-
  Whether any module is few (layer 13).
-/
import Derived.Test.YthdkmjbeemfbbaaQChkG
namespace Go.Proofs.Ythdkmjbeemfbbaa
open Go.RowKit
set_option linter.unusedVariables false
set_option linter.unusedSimpArgs false
def FewM (m : Mdl) (e : Ending) : Prop := ∃ t : Bool, e = .returned (.bool t) ∧ (t = true → m.few)
theorem FewM.no (m : Mdl) : FewM m (.returned (.bool false)) := ⟨false, rfl, fun h => by cases h⟩
set_option maxRecDepth 100000 in
set_option maxHeartbeats 8000000 in
theorem few_mod (ga da pa : Option Addr) (nG nD nP gc dc pc : Nat) (mn : Int) (m : Mdl) (hnG : nG = m.gl.length) (hnD : nD = m.da.length) (hnP : nP = m.pr.length) (hwd : m.wide) (w : World) (hm : MdlAt w ga da pa m) :
    Calls Try.prog 4 #[.agg #[.slice ga nG gc, .slice da nD dc, .slice pa nP pc, .int .i64 mn]] w fun e w' => FewM m e ∧ Fr (fun _ => False) w w' := by
  have HR := FewM.no m
  have HM := Lib.hid hm
  have HWM := Lib.hid hwd
  have HLN := Lib.hid (And.intro hnG (And.intro hnD hnP))
  have hG64 : nG ≤ 9223372036854775807 := by have := hwd.g; unfold maxLen at this; omega
  have hD64 : nD ≤ 9223372036854775807 := by have := hwd.d; unfold maxLen at this; omega
  have hP64 : nP ≤ 9223372036854775807 := by have := hwd.p; unfold maxLen at this; omega
  clear hm hwd hnG hnD hnP
  have m0 := fcell w #[.slice ga nG gc, .slice da nD dc, .slice pa nP pc, .int .i64 mn] 26 0 _ rfl
  have m1 := fcell w #[.slice ga nG gc, .slice da nD dc, .slice pa nP pc, .int .i64 mn] 26 1 _ rfl
  have m2 := fcell w #[.slice ga nG gc, .slice da nD dc, .slice pa nP pc, .int .i64 mn] 26 2 _ rfl
  have HF0 : Hid (Fr (fun _ => False) w (w.alloc (.cells #[.slice ga nG gc, .slice da nD dc, .slice pa nP pc, .int .i64 mn] 26))) := Lib.hid (fr_al (Fr.refl _ _) _)
  by_cases p6 : 6 < nP
  · go_enter Try.func4, Try.ntmps4
    go_wp2
    go_ret
    exact ⟨HR, HF0.out⟩
  by_cases g20 : 20 < nG
  · go_enter Try.func4, Try.ntmps4
    go_wp2
    go_ret
    exact ⟨HR, HF0.out⟩
  by_cases d20 : 20 < nD
  · go_enter Try.func4, Try.ntmps4
    go_wp2
    go_ret
    exact ⟨HR, HF0.out⟩
  go_enter Try.func4, Try.ntmps4
  go_wp2
  generalize w.alloc (.cells #[.slice ga nG gc, .slice da nD dc, .slice pa nP pc, .int .i64 mn] 26) = W0 at *
  generalize w.heap.size = mb at *
  go_loopw [3] (fun q wr => ∃ k : Nat, q = .int .i64 k ∧ k ≤ nP ∧ Hid (Fr (fun _ => False) W0 wr) ∧ Hid (∀ j, j < k → (m.pr.getD j prc0).few)) (fun q _ => nP - (intOf q).toNat)
  case atStart => exact ⟨0, rfl, by omega, Lib.hid (Fr.refl _ _), Lib.hid (fun j hj => absurd hj (by omega))⟩
  case round =>
    obtain ⟨i, rfl, hi, HW, HE⟩ := hrel
    have a2 := HW.out.cell m2 id
    have HG := Lib.hid (HF0.out.trans HW.out)
    by_cases hlt : i < nP
    · have hkl : i < m.pr.length := by rw [← HLN.out.2.2]; exact hlt
      obtain ⟨pg, po, rfl, _, _, _, _, ⟨oa, oc, p4', _⟩, ⟨ab, cb, p5', hat⟩⟩ := HM.out.p i hkl
      have hpw := HWM.out.w _ (getD_memP hkl)
      obtain ⟨p, hp⟩ : ∃ p, m.pr.getD i prc0 = p := ⟨_, rfl⟩
      rw [hp] at p4' p5' hat hpw
      have HPE := Lib.hid hp
      obtain ⟨l, hl'⟩ : ∃ l, p.bl = l := ⟨_, rfl⟩
      obtain ⟨on, hon'⟩ : ∃ on, p.ob.length = on := ⟨_, rfl⟩
      have hwl := hpw.w
      have hl0 := hpw.b
      have ho0 := hpw.o
      rw [hl'] at p5' hat hwl hl0
      rw [hon'] at p4' ho0
      have HLO := Lib.hid (And.intro hl' hon')
      obtain ⟨n, hn⟩ : ∃ n, l.length = n := ⟨_, rfl⟩
      have HN := Lib.hid hn
      rw [hn] at p5' hl0
      have hl : n ≤ 9223372036854775807 := by unfold maxLen at hl0; omega
      have hon : on ≤ 9223372036854775807 := by unfold maxLen at ho0; omega
      have HA := Lib.hid hat
      have HWD := Lib.hid hwl
      have HP4 := Lib.hid p4'
      have HP5 := Lib.hid p5'
      have a4 := HG.out.cell p4' id
      have a5 := HG.out.cell p5' id
      clear hkl hpw hp hl' hon' hwl hl0 ho0 hn hat p4' p5'
      by_cases h40 : 40 < n
      · go_wp2
        go_ret
        exact ⟨HR, HG.out⟩
      by_cases h20 : 20 < on
      · go_wp2
        go_ret
        exact ⟨HR, HG.out⟩
      go_wp2
      clear a2 a4 a5
      go_loopw [4] (fun q wx => ∃ k : Nat, q = .int .i64 k ∧ k ≤ n ∧ Hid (Fr (fun _ => False) W0 wx) ∧ Hid (∀ m, m < k → FB (l.getD m bk0))) (fun q _ => n - (intOf q).toNat)
      case atStart => exact ⟨0, rfl, by omega, HW, Lib.hid (fun m hm => absurd hm (by omega))⟩
      case round =>
        obtain ⟨k, rfl, hk, HX, HK⟩ := hrel
        have a2 := HX.out.cell m2 id
        have HGX := Lib.hid (HF0.out.trans HX.out)
        have a4 := HGX.out.cell HP4.out id
        have a5 := HGX.out.cell HP5.out id
        by_cases hkn : k < n
        · have hkl : k < l.length := by rw [HN.out]; exact hkn
          obtain ⟨g, o, rfl, ⟨ai, ci, c0', HIL⟩, _, _, _, _⟩ := HA.out k hkl
          have c0 := HGX.out.cell c0' id
          have hbw := HWD.out _ (getD_mem hkl)
          have hFB : FB (l.getD k bk0) ↔ FB (l.getD k bk0) := Iff.rfl
          have HFB := Lib.hid hFB
          obtain ⟨x, hx⟩ : ∃ x, l.getD k bk0 = x := ⟨_, rfl⟩
          rw [hx] at c0 c0' HIL hbw
          have HXE := Lib.hid hx
          obtain ⟨ni, hni⟩ : ∃ ni, x.ins.length = ni := ⟨_, rfl⟩
          have HNI := Lib.hid hni
          have hnm : ni ≤ 9223372036854775807 := by have := hbw.n; unfold maxLen at this; omega
          rw [hni] at c0 c0'
          have HC0 := Lib.hid c0'
          have HIW := Lib.hid hbw.i
          have HIL := Lib.hid HIL
          clear c0' hx hni hbw hFB HFB
          by_cases h60 : 60 < ni
          · go_wp2
            go_ret
            exact ⟨HR, HGX.out⟩
          go_wp2
          clear a2 a4 a5 c0
          go_loopw [5] (fun q wx => ∃ j : Nat, q = .int .i64 j ∧ j ≤ ni ∧ Hid (Fr (fun _ => False) W0 wx) ∧ Hid (∀ m, m < j → FI (x.ins.getD m inn0))) (fun q _ => ni - (intOf q).toNat)
          case atStart => exact ⟨0, rfl, by omega, HX, Lib.hid (fun m hm => absurd hm (by omega))⟩
          case round =>
            obtain ⟨j, rfl, hj, HJ, HM⟩ := hrel
            have a2 := HJ.out.cell m2 id
            have HGJ := Lib.hid (HF0.out.trans HJ.out)
            have a4 := HGJ.out.cell HP4.out id
            have a5 := HGJ.out.cell HP5.out id
            have c0 := HGJ.out.cell HC0.out id
            by_cases hjn : j < ni
            · have hjl : j < x.ins.length := by rw [HNI.out]; exact hjn
              obtain ⟨gi, oi, rfl, hins⟩ := (HIL.out.fr HGJ.out) j hjl
              have hiw := HIW.out _ (getD_memI hjl)
              obtain ⟨y, hy⟩ : ∃ y, x.ins.getD j inn0 = y := ⟨_, rfl⟩
              rw [hy] at hins hiw
              have HY := Lib.hid hy
              clear hy
              obtain ⟨x0, x1, x2, x3, x4, x5, x6, x7, u, args, lg⟩ := y
              obtain ⟨d0, d1, d2, d3, d4, d5, d6, d7, d8, ⟨a9, c9, d9, da⟩, d10⟩ := hins
              simp only at d0 d1 d2 d3 d4 d5 d6 d7 d8 d9 da d10
              have HQ := Lib.hid (ins_low x0 x1 x2 x3 x4 x5 x6 x7 (.int .u32 u) (.bool lg) a9 args.length c9 args rfl (by have := hiw.n; unfold maxLen at this; simp only at this; omega) wr da)
              generalize args.length = n9 at d9 HQ
              clear hiw da
              go_wp2_with (go_at_call 9; (with_reducible refine HQ.out.mono ?_); rintro e w5 ⟨⟨tt, rfl, hle⟩, hf⟩; have HLE := Lib.hid hle; have HF5 := Lib.hid hf; clear hle hf; cases tt)
              · go_ret
                exact ⟨HR, HGJ.out.trans HF5.out⟩
              · have HM2 : Hid (∀ m, m < j + 1 → FI (x.ins.getD m inn0)) := Lib.hid (fun m hm => by
                  by_cases hmj : m < j
                  · exact HM.out m hmj
                  · obtain rfl : m = j := by omega
                    rw [HY.out]
                    have q := HLE.out
                    simp only [forall_const, true_implies] at q
                    exact q)
                have HJ5 := Lib.hid (HJ.out.trans HF5.out)
                go_wp2
                go_roundw
                case rel => exact ⟨j + 1, by go_num, by omega, HJ5, HM2⟩
                case measure => simp [intOf]; omega
            · obtain rfl : j = ni := by omega
              have HK2 : Hid (∀ m, m < k + 1 → FB (l.getD m bk0)) := Lib.hid (fun m hm => by
                by_cases hmk : m < k
                · exact HK.out m hmk
                · obtain rfl : m = k := by omega
                  rw [HXE.out]
                  exact ⟨by rw [HNI.out]; omega, by rw [HNI.out]; exact HM.out⟩)
              go_wp2
              go_roundw
              case rel => exact ⟨k + 1, by go_num, by omega, HJ, HK2⟩
              case measure => simp [intOf]; omega
        · obtain rfl : k = n := by omega
          have HE2 : Hid (∀ j, j < i + 1 → (m.pr.getD j prc0).few) := Lib.hid (fun j hj => by
            by_cases hji : j < i
            · exact HE.out j hji
            · obtain rfl : j = i := by omega
              rw [HPE.out]
              exact ⟨by rw [HLO.out.1, HN.out]; omega, by rw [HLO.out.2]; omega, by rw [HLO.out.1, HN.out]; exact HK.out⟩)
          go_wp2
          go_roundw
          case rel => exact ⟨i + 1, by go_num, by omega, HX, HE2⟩
          case measure => simp [intOf]; omega
    · obtain rfl : i = nP := by omega
      have HT : FewM m (.returned (.bool true)) := ⟨true, rfl, fun _ => ⟨by rw [← HLN.out.1]; omega, by rw [← HLN.out.2.1]; omega, by rw [← HLN.out.2.2]; omega, by rw [← HLN.out.2.2]; exact HE.out⟩⟩
      go_wp2
      go_ret
      exact ⟨HT, HG.out⟩
end Go.Proofs.Ythdkmjbeemfbbaa
