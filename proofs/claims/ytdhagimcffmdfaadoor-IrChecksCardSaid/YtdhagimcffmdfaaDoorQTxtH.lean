/-
  Whether a module of one procedure is few (layer 13).
-/
import Derived.Test.YtdhagimcffmdfaaDoorQTxtE
import Derived.Test.YtdhagimcffmdfaaDoorQOpn
namespace Go.Proofs.YtdhagimcffmdfaaDoor
open Go.RowKit
set_option linter.unusedVariables false
set_option linter.unusedSimpArgs false
def FI (i : Inn) : Prop := i.args.length ≤ 12 ∧ (∀ m, m < 8 → Lo (i.l8.getD m 0)) ∧ ∀ m, m < i.args.length → Lo (i.args.getD m 0)
def FB (b : Bk) : Prop := b.ins.length ≤ 60 ∧ ∀ j, j < b.ins.length → FI (b.ins.getD j inn0)
def FewP (l : List Bk) (e : Ending) : Prop := ∃ t : Bool, e = .returned (.bool t) ∧ (t = true → l.length ≤ 40 ∧ ∀ k, k < l.length → FB (l.getD k bk0))
theorem FewP.no (l : List Bk) : FewP l (.returned (.bool false)) := ⟨false, rfl, fun h => by cases h⟩
set_option maxRecDepth 100000 in
set_option maxHeartbeats 8000000 in
theorem few_any (pb on oc cb : Nat) (oa ab : Option Addr) (l : List Bk) (hl : l.length ≤ 9223372036854775807) (hon : on ≤ 9223372036854775807) (hw : ∀ x ∈ l, x.wide) (w : World) (hpo : w.cell? ⟨pb, 4, none⟩ = some (.slice oa on oc)) (hpb : w.cell? ⟨pb, 5, none⟩ = some (.slice ab l.length cb)) (hat : BkL w ab l) :
    Calls Tryd.prog 6 #[.agg #[.slice none 0 0, .slice none 0 0, .slice (some ⟨pb, 0, none⟩) 1 1, .int .i64 0]] w fun e w' => FewP l e ∧ Fr (fun _ => False) w w' := by
  have HA := Lib.hid hat
  have HWD := Lib.hid hw
  obtain ⟨n, hn⟩ : ∃ n, l.length = n := ⟨_, rfl⟩
  have HN := Lib.hid hn
  rw [hn] at hl hpb
  clear hat hw hn
  have m2 := fcell w #[.slice none 0 0, .slice none 0 0, .slice (some ⟨pb, 0, none⟩) 1 1, .int .i64 0] 26 2 _ rfl
  have HF0 : Hid (Fr (fun _ => False) w (w.alloc (.cells #[.slice none 0 0, .slice none 0 0, .slice (some ⟨pb, 0, none⟩) 1 1, .int .i64 0] 26))) := Lib.hid (fr_al (Fr.refl _ _) _)
  go_enter Tryd.func6, Tryd.ntmps6
  go_wp2
  have p4 := HF0.out.cell hpo id
  have p5 := HF0.out.cell hpb id
  clear hpo hpb
  generalize w.alloc (.cells #[.slice none 0 0, .slice none 0 0, .slice (some ⟨pb, 0, none⟩) 1 1, .int .i64 0] 26) = W0 at *
  generalize w.heap.size = mb at *
  go_loopw [3] (fun q wr => ∃ k : Nat, q = .int .i64 k ∧ k ≤ 1 ∧ Hid (Fr (fun _ => False) W0 wr) ∧ Hid (k = 1 → FewP l (.returned (.bool true)))) (fun q _ => 1 - (intOf q).toNat)
  case atStart => exact ⟨0, rfl, by omega, Lib.hid (Fr.refl _ _), Lib.hid (fun h => by cases h)⟩
  case round =>
    obtain ⟨i, rfl, hi, HW, HE⟩ := hrel
    have a2 := HW.out.cell m2 id
    have a4 := HW.out.cell p4 id
    have a5 := HW.out.cell p5 id
    have HG := Lib.hid (HF0.out.trans HW.out)
    have hi2 : i = 0 ∨ i = 1 := by omega
    rcases hi2 with rfl | rfl
    · by_cases h40 : 40 < n
      · have HR := FewP.no l
        go_wp2
        go_ret
        exact ⟨HR, HG.out⟩
      by_cases h20 : 20 < on
      · have HR := FewP.no l
        go_wp2
        go_ret
        exact ⟨HR, HG.out⟩
      go_wp2
      clear HE a2 a4 a5
      go_loopw [4] (fun q wx => ∃ k : Nat, q = .int .i64 k ∧ k ≤ n ∧ Hid (Fr (fun _ => False) W0 wx) ∧ Hid (∀ m, m < k → FB (l.getD m bk0))) (fun q _ => n - (intOf q).toNat)
      case atStart => exact ⟨0, rfl, by omega, HW, Lib.hid (fun m hm => absurd hm (by omega))⟩
      case round =>
        obtain ⟨k, rfl, hk, HX, HK⟩ := hrel
        have a2 := HX.out.cell m2 id
        have a4 := HX.out.cell p4 id
        have a5 := HX.out.cell p5 id
        have HGX := Lib.hid (HF0.out.trans HX.out)
        by_cases hkn : k < n
        · have hkl : k < l.length := by rw [HN.out]; exact hkn
          obtain ⟨g, o, rfl, ⟨ai, ci, c0', HIL⟩, _, _, _, _⟩ := HA.out k hkl
          have c0 := HGX.out.cell c0' id
          have hbw := HWD.out _ (getD_mem hkl)
          have hFB : FB (l.getD k bk0) ↔ FB (l.getD k bk0) := Iff.rfl
          have HFB := Lib.hid hFB
          obtain ⟨x, hx⟩ : ∃ x, l.getD k bk0 = x := ⟨_, rfl⟩
          rw [hx] at c0 c0' HIL hbw
          have HXE := Lib.hid hx
          obtain ⟨ni, hni⟩ : ∃ ni, x.ins.length = ni := ⟨_, rfl⟩
          have HNI := Lib.hid hni
          have hnm : ni ≤ 9223372036854775807 := by have := hbw.n; unfold maxLen at this; omega
          rw [hni] at c0 c0'
          have HC0 := Lib.hid c0'
          have HIW := Lib.hid hbw.i
          have HIL := Lib.hid HIL
          clear c0' hx hni hbw hFB HFB
          by_cases h60 : 60 < ni
          · have HR := FewP.no l
            go_wp2
            go_ret
            exact ⟨HR, HGX.out⟩
          go_wp2
          clear a2 a4 a5 c0
          go_loopw [5] (fun q wx => ∃ j : Nat, q = .int .i64 j ∧ j ≤ ni ∧ Hid (Fr (fun _ => False) W0 wx) ∧ Hid (∀ m, m < j → FI (x.ins.getD m inn0))) (fun q _ => ni - (intOf q).toNat)
          case atStart => exact ⟨0, rfl, by omega, HX, Lib.hid (fun m hm => absurd hm (by omega))⟩
          case round =>
            obtain ⟨j, rfl, hj, HJ, HM⟩ := hrel
            have a2 := HJ.out.cell m2 id
            have a4 := HJ.out.cell p4 id
            have a5 := HJ.out.cell p5 id
            have HGJ := Lib.hid (HF0.out.trans HJ.out)
            have c0 := HGJ.out.cell HC0.out id
            by_cases hjn : j < ni
            · have hjl : j < x.ins.length := by rw [HNI.out]; exact hjn
              obtain ⟨gi, oi, rfl, hins⟩ := (HIL.out.fr HGJ.out) j hjl
              have hiw := HIW.out _ (getD_memI hjl)
              obtain ⟨y, hy⟩ : ∃ y, x.ins.getD j inn0 = y := ⟨_, rfl⟩
              rw [hy] at hins hiw
              have HY := Lib.hid hy
              clear hy
              obtain ⟨x0, x1, x2, x3, x4, x5, x6, x7, u, args, lg⟩ := y
              obtain ⟨d0, d1, d2, d3, d4, d5, d6, d7, d8, ⟨a9, c9, d9, da⟩, d10⟩ := hins
              simp only at d0 d1 d2 d3 d4 d5 d6 d7 d8 d9 da d10
              have HQ := Lib.hid (ins_low x0 x1 x2 x3 x4 x5 x6 x7 (.int .u32 u) (.bool lg) a9 args.length c9 args rfl (by have := hiw.n; unfold maxLen at this; simp only at this; omega) wr da)
              have HR := FewP.no l
              generalize args.length = n9 at d9 HQ
              clear hiw da
              go_wp2_with (go_at_call 12; (with_reducible refine HQ.out.mono ?_); rintro e w5 ⟨⟨tt, rfl, hle⟩, hf⟩; have HLE := Lib.hid hle; have HF5 := Lib.hid hf; clear hle hf; cases tt)
              · go_ret
                exact ⟨HR, HGJ.out.trans HF5.out⟩
              · have HM2 : Hid (∀ m, m < j + 1 → FI (x.ins.getD m inn0)) := Lib.hid (fun m hm => by
                  by_cases hmj : m < j
                  · exact HM.out m hmj
                  · obtain rfl : m = j := by omega
                    rw [HY.out]
                    have q := HLE.out
                    simp only [forall_const, true_implies] at q
                    exact q)
                have HJ5 := Lib.hid (HJ.out.trans HF5.out)
                go_wp2
                go_roundw
                case rel => exact ⟨j + 1, by go_num, by omega, HJ5, HM2⟩
                case measure => simp [intOf]; omega
            · obtain rfl : j = ni := by omega
              have HK2 : Hid (∀ m, m < k + 1 → FB (l.getD m bk0)) := Lib.hid (fun m hm => by
                by_cases hmk : m < k
                · exact HK.out m hmk
                · obtain rfl : m = k := by omega
                  rw [HXE.out]
                  exact ⟨by rw [HNI.out]; omega, by rw [HNI.out]; exact HM.out⟩)
              go_wp2
              go_roundw
              case rel => exact ⟨k + 1, by go_num, by omega, HJ, HK2⟩
              case measure => simp [intOf]; omega
        · obtain rfl : k = n := by omega
          have HT : Hid (0 + 1 = 1 → FewP l (.returned (.bool true))) := Lib.hid (fun _ => ⟨true, rfl, fun _ => ⟨by rw [HN.out]; omega, by rw [HN.out]; exact HK.out⟩⟩)
          go_wp2
          go_roundw
          case rel => exact ⟨1, by go_num, by omega, HX, HT⟩
          case measure => simp [intOf]
    · have HR := HE.out rfl
      go_wp2
      go_ret
      exact ⟨HR, HG.out⟩
end Go.Proofs.YtdhagimcffmdfaaDoor
