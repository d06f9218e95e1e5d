/-
  Modules (layer 13): the program's Check.
-/
import Derived.Test.YthdkmjbeemfbbaaQChkG
namespace Go.Proofs.Ythdkmjbeemfbbaa
open Go.RowKit
set_option linter.unusedVariables false
set_option linter.unusedSimpArgs false
def MdlV (m : Mdl) : Prop := m.da.length = m.gl.length ∧ 1 ≤ m.pr.length ∧ (0 ≤ m.mn ∧ m.mn < m.pr.length) ∧ (m.pr.getD m.mn.toNat prc0).pa = 0 ∧ (m.pr.getD m.mn.toNat prc0).vd = false ∧ SltsP m.gl ∧ DatP m
set_option maxRecDepth 100000 in
set_option maxHeartbeats 8000000 in
theorem mout_any (ga da pa : Option Addr) (nG nD nP gc dc pc : Nat) (mn : Int) (m : Mdl) (hnG : nG = m.gl.length) (hnD : nD = m.da.length) (hnP : nP = m.pr.length) (hmn : mn = m.mn) (hfew : m.few) (hdm : ∀ y ∈ m.da, y ≤ maxLen) (w : World) (hm : MdlAt w ga da pa m) : Calls Try.prog 15 #[.agg #[.slice ga nG gc, .slice da nD dc, .slice pa nP pc, .int .i64 mn]] w fun e w' => IsR (MdlV m) e ∧ Fr (fun _ => False) w w' := by
  have F0 : Hid (Fr (fun _ => False) w (w.alloc (.cells #[.slice ga nG gc, .slice da nD dc, .slice pa nP pc, .int .i64 mn] 26))) := Lib.hid (fr_al (Fr.refl _ _) _)
  have m0 := fcell w #[.slice ga nG gc, .slice da nD dc, .slice pa nP pc, .int .i64 mn] 26 0 _ rfl
  have m1 := fcell w #[.slice ga nG gc, .slice da nD dc, .slice pa nP pc, .int .i64 mn] 26 1 _ rfl
  have m2 := fcell w #[.slice ga nG gc, .slice da nD dc, .slice pa nP pc, .int .i64 mn] 26 2 _ rfl
  have m3 := fcell w #[.slice ga nG gc, .slice da nD dc, .slice pa nP pc, .int .i64 mn] 26 3 _ rfl
  have hG20 : nG ≤ 20 := by have := hfew.g; omega
  have hP6 : nP ≤ 6 := by have := hfew.p; omega
  by_cases c1 : (nD : Int) = nG
  case neg =>
    have e1 : ((nD : Int) == nG) = false := by simpa using c1
    have HNO : Hid (¬MdlV m) := Lib.hid (fun q => c1 (by rw [hnD, hnG, q.1]))
    clear hm hfew hdm hnG hnD hnP hmn c1
    go_enter Try.func15, Try.ntmps15
    go_wp2_with fail
    go_ret
    exact ⟨⟨_, rfl, iff_of_false Bool.false_ne_true (fun q => HNO.out q)⟩, F0.out⟩
  have e1' : ((nD : Int) == nG) = true := by simpa using c1
  have hDG : m.da.length = m.gl.length := by omega
  by_cases c3 : 1 ≤ (nP : Int) ∧ (nP : Int) ≤ 200
  case neg =>
    have KW := Lib.hid (fun W => within_eq nP 1 200 false (iff_of_false Bool.false_ne_true c3) W)
    have HNO : Hid (¬MdlV m) := Lib.hid (fun q => c3 (by have := q.2.1; omega))
    clear hm hfew hdm hnG hnD hnP hmn c1 c3 hDG
    go_enter Try.func15, Try.ntmps15
    go_wp2_with (go_at_call 22; (with_reducible refine (KW.out _).mono ?_); rintro e w2 ⟨rfl, rfl⟩)
    go_ret
    exact ⟨⟨_, rfl, iff_of_false Bool.false_ne_true (fun q => HNO.out q)⟩, F0.out⟩
  have KW := Lib.hid (fun W => within_eq nP 1 200 true (iff_of_true rfl c3) W)
  by_cases c4 : 0 ≤ mn ∧ mn < (nP : Int)
  case neg =>
    have KI := Lib.hid (fun W => index_eq mn nP false (iff_of_false Bool.false_ne_true c4) W)
    have HNO : Hid (¬MdlV m) := Lib.hid (fun q => c4 (by have := q.2.2.1; rw [hmn, hnP]; exact this))
    clear hm hfew hdm hnG hnD hnP hmn c1 c3 c4 hDG
    go_enter Try.func15, Try.ntmps15
    go_wp2_with (first | (go_at_call 22; (with_reducible refine (KW.out _).mono ?_); rintro e w2 ⟨rfl, rfl⟩) | (go_at_call 23; (with_reducible refine (KI.out _).mono ?_); rintro e w2 ⟨rfl, rfl⟩))
    go_ret
    exact ⟨⟨_, rfl, iff_of_false Bool.false_ne_true (fun q => HNO.out q)⟩, F0.out⟩
  have KI := Lib.hid (fun W => index_eq mn nP true (iff_of_true rfl c4) W)
  obtain ⟨k, rfl⟩ := Int.eq_ofNat_of_zero_le c4.1
  have hk : k < nP := by omega
  obtain ⟨g, o, rfl, _, q1, q2, _⟩ := hm.p k (by omega)
  have hpk : m.pr.getD k prc0 = m.pr.getD m.mn.toNat prc0 := by rw [← hmn, Int.toNat_natCast]
  rw [hpk] at q1 q2
  have a1 := F0.out.cell q1 id
  have a2 := F0.out.cell q2 id
  have HS := Lib.hid (fun (q : MdlV m) => And.intro q.2.2.2.1 q.2.2.2.2.1)
  obtain ⟨pp, hpp⟩ : ∃ x, (m.pr.getD m.mn.toNat prc0).pa = x := ⟨_, rfl⟩
  obtain ⟨vv, hvv⟩ : ∃ x, (m.pr.getD m.mn.toNat prc0).vd = x := ⟨_, rfl⟩
  rw [hpp] at a2
  rw [hvv] at a1
  have HPV := Lib.hid (And.intro hpp hvv)
  clear q1 q2 hpk hpp hvv
  by_cases c5 : pp = 0
  case neg =>
    have e5 : (pp == 0) = false := by simpa using c5
    have HNO : Hid (¬MdlV m) := Lib.hid (fun q => c5 (by rw [← HPV.out.1]; exact (HS.out q).1))
    clear hm hfew hdm hnG hnD hnP hmn c1 c3 c4 hDG c5
    go_enter Try.func15, Try.ntmps15
    go_wp2_with (first | (go_at_call 22; (with_reducible refine (KW.out _).mono ?_); rintro e w2 ⟨rfl, rfl⟩) | (go_at_call 23; (with_reducible refine (KI.out _).mono ?_); rintro e w2 ⟨rfl, rfl⟩))
    go_ret
    exact ⟨⟨_, rfl, iff_of_false Bool.false_ne_true (fun q => HNO.out q)⟩, F0.out⟩
  subst c5
  cases vv
  case true =>
    have HNO : Hid (¬MdlV m) := Lib.hid (fun q => by have z := (HS.out q).2; rw [HPV.out.2] at z; exact Bool.false_ne_true z.symm)
    clear hm hfew hdm hnG hnD hnP hmn c1 c3 c4 hDG
    go_enter Try.func15, Try.ntmps15
    go_wp2_with (first | (go_at_call 22; (with_reducible refine (KW.out _).mono ?_); rintro e w2 ⟨rfl, rfl⟩) | (go_at_call 23; (with_reducible refine (KI.out _).mono ?_); rintro e w2 ⟨rfl, rfl⟩))
    go_ret
    exact ⟨⟨_, rfl, iff_of_false Bool.false_ne_true (fun q => HNO.out q)⟩, F0.out⟩
  have KS : Hid (Calls Try.prog 24 #[.slice ga nG gc] (w.alloc (.cells #[.slice ga nG gc, .slice da nD dc, .slice (some ⟨g, o, none⟩) nP pc, .int .i64 (k : Int)] 26)) fun e w' => IsR (SltsP m.gl) e ∧ Fr (fun _ => False) (w.alloc (.cells #[.slice ga nG gc, .slice da nD dc, .slice (some ⟨g, o, none⟩) nP pc, .int .i64 (k : Int)] 26)) w') := Lib.hid (by rw [hnG]; exact slts_fit m.gl ga gc (by omega) _ (hm.g.fr (by simpa only [hnG] using F0.out)))
  have KD : Hid (∀ W, Fr (fun _ => False) w W → Calls Try.prog 25 #[.agg #[.slice ga nG gc, .slice da nD dc, .slice (some ⟨g, o, none⟩) nP pc, .int .i64 (k : Int)]] W fun e w' => IsR (DatP m) e ∧ Fr (fun _ => False) W w') := Lib.hid (fun W h => by rw [hnG, hnD, hnP, hmn]; exact dat_fit m ga da _ gc dc pc hDG (by have := hfew.d; omega) hdm W (hm.fr h))
  have HQ : Hid (MdlV m ↔ SltsP m.gl ∧ DatP m) := Lib.hid ⟨fun q => ⟨q.2.2.2.2.2.1, q.2.2.2.2.2.2⟩, fun q => ⟨hDG, by omega, by rw [← hmn, ← hnP]; exact c4, HPV.out.1, HPV.out.2, q.1, q.2⟩⟩
  clear hm hfew hdm hnG hnD hnP hmn c1 c3 c4 hDG
  go_enter Try.func15, Try.ntmps15
  go_wp2_with (first | (go_at_call 22; (with_reducible refine (KW.out _).mono ?_); rintro e w2 ⟨rfl, rfl⟩) | (go_at_call 23; (with_reducible refine (KI.out _).mono ?_); rintro e w2 ⟨rfl, rfl⟩) | (go_at_call 24; (with_reducible refine KS.out.mono ?_); rintro e w3 ⟨⟨tt, rfl, ht⟩, hf⟩; have HT := Lib.hid ht; have HF := Lib.hid (F0.out.trans hf); have e0 := hf.cell m0 id; have e1 := hf.cell m1 id; have e2 := hf.cell m2 id; have e3 := hf.cell m3 id; clear ht hf; cases tt))
  · go_ret
    exact ⟨⟨_, rfl, iff_of_false Bool.false_ne_true (fun q => Bool.false_ne_true (HT.out.2 (HQ.out.1 q).1))⟩, HF.out⟩
  · go_wp2_with (go_at_call 25; (with_reducible refine (KD.out _ HF.out).mono ?_); rintro e w4 ⟨⟨tt, rfl, ht⟩, hf⟩; have HT2 := Lib.hid ht; have HG := Lib.hid (HF.out.trans hf); clear ht hf)
    go_ret
    exact ⟨⟨_, rfl, HT2.out.trans ⟨fun q => HQ.out.2 ⟨HT.out.1 trivial, q⟩, fun q => (HQ.out.1 q).2⟩⟩, HG.out⟩
def MdlF (m : Mdl) : Prop := MdlV m ∧ ∀ k, k < m.pr.length → PrcF m (m.pr.getD k prc0)
open Classical in
noncomputable def checkI (m : Mdl) : Int := if MdlF m then 0 else 3
theorem checkI_ok {m : Mdl} (h : MdlF m) : checkI m = 0 := by unfold checkI; rw [if_pos h]
theorem checkI_bad {m : Mdl} (h : ¬MdlF m) : checkI m = 3 := by unfold checkI; rw [if_neg h]
set_option maxRecDepth 100000 in
set_option maxHeartbeats 8000000 in
theorem check_any (ga da pa : Option Addr) (nG nD nP gc dc pc : Nat) (mn : Int) (m : Mdl) (hnG : nG = m.gl.length) (hnD : nD = m.da.length) (hnP : nP = m.pr.length) (hmn : mn = m.mn) (hfew : m.few) (hwd : m.wide) (hdm : ∀ y ∈ m.da, y ≤ maxLen) (w : World) (hm : MdlAt w ga da pa m) : Calls Try.prog 10 #[.agg #[.slice ga nG gc, .slice da nD dc, .slice pa nP pc, .int .i64 mn]] w fun e w' => e = .returned (.int .i64 (checkI m)) ∧ Fr (fun _ => False) w w' := by
  have F0 : Hid (Fr (fun _ => False) w (w.alloc (.cells #[.slice ga nG gc, .slice da nD dc, .slice pa nP pc, .int .i64 mn] 26))) := Lib.hid (fr_al (Fr.refl _ _) _)
  have RM : Hid (Rqw (w.alloc (.cells #[.slice ga nG gc, .slice da nD dc, .slice pa nP pc, .int .i64 mn] 26)) w.heap.size #[.slice ga nG gc, .slice da nD dc, .slice pa nP pc, .int .i64 mn]) := Lib.hid (fun j y h => fcell w _ _ j y h)
  have KO := Lib.hid (fun W (h : Fr (fun _ => False) w W) => mout_any ga da pa nG nD nP gc dc pc mn m hnG hnD hnP hmn hfew hdm W (hm.fr h))
  have KP := Lib.hid (fun n W (h : Fr (fun _ => False) w W) => proc_any ga da pa nG nD nP gc dc pc mn n m hnG hnP hfew hwd W (hm.p.fr h))
  have HNP := Lib.hid hnP
  have hP6 : nP ≤ 6 := by have := hfew.p; omega
  clear hm hnG hnD hnP hmn hfew hwd hdm
  go_enter Try.func10, Try.ntmps10
  go_wp2_with (go_at_call 15; (with_reducible refine (KO.out _ F0.out).mono ?_); rintro e w1 ⟨⟨tt, rfl, ht⟩, hf⟩; have HT := Lib.hid ht; have HF := Lib.hid (F0.out.trans hf); have RM1 := Lib.hid (RM.out.fr hf); have d2 := hf.cell (RM.out 2 _ rfl) id; clear ht hf; cases tt)
  · go_ret
    exact ⟨by rw [checkI_bad (fun q => Bool.false_ne_true (HT.out.2 q.1))]; rfl, HF.out⟩
  · go_wp2
    generalize w.heap.size = mb at *
    go_loopw [11] (fun q wr => ∃ k : Nat, q = .int .i64 k ∧ k ≤ nP ∧ Hid (Fr (fun _ => False) w1 wr) ∧ Hid (∀ j, j < k → PrcF m (m.pr.getD j prc0))) (fun q _ => nP - (intOf q).toNat)
    case atStart => exact ⟨0, rfl, Nat.zero_le _, Lib.hid (Fr.refl _ _), Lib.hid (fun j hj => absurd hj (by omega))⟩
    case round =>
      obtain ⟨k, rfl, hk, HW, HK⟩ := hrel
      have HWW := Lib.hid (HF.out.trans HW.out)
      by_cases hlt : k < nP
      · have hkl : k < m.pr.length := by rw [← HNP.out]; exact hlt
        have RMk := RM1.out.fr HW.out
        have v0 : wr.cell? ⟨mb, 0, none⟩ = some (.slice ga nG gc) := RMk 0 _ rfl
        have v1 : wr.cell? ⟨mb, 1, none⟩ = some (.slice da nD dc) := RMk 1 _ rfl
        have v2 : wr.cell? ⟨mb, 2, none⟩ = some (.slice pa nP pc) := RMk 2 _ rfl
        have v3 : wr.cell? ⟨mb, 3, none⟩ = some (.int .i64 mn) := RMk 3 _ rfl
        clear RMk
        by_cases e : PrcF m (m.pr.getD k prc0)
        · have KPk := Lib.hid (fun W (h : Fr (fun _ => False) w W) => (KP.out (k : Int) W h).mono (fun e' w' q => (⟨by rw [q.1, procI_ok hkl e], q.2⟩ : e' = .returned (.int .i64 0) ∧ Fr (fun _ => False) W w')))
          have HK2 : Hid (∀ j, j < k + 1 → PrcF m (m.pr.getD j prc0)) := Lib.hid (fun j hj => by
            by_cases hjk : j < k
            · exact HK.out j hjk
            · obtain rfl : j = k := by omega
              exact e)
          clear e hkl
          go_wp2_with (go_at_call 16; (with_reducible refine (KPk.out _ HWW.out).mono ?_); rintro e w2 ⟨rfl, hf⟩; have HF2 := Lib.hid (HW.out.trans hf); clear hf)
          go_roundw
          case rel => exact ⟨k + 1, by go_num, by omega, HF2, HK2⟩
          case measure => simp [intOf]; omega
        · have KPk := Lib.hid (fun W (h : Fr (fun _ => False) w W) => (KP.out (k : Int) W h).mono (fun e' w' q => (⟨by rw [q.1, procI_bad hkl e], q.2⟩ : e' = .returned (.int .i64 3) ∧ Fr (fun _ => False) W w')))
          have HE := Lib.hid (fun (q : MdlF m) => e (q.2 k hkl))
          clear e hkl
          go_wp2_with (go_at_call 16; (with_reducible refine (KPk.out _ HWW.out).mono ?_); rintro e w2 ⟨rfl, hf⟩; have HF2 := Lib.hid (HWW.out.trans hf); clear hf)
          go_ret
          exact ⟨by rw [checkI_bad HE.out]; rfl, HF2.out⟩
      · obtain rfl : k = nP := by omega
        go_wp2
        go_ret
        exact ⟨by rw [checkI_ok ⟨HT.out.1 trivial, by rw [← HNP.out]; exact HK.out⟩]; rfl, HWW.out⟩
end Go.Proofs.Ythdkmjbeemfbbaa
