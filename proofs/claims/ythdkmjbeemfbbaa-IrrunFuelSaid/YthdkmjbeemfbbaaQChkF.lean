/-
  Modules (layer 13): whether instructions and blocks are right, any.
-/
import Derived.Test.YthdkmjbeemfbbaaQChkD
import Derived.Test.YthdkmjbeemfbbaaQChkI1
import Derived.Test.YthdkmjbeemfbbaaQChkI2
import Derived.Test.YthdkmjbeemfbbaaQChkI3
import Derived.Test.YthdkmjbeemfbbaaQChkI4
import Derived.Test.YthdkmjbeemfbbaaQChkI5
import Derived.Test.YthdkmjbeemfbbaaQChkI6
import Derived.Test.YthdkmjbeemfbbaaQChkI7
import Derived.Test.YthdkmjbeemfbbaaQChkI8
import Derived.Test.YthdkmjbeemfbbaaQChkI9t
import Derived.Test.YthdkmjbeemfbbaaQChkI9f
import Derived.Test.YthdkmjbeemfbbaaQChkI10
import Derived.Test.YthdkmjbeemfbbaaQChkI11
import Derived.Test.YthdkmjbeemfbbaaQChkI12
namespace Go.Proofs.Ythdkmjbeemfbbaa
open Go.RowKit
set_option linter.unusedVariables false
set_option linter.unusedSimpArgs false
def InsV (m : Mdl) (R : Int) (nO nG nP : Nat) (i : Inn) : Prop := InsP R nO nG nP (calP m i) (calV m i) i
theorem insP_no (R : Int) (nO nG nP : Nat) (cp : Int) (cv : Bool) (i : Inn) (h : i.x0 < 1 ∨ 12 < i.x0) : ¬InsP R nO nG nP cp cv i := fun q => by
  have := q.1; have := q.2.1; omega
set_option maxRecDepth 100000 in
set_option maxHeartbeats 4000000 in
theorem insop_no (ga pa oa ab : Option Addr) (nG nP nO nB gc pc oc bc : Nat) (vd0 mn nm pr : Value) (vd : Bool) (R : Int) (m : Mdl) (x0 x1 x2 x3 x4 x5 x6 x7 u : Int) (aa : Option Addr) (na ac : Nat) (args : List Int) (lg : Bool) (h : x0 < 1 ∨ 12 < x0) (w : World) : Calls Try.prog 46 #[.agg #[.slice ga nG gc, vd0, .slice pa nP pc, mn, nm, .bool vd, pr, .int .i64 R, .slice oa nO oc, .slice ab nB bc], .agg #[.int .i64 x0, .int .i64 x1, .int .i64 x2, .int .i64 x3, .int .i64 x4, .int .i64 x5, .int .i64 x6, .int .i64 x7, .int .u32 u, .slice aa na ac, .bool lg]] w fun e w' => IsR (InsV m R nO nG nP ⟨x0, x1, x2, x3, x4, x5, x6, x7, u, args, lg⟩) e ∧ Fr (fun _ => False) w w' := by
  have HNO := Lib.hid (insP_no R nO nG nP (calP m ⟨x0, x1, x2, x3, x4, x5, x6, x7, u, args, lg⟩) (calV m ⟨x0, x1, x2, x3, x4, x5, x6, x7, u, args, lg⟩) ⟨x0, x1, x2, x3, x4, x5, x6, x7, u, args, lg⟩ h)
  have KF := Lib.hid (fun W => fo_no x0 h W)
  clear h
  have HB := Lib.hid (view_boxes w #[.slice ga nG gc, vd0, .slice pa nP pc, mn, nm, .bool vd, pr, .int .i64 R, .slice oa nO oc, .slice ab nB bc] #[.int .i64 x0, .int .i64 x1, .int .i64 x2, .int .i64 x3, .int .i64 x4, .int .i64 x5, .int .i64 x6, .int .i64 x7, .int .u32 u, .slice aa na ac, .bool lg] #[.bool false, .bool false, .bool false, .bool false, .bool false, .bool false, .bool false, .bool false, .bool false, .bool false, .bool false])
  have hfi0 := fld0
  go_enter Try.func46, Try.ntmps46
  go_wp2_with (go_at_call 60; (with_reducible refine (KF.out _).mono ?_); rintro e w2 ⟨rfl, hf⟩; have HF := Lib.hid hf; clear hf)
  obtain ⟨bv, bi, bf, fw⟩ := HB.out _ HF.out
  have HV := Lib.hid fw
  clear fw HB HF
  generalize w2.alloc (.cells #[.bool false, .bool false, .bool false, .bool false, .bool false, .bool false, .bool false, .bool false, .bool false, .bool false, .bool false] 102) = V at *
  generalize w2.heap.size = fb at *
  generalize w.heap.size = vb at *
  have f0 : V.cell? ⟨fb, 0, none⟩ = some (.bool false) := bf 0 _ rfl
  refine wp_region_class (fun W => Fr (fun _ => False) V W) (by kernel_rfl) (by kernel_rfl) ((Fr.refl _ _).drewN 1) ?_
  repeat (first
    | go_big_quiet_skip
    | (go_big_quiet_want; go_big_quiet_op; first
      | go_big_quiet_on
      | (apply Exists.intro; refine ⟨fun W hW => ?_, ?_⟩; (first
        | with_reducible rfl
        | (simp only [Result.andThen, hW.cell f0 id]; first | exact ⟨rfl, rfl⟩ | exact ⟨trivial, rfl⟩)); go_big_quiet_on)))
  refine wpQuiet_nil ?_
  intro w6 hf6
  have HF6 := Lib.hid hf6
  clear hf6
  go_wp2_with fail
  go_ret
  exact ⟨⟨_, rfl, iff_of_false Bool.false_ne_true HNO.out⟩, HV.out.trans HF6.out⟩
/-- What is called, in memory. -/
theorem cal_at {w : World} {pa : Option Addr} {m : Mdl} {i : Inn} (hp : PrcL w pa m.pr) (h : 0 ≤ i.x5 ∧ i.x5 < (m.pr.length : Int)) : ∃ g o k, i.x5 = ((k : Nat) : Int) ∧ k < m.pr.length ∧ pa = some ⟨g, o, none⟩ ∧ w.cell? ⟨g, o + k * 6 + 1, none⟩ = some (.bool (calV m i)) ∧ w.cell? ⟨g, o + k * 6 + 2, none⟩ = some (.int .i64 (calP m i)) := by
  obtain ⟨g, o, e, c0, c1, c2, _⟩ := hp i.x5.toNat (by omega)
  exact ⟨g, o, i.x5.toNat, by omega, by omega, e, c1, c2⟩
theorem vins_any (ga pa oa ab : Option Addr) (nG nP nO nB gc pc oc bc : Nat) (vd0 mn nm pr : Value) (vd : Bool) (R : Int) (m : Mdl) (hnP : nP = m.pr.length) (x0 x1 x2 x3 x4 x5 x6 x7 u : Int) (aa : Option Addr) (na ac : Nat) (args : List Int) (lg : Bool) (hna : na = args.length) (hnb : na ≤ 9223372036854775807) (w : World) (hp : PrcL w pa m.pr) (hat : IntsAt w aa args) : Calls Try.prog 46 #[.agg #[.slice ga nG gc, vd0, .slice pa nP pc, mn, nm, .bool vd, pr, .int .i64 R, .slice oa nO oc, .slice ab nB bc], .agg #[.int .i64 x0, .int .i64 x1, .int .i64 x2, .int .i64 x3, .int .i64 x4, .int .i64 x5, .int .i64 x6, .int .i64 x7, .int .u32 u, .slice aa na ac, .bool lg]] w fun e w' => IsR (InsV m R nO nG nP ⟨x0, x1, x2, x3, x4, x5, x6, x7, u, args, lg⟩) e ∧ Fr (fun _ => False) w w' := by
  rcases op_cases x0 with rfl | rfl | rfl | rfl | rfl | rfl | rfl | rfl | rfl | rfl | rfl | rfl | h
  · exact insop_1 ga pa oa nG nP nO gc pc oc vd0 mn nm (.bool vd) pr (.slice ab nB bc) R _ _ x1 x2 x3 x4 x5 x6 x7 u aa na ac args hna lg w
  · exact insop_2 ga pa oa nG nP nO gc pc oc vd0 mn nm (.bool vd) pr (.slice ab nB bc) R _ _ x1 x2 x3 x4 x5 x6 x7 u aa na ac args hna lg w
  · exact insop_3 ga pa oa nG nP nO gc pc oc vd0 mn nm (.bool vd) pr (.slice ab nB bc) R _ _ x1 x2 x3 x4 x5 x6 x7 u aa na ac args hna lg w
  · exact insop_4 ga pa oa nG nP nO gc pc oc vd0 mn nm (.bool vd) pr (.slice ab nB bc) R _ _ x1 x2 x3 x4 x5 x6 x7 u aa na ac args hna lg w
  · exact insop_5 ga pa oa nG nP nO gc pc oc vd0 mn nm (.bool vd) pr (.slice ab nB bc) R _ _ x1 x2 x3 x4 x5 x6 x7 u aa na ac args hna lg w
  · exact insop_6 ga pa oa nG nP nO gc pc oc vd0 mn nm (.bool vd) pr (.slice ab nB bc) R _ _ x1 x2 x3 x4 x5 x6 x7 u aa na ac args hna lg w
  · exact insop_7 ga pa oa nG nP nO gc pc oc vd0 mn nm (.bool vd) pr (.slice ab nB bc) R _ _ x1 x2 x3 x4 x5 x6 x7 u aa na ac args hna lg w
  · exact insop_8 ga pa oa nG nP nO gc pc oc vd0 mn nm (.bool vd) pr (.slice ab nB bc) R _ _ x1 x2 x3 x4 x5 x6 x7 u aa na ac args hna lg w
  · have hc := fun (h : 0 ≤ x5 ∧ x5 < (nP : Int)) => cal_at (i := ⟨9, x1, x2, x3, x4, x5, x6, x7, u, args, lg⟩) hp (by rw [← hnP]; exact h)
    rw [← hnP] at hc
    unfold InsV
    cases hcv : calV m ⟨9, x1, x2, x3, x4, x5, x6, x7, u, args, lg⟩
    · rw [hcv] at hc
      exact insop_9f ga pa oa nG nP nO gc pc oc vd0 mn nm (.bool vd) pr (.slice ab nB bc) R _ x1 x2 x3 x4 x5 x6 x7 u aa na ac args hna hnb lg w hc hat
    · rw [hcv] at hc
      exact insop_9t ga pa oa nG nP nO gc pc oc vd0 mn nm (.bool vd) pr (.slice ab nB bc) R _ x1 x2 x3 x4 x5 x6 x7 u aa na ac args hna hnb lg w hc hat
  · exact insop_10 ga pa oa nG nP nO gc pc oc vd0 mn nm (.bool vd) pr (.slice ab nB bc) R _ _ x1 x2 x3 x4 x5 x6 x7 u aa na ac args hna lg w
  · exact insop_11 ga pa oa nG nP nO gc pc oc vd0 mn nm (.bool vd) pr (.slice ab nB bc) R _ _ x1 x2 x3 x4 x5 x6 x7 u aa na ac args hna lg w
  · exact insop_12 ga pa oa nG nP nO gc pc oc vd0 mn nm (.bool vd) pr (.slice ab nB bc) R _ _ x1 x2 x3 x4 x5 x6 x7 u aa na ac args hna lg w
  · exact insop_no ga pa oa ab nG nP nO nB gc pc oc bc vd0 mn nm pr vd R m x0 x1 x2 x3 x4 x5 x6 x7 u aa na ac args lg h w
set_option maxRecDepth 100000 in
set_option maxHeartbeats 4000000 in
theorem ask_ins (ga pa oa ab : Option Addr) (nG nP nO nB gc pc oc bc : Nat) (vd0 mn nm pr : Value) (vd : Bool) (R : Int) (m : Mdl) (hnP : nP = m.pr.length) (x0 x1 x2 x3 x4 x5 x6 x7 u : Int) (aa : Option Addr) (na ac : Nat) (args : List Int) (lg : Bool) (hna : na = args.length) (hnb : na ≤ 9223372036854775807) (vb : Nat) (w : World) (hp : PrcL w pa m.pr) (hat : IntsAt w aa args) (hv : Rqw w vb #[.slice ga nG gc, vd0, .slice pa nP pc, mn, nm, .bool vd, pr, .int .i64 R, .slice oa nO oc, .slice ab nB bc]) : Calls Try.prog 45 #[.agg #[.int .i64 x0, .int .i64 x1, .int .i64 x2, .int .i64 x3, .int .i64 x4, .int .i64 x5, .int .i64 x6, .int .i64 x7, .int .u32 u, .slice aa na ac, .bool lg], .pointer (some ⟨vb, 0, none⟩)] w fun e w' => IsR (¬InsV m R nO nG nP ⟨x0, x1, x2, x3, x4, x5, x6, x7, u, args, lg⟩) e ∧ Fr (fun _ => False) w w' := by
  have HF0 : Hid (Fr (fun _ => False) w (w.alloc (.cells #[.int .i64 x0, .int .i64 x1, .int .i64 x2, .int .i64 x3, .int .i64 x4, .int .i64 x5, .int .i64 x6, .int .i64 x7, .int .u32 u, .slice aa na ac, .bool lg] 48))) := Lib.hid (fr_al (Fr.refl _ _) _)
  have KI := Lib.hid (vins_any ga pa oa ab nG nP nO nB gc pc oc bc vd0 mn nm pr vd R m hnP x0 x1 x2 x3 x4 x5 x6 x7 u aa na ac args lg hna hnb (w.alloc (.cells #[.int .i64 x0, .int .i64 x1, .int .i64 x2, .int .i64 x3, .int .i64 x4, .int .i64 x5, .int .i64 x6, .int .i64 x7, .int .u32 u, .slice aa na ac, .bool lg] 48)) (hp.fr HF0.out) (hat.fr HF0.out))
  replace hv := hv.fr HF0.out
  have v0 : (w.alloc (.cells #[.int .i64 x0, .int .i64 x1, .int .i64 x2, .int .i64 x3, .int .i64 x4, .int .i64 x5, .int .i64 x6, .int .i64 x7, .int .u32 u, .slice aa na ac, .bool lg] 48)).cell? ⟨vb, 0, none⟩ = some (.slice ga nG gc) := hv 0 _ rfl
  have v1 : (w.alloc (.cells #[.int .i64 x0, .int .i64 x1, .int .i64 x2, .int .i64 x3, .int .i64 x4, .int .i64 x5, .int .i64 x6, .int .i64 x7, .int .u32 u, .slice aa na ac, .bool lg] 48)).cell? ⟨vb, 1, none⟩ = some (vd0) := hv 1 _ rfl
  have v2 : (w.alloc (.cells #[.int .i64 x0, .int .i64 x1, .int .i64 x2, .int .i64 x3, .int .i64 x4, .int .i64 x5, .int .i64 x6, .int .i64 x7, .int .u32 u, .slice aa na ac, .bool lg] 48)).cell? ⟨vb, 2, none⟩ = some (.slice pa nP pc) := hv 2 _ rfl
  have v3 : (w.alloc (.cells #[.int .i64 x0, .int .i64 x1, .int .i64 x2, .int .i64 x3, .int .i64 x4, .int .i64 x5, .int .i64 x6, .int .i64 x7, .int .u32 u, .slice aa na ac, .bool lg] 48)).cell? ⟨vb, 3, none⟩ = some (mn) := hv 3 _ rfl
  have v4 : (w.alloc (.cells #[.int .i64 x0, .int .i64 x1, .int .i64 x2, .int .i64 x3, .int .i64 x4, .int .i64 x5, .int .i64 x6, .int .i64 x7, .int .u32 u, .slice aa na ac, .bool lg] 48)).cell? ⟨vb, 4, none⟩ = some (nm) := hv 4 _ rfl
  have v5 : (w.alloc (.cells #[.int .i64 x0, .int .i64 x1, .int .i64 x2, .int .i64 x3, .int .i64 x4, .int .i64 x5, .int .i64 x6, .int .i64 x7, .int .u32 u, .slice aa na ac, .bool lg] 48)).cell? ⟨vb, 5, none⟩ = some (.bool vd) := hv 5 _ rfl
  have v6 : (w.alloc (.cells #[.int .i64 x0, .int .i64 x1, .int .i64 x2, .int .i64 x3, .int .i64 x4, .int .i64 x5, .int .i64 x6, .int .i64 x7, .int .u32 u, .slice aa na ac, .bool lg] 48)).cell? ⟨vb, 6, none⟩ = some (pr) := hv 6 _ rfl
  have v7 : (w.alloc (.cells #[.int .i64 x0, .int .i64 x1, .int .i64 x2, .int .i64 x3, .int .i64 x4, .int .i64 x5, .int .i64 x6, .int .i64 x7, .int .u32 u, .slice aa na ac, .bool lg] 48)).cell? ⟨vb, 7, none⟩ = some (.int .i64 R) := hv 7 _ rfl
  have v8 : (w.alloc (.cells #[.int .i64 x0, .int .i64 x1, .int .i64 x2, .int .i64 x3, .int .i64 x4, .int .i64 x5, .int .i64 x6, .int .i64 x7, .int .u32 u, .slice aa na ac, .bool lg] 48)).cell? ⟨vb, 8, none⟩ = some (.slice oa nO oc) := hv 8 _ rfl
  have v9 : (w.alloc (.cells #[.int .i64 x0, .int .i64 x1, .int .i64 x2, .int .i64 x3, .int .i64 x4, .int .i64 x5, .int .i64 x6, .int .i64 x7, .int .u32 u, .slice aa na ac, .bool lg] 48)).cell? ⟨vb, 9, none⟩ = some (.slice ab nB bc) := hv 9 _ rfl
  clear hv hp hat hna hnP
  go_enter Try.func45, Try.ntmps45
  go_wp2_with (go_at_call 46; (with_reducible refine KI.out.mono ?_); rintro e w2 ⟨⟨t, rfl, ht⟩, hf⟩; have HT := Lib.hid ht; have HF := Lib.hid hf; clear ht hf)
  go_ret
  exact ⟨⟨_, rfl, by have z := HT.out; rw [← z]; cases t <;> simp⟩, HF0.out.trans HF.out⟩
def InssP (m : Mdl) (R : Int) (nO nG nP : Nat) (l : List Inn) : Prop := ∀ k, k < l.length → InsV m R nO nG nP (l.getD k inn0)
set_option maxRecDepth 100000 in
set_option maxHeartbeats 4000000 in
theorem idx_ins (ga pa oa ab : Option Addr) (nG nP nO nB gc pc oc bc : Nat) (vd0 mn nm pr : Value) (vd : Bool) (R : Int) (m : Mdl) (hnP : nP = m.pr.length) (l : List Inn) (a : Option Addr) (n c : Nat) (hn : n = l.length) (hb : n ≤ 9223372036854775807) (hw : ∀ x ∈ l, x.wide) (vb : Nat) (w : World) (hp : PrcL w pa m.pr) (h : InsL w a l) (hv : Rqw w vb #[.slice ga nG gc, vd0, .slice pa nP pc, mn, nm, .bool vd, pr, .int .i64 R, .slice oa nO oc, .slice ab nB bc]) : Calls Try.prog 59 #[.slice a n c, .func (.func 45) #[] #[.pointer (some ⟨vb, 0, none⟩)]] w fun e w' => AskR (¬InssP m R nO nG nP l) e ∧ Fr (fun _ => False) w w' := by
  have HN := Lib.hid hn
  have HI := Lib.hid h
  have HV := Lib.hid hv
  have HP := Lib.hid hp
  have HNP := Lib.hid hnP
  have HWD := Lib.hid hw
  clear hn h hv hp hnP hw
  go_enter Try.func59, Try.ntmps59
  go_wp2
  go_loopw [8] (fun q wr => ∃ k : Nat, q = .int .i64 k ∧ k ≤ n ∧ Hid (Fr (fun _ => False) w wr) ∧ Hid (∀ j, j < k → InsV m R nO nG nP (l.getD j inn0))) (fun q _ => n - (intOf q).toNat)
  case atStart => exact ⟨0, rfl, Nat.zero_le _, Lib.hid (Fr.refl _ _), Lib.hid (fun j hj => absurd hj (by omega))⟩
  case round =>
    obtain ⟨k, rfl, hk, HW, HK⟩ := hrel
    by_cases hlt : k < n
    · have hkl : k < l.length := by rw [← HN.out]; exact hlt
      obtain ⟨g, o, rfl, hins⟩ := (HI.out.fr HW.out) k hkl
      have hiw := HWD.out _ (getD_memI hkl)
      obtain ⟨y, hy⟩ : ∃ y, l.getD k inn0 = y := ⟨_, rfl⟩
      rw [hy] at hins hiw
      have HY := Lib.hid hy
      clear hy hkl
      obtain ⟨x0, x1, x2, x3, x4, x5, x6, x7, u, args, lg⟩ := y
      obtain ⟨d0, d1, d2, d3, d4, d5, d6, d7, d8, ⟨aa, ac, d9, da⟩, d10⟩ := hins
      simp only at d0 d1 d2 d3 d4 d5 d6 d7 d8 d9 da d10
      have hnb : args.length ≤ 9223372036854775807 := by have := hiw.n; unfold maxLen at this; simp only at this; omega
      have KA := Lib.hid (ask_ins ga pa oa ab nG nP nO nB gc pc oc bc vd0 mn nm pr vd R m HNP.out x0 x1 x2 x3 x4 x5 x6 x7 u aa args.length ac args lg rfl hnb vb wr (HP.out.fr HW.out) da (HV.out.fr HW.out))
      generalize args.length = na at d9 KA hnb
      clear hiw da
      go_wp2_with (go_at_call 45; (with_reducible refine KA.out.mono ?_); rintro e w2 ⟨⟨tt, rfl, ht⟩, hf⟩; have HT := Lib.hid ht; have HF := Lib.hid (HW.out.trans hf); clear ht hf; cases tt)
      · have HK2 : Hid (∀ j, j < k + 1 → InsV m R nO nG nP (l.getD j inn0)) := Lib.hid (fun j hj => by
          by_cases hjk : j < k
          · exact HK.out j hjk
          · obtain rfl : j = k := by omega
            rw [HY.out]
            have z := HT.out
            exact Classical.byContradiction fun q => Bool.false_ne_true (z.2 q))
        clear HT HY
        go_roundw
        case rel => exact ⟨k + 1, by go_num, by omega, HF, HK2⟩
        case measure => simp [intOf]; omega
      · go_wp2
        go_ret
        exact ⟨⟨_, rfl, iff_of_true (by omega) (fun hh => HT.out.1 trivial (by have := hh k (by rw [← HN.out]; exact hlt); rw [HY.out] at this; exact this))⟩, HF.out⟩
    · obtain rfl : k = n := by omega
      go_wp2
      go_ret
      exact ⟨⟨_, rfl, iff_of_false (by decide) (fun hh => hh (by unfold InssP; rw [← HN.out]; exact HK.out))⟩, HW.out⟩
theorem has_ins (ga pa oa ab : Option Addr) (nG nP nO nB gc pc oc bc : Nat) (vd0 mn nm pr : Value) (vd : Bool) (R : Int) (m : Mdl) (hnP : nP = m.pr.length) (l : List Inn) (a : Option Addr) (n c : Nat) (hn : n = l.length) (hb : n ≤ 9223372036854775807) (hw : ∀ x ∈ l, x.wide) (vb : Nat) (w : World) (hp : PrcL w pa m.pr) (h : InsL w a l) (hv : Rqw w vb #[.slice ga nG gc, vd0, .slice pa nP pc, mn, nm, .bool vd, pr, .int .i64 R, .slice oa nO oc, .slice ab nB bc]) : Calls Try.prog 44 #[.slice a n c, .func (.func 45) #[] #[.pointer (some ⟨vb, 0, none⟩)]] w fun e w' => IsR (¬InssP m R nO nG nP l) e ∧ Fr (fun _ => False) w w' := by
  have HC := Lib.hid (idx_ins ga pa oa ab nG nP nO nB gc pc oc bc vd0 mn nm pr vd R m hnP l a n c hn hb hw vb w hp h hv)
  clear h hv hn hp hnP hw
  go_enter Try.func44, Try.ntmps44
  go_wp2_with (go_at_call 59; (with_reducible refine HC.out.mono ?_); rintro e w2 ⟨⟨x, rfl, hx⟩, hf⟩; have HX := Lib.hid hx; have HF := Lib.hid hf; clear hx hf)
  go_ret
  exact ⟨⟨_, rfl, by rw [decide_eq_true_iff]; exact HX.out⟩, HF.out⟩
def BlkV (m : Mdl) (vd : Bool) (R : Int) (nO nG nP nB : Nat) (b : Bk) : Prop := EndQ vd R nB b.en b.a b.t b.el ∧ InssP m R nO nG nP b.ins
set_option maxRecDepth 100000 in
set_option maxHeartbeats 4000000 in
theorem blk_fit (ga pa oa ab : Option Addr) (nG nP nO nB gc pc oc bc : Nat) (vd0 mn nm pr : Value) (vd : Bool) (R : Int) (m : Mdl) (hnP : nP = m.pr.length) (l : List Inn) (ai : Option Addr) (ni ci : Nat) (en a t el : Int) (hn : ni = l.length) (hb : ni ≤ 9223372036854775807) (hw : ∀ x ∈ l, x.wide) (w : World) (hp : PrcL w pa m.pr) (h : InsL w ai l) : Calls Try.prog 29 #[.agg #[.slice ga nG gc, vd0, .slice pa nP pc, mn, nm, .bool vd, pr, .int .i64 R, .slice oa nO oc, .slice ab nB bc], .agg #[.slice ai ni ci, .int .i64 en, .int .i64 a, .int .i64 t, .int .i64 el]] w fun e w' => IsR (BlkV m vd R nO nG nP nB ⟨l, en, a, t, el⟩) e ∧ Fr (fun _ => False) w w' := by
  have hmf : ∀ (fn : Fn) (first cap : Array Value) (w : World), (Instr.makeFunc fn first cap).run Try.prog w = .ok (.func fn first cap) w := fun _ _ _ _ => rfl
  have F0 : Hid (Fr (fun _ => False) w ((w.alloc (.cells #[.slice ga nG gc, vd0, .slice pa nP pc, mn, nm, .bool vd, pr, .int .i64 R, .slice oa nO oc, .slice ab nB bc] 79)).alloc (.cells #[.slice ai ni ci, .int .i64 en, .int .i64 a, .int .i64 t, .int .i64 el] 44))) := Lib.hid (fr_al (fr_al (Fr.refl _ _) _) _)
  have KE := Lib.hid (fun W => end_any (.slice ga nG gc) vd0 (.slice pa nP pc) mn nm pr (.slice oa nO oc) (.slice ai ni ci) vd R ab nB bc en a t el W)
  have HP := Lib.hid hp
  have HI := Lib.hid h
  have HN := Lib.hid hn
  have HNP := Lib.hid hnP
  have HWD := Lib.hid hw
  clear h hp hn hnP hw
  go_enter Try.func29, Try.ntmps29
  go_wp2_with (go_at_call 43; (with_reducible refine (KE.out _).mono ?_); rintro e w2 ⟨⟨tt, rfl, ht⟩, hf⟩; have HT := Lib.hid ht; have HF := Lib.hid (F0.out.trans hf); have k0 := hf.cell (two2 w _ _ _ _ 0 _ rfl) id; have HX : Hid (Rqw w2 w.heap.size #[.slice ga nG gc, vd0, .slice pa nP pc, mn, nm, .bool vd, pr, .int .i64 R, .slice oa nO oc, .slice ab nB bc]) := Lib.hid (fun j y h => hf.cell (two1 w _ _ _ _ j y h) id); clear ht hf; cases tt)
  · go_ret
    exact ⟨⟨_, rfl, iff_of_false Bool.false_ne_true (fun q => Bool.false_ne_true (HT.out.2 q.1))⟩, HF.out⟩
  · have KH := Lib.hid (has_ins ga pa oa ab nG nP nO nB gc pc oc bc vd0 mn nm pr vd R m HNP.out l ai ni ci HN.out hb HWD.out w.heap.size w2 (HP.out.fr HF.out) (HI.out.fr HF.out) HX.out)
    go_wp2_with (go_at_call 44; (with_reducible refine KH.out.mono ?_); rintro e w3 ⟨⟨tt, rfl, ht⟩, hf⟩; have HT2 := Lib.hid ht; have HG := Lib.hid (HF.out.trans hf); clear ht hf)
    go_ret
    exact ⟨⟨_, rfl, by
      have z1 := HT.out.1 trivial
      have z2 := HT2.out
      cases tt
      · exact iff_of_true rfl ⟨z1, Classical.byContradiction fun q => Bool.false_ne_true (z2.2 q)⟩
      · exact iff_of_false Bool.false_ne_true (fun q => z2.1 rfl q.2)⟩, HG.out⟩
set_option maxRecDepth 100000 in
set_option maxHeartbeats 4000000 in
theorem ask_blk (ga pa oa ab : Option Addr) (nG nP nO nB gc pc oc bc : Nat) (vd0 mn nm pr : Value) (vd : Bool) (R : Int) (m : Mdl) (hnP : nP = m.pr.length) (l : List Inn) (ai : Option Addr) (ni ci : Nat) (en a t el : Int) (hn : ni = l.length) (hb : ni ≤ 9223372036854775807) (hw : ∀ x ∈ l, x.wide) (vb : Nat) (w : World) (hp : PrcL w pa m.pr) (h : InsL w ai l) (hv : Rqw w vb #[.slice ga nG gc, vd0, .slice pa nP pc, mn, nm, .bool vd, pr, .int .i64 R, .slice oa nO oc, .slice ab nB bc]) : Calls Try.prog 28 #[.agg #[.slice ai ni ci, .int .i64 en, .int .i64 a, .int .i64 t, .int .i64 el], .pointer (some ⟨vb, 0, none⟩)] w fun e w' => IsR (¬BlkV m vd R nO nG nP nB ⟨l, en, a, t, el⟩) e ∧ Fr (fun _ => False) w w' := by
  have HF0 : Hid (Fr (fun _ => False) w (w.alloc (.cells #[.slice ai ni ci, .int .i64 en, .int .i64 a, .int .i64 t, .int .i64 el] 44))) := Lib.hid (fr_al (Fr.refl _ _) _)
  have KI := Lib.hid (blk_fit ga pa oa ab nG nP nO nB gc pc oc bc vd0 mn nm pr vd R m hnP l ai ni ci en a t el hn hb hw (w.alloc (.cells #[.slice ai ni ci, .int .i64 en, .int .i64 a, .int .i64 t, .int .i64 el] 44)) (hp.fr HF0.out) (h.fr HF0.out))
  replace hv := hv.fr HF0.out
  have v0 : (w.alloc (.cells #[.slice ai ni ci, .int .i64 en, .int .i64 a, .int .i64 t, .int .i64 el] 44)).cell? ⟨vb, 0, none⟩ = some (.slice ga nG gc) := hv 0 _ rfl
  have v1 : (w.alloc (.cells #[.slice ai ni ci, .int .i64 en, .int .i64 a, .int .i64 t, .int .i64 el] 44)).cell? ⟨vb, 1, none⟩ = some (vd0) := hv 1 _ rfl
  have v2 : (w.alloc (.cells #[.slice ai ni ci, .int .i64 en, .int .i64 a, .int .i64 t, .int .i64 el] 44)).cell? ⟨vb, 2, none⟩ = some (.slice pa nP pc) := hv 2 _ rfl
  have v3 : (w.alloc (.cells #[.slice ai ni ci, .int .i64 en, .int .i64 a, .int .i64 t, .int .i64 el] 44)).cell? ⟨vb, 3, none⟩ = some (mn) := hv 3 _ rfl
  have v4 : (w.alloc (.cells #[.slice ai ni ci, .int .i64 en, .int .i64 a, .int .i64 t, .int .i64 el] 44)).cell? ⟨vb, 4, none⟩ = some (nm) := hv 4 _ rfl
  have v5 : (w.alloc (.cells #[.slice ai ni ci, .int .i64 en, .int .i64 a, .int .i64 t, .int .i64 el] 44)).cell? ⟨vb, 5, none⟩ = some (.bool vd) := hv 5 _ rfl
  have v6 : (w.alloc (.cells #[.slice ai ni ci, .int .i64 en, .int .i64 a, .int .i64 t, .int .i64 el] 44)).cell? ⟨vb, 6, none⟩ = some (pr) := hv 6 _ rfl
  have v7 : (w.alloc (.cells #[.slice ai ni ci, .int .i64 en, .int .i64 a, .int .i64 t, .int .i64 el] 44)).cell? ⟨vb, 7, none⟩ = some (.int .i64 R) := hv 7 _ rfl
  have v8 : (w.alloc (.cells #[.slice ai ni ci, .int .i64 en, .int .i64 a, .int .i64 t, .int .i64 el] 44)).cell? ⟨vb, 8, none⟩ = some (.slice oa nO oc) := hv 8 _ rfl
  have v9 : (w.alloc (.cells #[.slice ai ni ci, .int .i64 en, .int .i64 a, .int .i64 t, .int .i64 el] 44)).cell? ⟨vb, 9, none⟩ = some (.slice ab nB bc) := hv 9 _ rfl
  clear hv hp h hn hnP hw
  go_enter Try.func28, Try.ntmps28
  go_wp2_with (go_at_call 29; (with_reducible refine KI.out.mono ?_); rintro e w2 ⟨⟨tt, rfl, ht⟩, hf⟩; have HT := Lib.hid ht; have HF := Lib.hid hf; clear ht hf)
  go_ret
  exact ⟨⟨_, rfl, by have z := HT.out; rw [← z]; cases tt <;> simp⟩, HF0.out.trans HF.out⟩
def BlksP (m : Mdl) (vd : Bool) (R : Int) (nO nG nP nB : Nat) (l : List Bk) : Prop := ∀ k, k < l.length → BlkV m vd R nO nG nP nB (l.getD k bk0)
set_option maxRecDepth 100000 in
set_option maxHeartbeats 4000000 in
theorem idx_blk (ga pa oa ab : Option Addr) (nG nP nO nB gc pc oc bc : Nat) (vd0 mn nm pr : Value) (vd : Bool) (R : Int) (m : Mdl) (hnP : nP = m.pr.length) (l : List Bk) (a : Option Addr) (n c : Nat) (hn : n = l.length) (hb : n ≤ 9223372036854775807) (hw : ∀ x ∈ l, x.wide) (vb : Nat) (w : World) (hp : PrcL w pa m.pr) (h : BkL w a l) (hv : Rqw w vb #[.slice ga nG gc, vd0, .slice pa nP pc, mn, nm, .bool vd, pr, .int .i64 R, .slice oa nO oc, .slice ab nB bc]) : Calls Try.prog 42 #[.slice a n c, .func (.func 28) #[] #[.pointer (some ⟨vb, 0, none⟩)]] w fun e w' => AskR (¬BlksP m vd R nO nG nP nB l) e ∧ Fr (fun _ => False) w w' := by
  have HN := Lib.hid hn
  have HI := Lib.hid h
  have HV := Lib.hid hv
  have HP := Lib.hid hp
  have HNP := Lib.hid hnP
  have HWD := Lib.hid hw
  clear hn h hv hp hnP hw
  go_enter Try.func42, Try.ntmps42
  go_wp2
  go_loopw [8] (fun q wr => ∃ k : Nat, q = .int .i64 k ∧ k ≤ n ∧ Hid (Fr (fun _ => False) w wr) ∧ Hid (∀ j, j < k → BlkV m vd R nO nG nP nB (l.getD j bk0))) (fun q _ => n - (intOf q).toNat)
  case atStart => exact ⟨0, rfl, Nat.zero_le _, Lib.hid (Fr.refl _ _), Lib.hid (fun j hj => absurd hj (by omega))⟩
  case round =>
    obtain ⟨k, rfl, hk, HW, HK⟩ := hrel
    by_cases hlt : k < n
    · have hkl : k < l.length := by rw [← HN.out]; exact hlt
      obtain ⟨g, o, rfl, ⟨ai, ci, c0, HIL⟩, c1, c2, c3, c4⟩ := (HI.out.fr HW.out) k hkl
      have hiw := HWD.out _ (getD_mem hkl)
      obtain ⟨y, hy⟩ : ∃ y, l.getD k bk0 = y := ⟨_, rfl⟩
      rw [hy] at c0 c1 c2 c3 c4 HIL hiw
      have HY := Lib.hid hy
      clear hy hkl
      obtain ⟨ins, en, ea, et, el⟩ := y
      simp only at c0 c1 c2 c3 c4 HIL
      have hnb : ins.length ≤ 9223372036854775807 := by have := hiw.n; unfold maxLen at this; simp only at this; omega
      have KA := Lib.hid (ask_blk ga pa oa ab nG nP nO nB gc pc oc bc vd0 mn nm pr vd R m HNP.out ins ai ins.length ci en ea et el rfl hnb hiw.i vb wr (HP.out.fr HW.out) HIL (HV.out.fr HW.out))
      generalize ins.length = ni at c0 KA hnb
      clear hiw HIL
      go_wp2_with (go_at_call 28; (with_reducible refine KA.out.mono ?_); rintro e w2 ⟨⟨tt, rfl, ht⟩, hf⟩; have HT := Lib.hid ht; have HF := Lib.hid (HW.out.trans hf); clear ht hf; cases tt)
      · have HK2 : Hid (∀ j, j < k + 1 → BlkV m vd R nO nG nP nB (l.getD j bk0)) := Lib.hid (fun j hj => by
          by_cases hjk : j < k
          · exact HK.out j hjk
          · obtain rfl : j = k := by omega
            rw [HY.out]
            have z := HT.out
            exact Classical.byContradiction fun q => Bool.false_ne_true (z.2 q))
        clear HT HY
        go_roundw
        case rel => exact ⟨k + 1, by go_num, by omega, HF, HK2⟩
        case measure => simp [intOf]; omega
      · go_wp2
        go_ret
        exact ⟨⟨_, rfl, iff_of_true (by omega) (fun hh => HT.out.1 trivial (by have := hh k (by rw [← HN.out]; exact hlt); rw [HY.out] at this; exact this))⟩, HF.out⟩
    · obtain rfl : k = n := by omega
      go_wp2
      go_ret
      exact ⟨⟨_, rfl, iff_of_false (by decide) (fun hh => hh (by unfold BlksP; rw [← HN.out]; exact HK.out))⟩, HW.out⟩
theorem has_blk (ga pa oa ab : Option Addr) (nG nP nO nB gc pc oc bc : Nat) (vd0 mn nm pr : Value) (vd : Bool) (R : Int) (m : Mdl) (hnP : nP = m.pr.length) (l : List Bk) (a : Option Addr) (n c : Nat) (hn : n = l.length) (hb : n ≤ 9223372036854775807) (hw : ∀ x ∈ l, x.wide) (vb : Nat) (w : World) (hp : PrcL w pa m.pr) (h : BkL w a l) (hv : Rqw w vb #[.slice ga nG gc, vd0, .slice pa nP pc, mn, nm, .bool vd, pr, .int .i64 R, .slice oa nO oc, .slice ab nB bc]) : Calls Try.prog 27 #[.slice a n c, .func (.func 28) #[] #[.pointer (some ⟨vb, 0, none⟩)]] w fun e w' => IsR (¬BlksP m vd R nO nG nP nB l) e ∧ Fr (fun _ => False) w w' := by
  have HC := Lib.hid (idx_blk ga pa oa ab nG nP nO nB gc pc oc bc vd0 mn nm pr vd R m hnP l a n c hn hb hw vb w hp h hv)
  clear h hv hn hp hnP hw
  go_enter Try.func27, Try.ntmps27
  go_wp2_with (go_at_call 42; (with_reducible refine HC.out.mono ?_); rintro e w2 ⟨⟨x, rfl, hx⟩, hf⟩; have HX := Lib.hid hx; have HF := Lib.hid hf; clear hx hf)
  go_ret
  exact ⟨⟨_, rfl, by rw [decide_eq_true_iff]; exact HX.out⟩, HF.out⟩
end Go.Proofs.Ythdkmjbeemfbbaa
