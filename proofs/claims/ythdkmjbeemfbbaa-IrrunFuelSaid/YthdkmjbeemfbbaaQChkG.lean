/-
  Modules (layer 13): whether a procedure and a module are right, but for their blocks; the program's Proc and Check.
-/
import Derived.Test.YthdkmjbeemfbbaaQChkF
namespace Go.Proofs.Ythdkmjbeemfbbaa
open Go.RowKit
set_option linter.unusedVariables false
set_option linter.unusedSimpArgs false
structure Prc.few (p : Prc) : Prop where
  b : p.bl.length ≤ 40
  o : p.ob.length ≤ 20
  f : ∀ k, k < p.bl.length → FB (p.bl.getD k bk0)
structure Mdl.few (m : Mdl) : Prop where
  g : m.gl.length ≤ 20
  d : m.da.length ≤ 20
  p : m.pr.length ≤ 6
  f : ∀ k, k < m.pr.length → (m.pr.getD k prc0).few
theorem cnt60 (l : List Bk) (h : ∀ k, k < l.length → FB (l.getD k bk0)) (k : Nat) (hk : k ≤ l.length) : cntL l k ≤ 60 * k := by
  induction k with
  | zero => simp [cntL]
  | succ k ih =>
    have := ih (by omega)
    have := (h k (by omega)).1
    simp only [cntL]; omega
theorem within_eq (x lo hi : Int) (b : Bool) (h : b = true ↔ lo ≤ x ∧ x ≤ hi) (w : World) : Calls Try.prog 22 #[.int .i64 x, .int .i64 lo, .int .i64 hi] w fun e w' => e = .returned (.bool b) ∧ w = w' :=
  (c22 x lo hi w).mono fun e w' q => ⟨by rw [q.1]; congr 2; exact bool_of (P := lo ≤ x ∧ x ≤ hi) (by simp) h, q.2⟩
theorem index_eq (x n : Int) (b : Bool) (h : b = true ↔ 0 ≤ x ∧ x < n) (w : World) : Calls Try.prog 23 #[.int .i64 x, .int .i64 n] w fun e w' => e = .returned (.bool b) ∧ w = w' :=
  (c23 x n w).mono fun e w' q => ⟨by rw [q.1]; congr 2; exact bool_of (P := 0 ≤ x ∧ x < n) (by simp) h, q.2⟩
def OutV (pr R : Int) (nB : Nat) (l : List Slt) : Prop := (0 ≤ pr ∧ pr ≤ 6) ∧ (pr ≤ R ∧ R ≤ 8000) ∧ SltsP l ∧ 1 ≤ nB
set_option maxRecDepth 100000 in
set_option maxHeartbeats 4000000 in
theorem out_fit (ga pa oa ab : Option Addr) (nG nP nO nB gc pc oc bc : Nat) (vd0 mn : Value) (nm : ByteArray) (vd : Bool) (pr R : Int) (ol : List Slt) (bl : List Bk) (hnO : nO = ol.length) (hnB : nB = bl.length) (hO : nO ≤ 20) (hB : nB ≤ 40) (hok : ∀ x ∈ bl, x.ok) (hf : ∀ k, k < bl.length → FB (bl.getD k bk0)) (w : World) (hs : SltL w oa ol) (hb : BkL w ab bl) : Calls Try.prog 26 #[.agg #[.slice ga nG gc, vd0, .slice pa nP pc, mn, .string nm, .bool vd, .int .i64 pr, .int .i64 R, .slice oa nO oc, .slice ab nB bc]] w fun e w' => IsR (OutV pr R nB ol) e ∧ Fr (fun _ => False) w w' := by
  obtain ⟨b1, h1⟩ := bool_ex (0 ≤ pr ∧ pr ≤ 6)
  obtain ⟨b2, h2⟩ := bool_ex (pr ≤ R ∧ R ≤ 8000)
  obtain ⟨b5, h5⟩ := bool_ex (1 ≤ (nB : Int) ∧ (nB : Int) ≤ 4000)
  have K1 := Lib.hid (fun W => within_eq pr 0 6 b1 h1 W)
  have K2 := Lib.hid (fun W => within_eq R pr 8000 b2 h2 W)
  have K5 := Lib.hid (fun W => within_eq nB 1 4000 b5 h5 W)
  have F0 : Hid (Fr (fun _ => False) w ((w.alloc (.cells #[.slice ga nG gc, vd0, .slice pa nP pc, mn, .string nm, .bool vd, .int .i64 pr, .int .i64 R, .slice oa nO oc, .slice ab nB bc] 79)).alloc (.cells #[.string nm, .bool vd, .int .i64 pr, .int .i64 R, .slice oa nO oc, .slice ab nB bc] 41))) := Lib.hid (fr_al (fr_al (Fr.refl _ _) _) _)
  have KS : Hid (Calls Try.prog 24 #[.slice oa nO oc] ((w.alloc (.cells #[.slice ga nG gc, vd0, .slice pa nP pc, mn, .string nm, .bool vd, .int .i64 pr, .int .i64 R, .slice oa nO oc, .slice ab nB bc] 79)).alloc (.cells #[.string nm, .bool vd, .int .i64 pr, .int .i64 R, .slice oa nO oc, .slice ab nB bc] 41)) fun e w' => IsR (SltsP ol) e ∧ Fr (fun _ => False) ((w.alloc (.cells #[.slice ga nG gc, vd0, .slice pa nP pc, mn, .string nm, .bool vd, .int .i64 pr, .int .i64 R, .slice oa nO oc, .slice ab nB bc] 79)).alloc (.cells #[.string nm, .bool vd, .int .i64 pr, .int .i64 R, .slice oa nO oc, .slice ab nB bc] 41)) w') := Lib.hid (by subst hnO; exact slts_fit ol oa oc (by omega) _ (hs.fr F0.out))
  obtain ⟨cnt, hcnt⟩ : ∃ cnt : Int, cnt = (cntL bl bl.length : Int) := ⟨_, rfl⟩
  have hc : cnt ≤ 20000 := by have := cnt60 bl hf bl.length (Nat.le_refl _); omega
  have KC : Hid (∀ W, Fr (fun _ => False) w W → Calls Try.prog 41 #[.agg #[.string nm, .bool vd, .int .i64 pr, .int .i64 R, .slice oa nO oc, .slice ab nB bc]] W fun e w' => e = .returned (.int .i64 cnt) ∧ Fr (fun _ => False) W w') := Lib.hid (fun W h => by subst hnB hcnt; exact count_any _ _ _ _ _ ab bc bl (by omega) hok W (hb.fr h))
  have HQ : Hid (OutV pr R nB ol ↔ b1 = true ∧ b2 = true ∧ SltsP ol ∧ b5 = true) := Lib.hid (by unfold OutV; rw [h1, h2, h5]; constructor <;> (rintro ⟨q1, q2, q3, q4⟩; exact ⟨q1, q2, q3, by omega⟩))
  clear hs hb hok hf hnO hnB hcnt h1 h2 h5
  cases b1
  · go_enter Try.func26, Try.ntmps26
    go_wp2_with (go_at_call 22; (with_reducible first | refine (K1.out _).mono ?_ | refine (K2.out _).mono ?_ | refine (K5.out _).mono ?_); rintro e w2 ⟨rfl, rfl⟩)
    go_ret
    exact ⟨⟨_, rfl, iff_of_false Bool.false_ne_true (fun q => Bool.false_ne_true (HQ.out.1 q).1)⟩, F0.out⟩
  · cases b2
    · go_enter Try.func26, Try.ntmps26
      go_wp2_with (go_at_call 22; (with_reducible first | refine (K1.out _).mono ?_ | refine (K2.out _).mono ?_ | refine (K5.out _).mono ?_); rintro e w2 ⟨rfl, rfl⟩)
      go_ret
      exact ⟨⟨_, rfl, iff_of_false Bool.false_ne_true (fun q => Bool.false_ne_true (HQ.out.1 q).2.1)⟩, F0.out⟩
    · cases b5
      · go_enter Try.func26, Try.ntmps26
        go_wp2_with (first | (go_at_call 22; (with_reducible first | refine (K1.out _).mono ?_ | refine (K2.out _).mono ?_ | refine (K5.out _).mono ?_); rintro e w2 ⟨rfl, rfl⟩) | (go_at_call 24; (with_reducible refine KS.out.mono ?_); rintro e w3 ⟨⟨tt, rfl, ht⟩, hf⟩; have HT := Lib.hid ht; have HF := Lib.hid (F0.out.trans hf); have p0 := hf.cell (two2 w _ _ _ _ 0 _ rfl) id; have p1 := hf.cell (two2 w _ _ _ _ 1 _ rfl) id; have p2 := hf.cell (two2 w _ _ _ _ 2 _ rfl) id; have p3 := hf.cell (two2 w _ _ _ _ 3 _ rfl) id; have p4 := hf.cell (two2 w _ _ _ _ 4 _ rfl) id; have p5 := hf.cell (two2 w _ _ _ _ 5 _ rfl) id; clear ht hf; cases tt))
        · go_ret
          exact ⟨⟨_, rfl, iff_of_false Bool.false_ne_true (fun q => Bool.false_ne_true (HQ.out.1 q).2.2.2)⟩, HF.out⟩
        · go_wp2_with (go_at_call 22; (with_reducible first | refine (K1.out _).mono ?_ | refine (K2.out _).mono ?_ | refine (K5.out _).mono ?_); rintro e w2 ⟨rfl, rfl⟩)
          go_ret
          exact ⟨⟨_, rfl, iff_of_false Bool.false_ne_true (fun q => Bool.false_ne_true (HQ.out.1 q).2.2.2)⟩, HF.out⟩
      · go_enter Try.func26, Try.ntmps26
        go_wp2_with (first | (go_at_call 22; (with_reducible first | refine (K1.out _).mono ?_ | refine (K2.out _).mono ?_ | refine (K5.out _).mono ?_); rintro e w2 ⟨rfl, rfl⟩) | (go_at_call 24; (with_reducible refine KS.out.mono ?_); rintro e w3 ⟨⟨tt, rfl, ht⟩, hf⟩; have HT := Lib.hid ht; have HF := Lib.hid (F0.out.trans hf); have p0 := hf.cell (two2 w _ _ _ _ 0 _ rfl) id; have p1 := hf.cell (two2 w _ _ _ _ 1 _ rfl) id; have p2 := hf.cell (two2 w _ _ _ _ 2 _ rfl) id; have p3 := hf.cell (two2 w _ _ _ _ 3 _ rfl) id; have p4 := hf.cell (two2 w _ _ _ _ 4 _ rfl) id; have p5 := hf.cell (two2 w _ _ _ _ 5 _ rfl) id; clear ht hf; cases tt))
        · go_ret
          exact ⟨⟨_, rfl, iff_of_false Bool.false_ne_true (fun q => Bool.false_ne_true (HT.out.2 (HQ.out.1 q).2.2.1))⟩, HF.out⟩
        · go_wp2_with (first | (go_at_call 22; (with_reducible first | refine (K1.out _).mono ?_ | refine (K2.out _).mono ?_ | refine (K5.out _).mono ?_); rintro e w2 ⟨rfl, rfl⟩) | (go_at_call 41; (with_reducible refine (KC.out _ HF.out).mono ?_); rintro e w4 ⟨rfl, hf⟩; have HG := Lib.hid (HF.out.trans hf); clear hf))
          go_ret
          exact ⟨⟨_, rfl, iff_of_true rfl (HQ.out.2 ⟨by first | rfl | trivial, by first | rfl | trivial, HT.out.1 (by first | rfl | trivial), by first | rfl | trivial⟩)⟩, HG.out⟩
def PrcF (m : Mdl) (p : Prc) : Prop := OutV p.pa p.rg p.bl.length p.ob ∧ BlksP m p.vd p.rg p.ob.length m.gl.length m.pr.length p.bl.length p.bl
open Classical in
noncomputable def procI (m : Mdl) (n : Int) : Int := if 0 ≤ n ∧ n < m.pr.length then (if PrcF m (m.pr.getD n.toNat prc0) then 0 else 3) else 4
theorem procI_no {m : Mdl} {n : Int} (h : ¬(0 ≤ n ∧ n < m.pr.length)) : procI m n = 4 := by unfold procI; rw [if_neg h]
theorem procI_ok {m : Mdl} {k : Nat} (h : k < m.pr.length) (q : PrcF m (m.pr.getD k prc0)) : procI m (k : Int) = 0 := by unfold procI; rw [if_pos ⟨by omega, by omega⟩, Int.toNat_natCast, if_pos q]
theorem procI_bad {m : Mdl} {k : Nat} (h : k < m.pr.length) (q : ¬PrcF m (m.pr.getD k prc0)) : procI m (k : Int) = 3 := by unfold procI; rw [if_pos ⟨by omega, by omega⟩, Int.toNat_natCast, if_neg q]
set_option maxRecDepth 100000 in
set_option maxHeartbeats 8000000 in
theorem proc_any (ga da pa : Option Addr) (nG nD nP gc dc pc : Nat) (mn n : Int) (m : Mdl) (hnG : nG = m.gl.length) (hnP : nP = m.pr.length) (hfew : m.few) (hwd : m.wide) (w : World) (hp : PrcL w pa m.pr) : Calls Try.prog 16 #[.agg #[.slice ga nG gc, .slice da nD dc, .slice pa nP pc, .int .i64 mn], .int .i64 n] w fun e w' => e = .returned (.int .i64 (procI m n)) ∧ Fr (fun _ => False) w w' := by
  have F0 : Hid (Fr (fun _ => False) w (w.alloc (.cells #[.slice ga nG gc, .slice da nD dc, .slice pa nP pc, .int .i64 mn] 26))) := Lib.hid (fr_al (Fr.refl _ _) _)
  have k2 := fcell w #[.slice ga nG gc, .slice da nD dc, .slice pa nP pc, .int .i64 mn] 26 2 _ rfl
  have hP6 := hfew.p
  rw [← hnP] at hP6
  by_cases hin : ¬(0 ≤ n ∧ n < nP)
  · have KI := Lib.hid (fun W => index_eq n nP false (iff_of_false Bool.false_ne_true hin) W)
    have HR := Lib.hid (procI_no (m := m) (n := n) (by rw [← hnP]; exact hin))
    clear hp hin hfew hwd hnP hnG
    go_enter Try.func16, Try.ntmps16
    go_wp2_with (go_at_call 23; (with_reducible refine (KI.out _).mono ?_); rintro e w2 ⟨rfl, rfl⟩)
    go_ret
    exact ⟨by rw [HR.out]; rfl, F0.out⟩
  · have hin' : 0 ≤ n ∧ n < nP := Classical.not_not.1 hin
    obtain ⟨k, rfl⟩ := Int.eq_ofNat_of_zero_le hin'.1
    have KI := Lib.hid (fun W => index_eq k nP true (iff_of_true rfl hin') W)
    have hk : k < nP := by omega
    have hkl : k < m.pr.length := by omega
    clear hin hin'
    obtain ⟨g, o, rfl, c0, c1, c2, c3, ⟨oa, oc, c4, hs⟩, ⟨ab, bc, c5, hb⟩⟩ := hp k hkl
    have hpf := hfew.f k hkl
    have hpw := hwd.w _ (getD_memP hkl)
    have HPI := Lib.hid (And.intro (fun q => procI_ok hkl q) (fun q => procI_bad hkl q))
    obtain ⟨p, hpe⟩ : ∃ p, m.pr.getD k prc0 = p := ⟨_, rfl⟩
    rw [hpe] at c0 c1 c2 c3 c4 c5 hs hb hpf hpw HPI
    obtain ⟨nm, vd, pr, R, ol, bl⟩ := p
    have hB := hpf.b
    have hO := hpf.o
    have hfb := hpf.f
    have hwb := hpw.w
    simp only at c0 c1 c2 c3 c4 c5 hs hb hB hO hfb hwb
    have hok : ∀ x ∈ bl, x.ok := fun x hx => fb_ok (hwb x hx) (of_getB (P := FB) hfb x hx)
    obtain ⟨nO, hnO⟩ : ∃ nO, nO = ol.length := ⟨_, rfl⟩
    obtain ⟨nB, hnB⟩ : ∃ nB, nB = bl.length := ⟨_, rfl⟩
    have KO := Lib.hid (fun W (h : Fr (fun _ => False) w W) => out_fit ga (some ⟨g, o, none⟩) oa ab nG nP nO nB gc pc oc bc (.slice da nD dc) (.int .i64 mn) nm vd pr R ol bl hnO hnB (by omega) (by omega) hok hfb W (hs.fr h) (hb.fr h))
    have KB := Lib.hid (fun vb W (h : Fr (fun _ => False) w W) (hv : Rqw W vb #[.slice ga nG gc, .slice da nD dc, .slice (some ⟨g, o, none⟩) nP pc, .int .i64 mn, .string nm, .bool vd, .int .i64 pr, .int .i64 R, .slice oa nO oc, .slice ab nB bc]) => has_blk ga (some ⟨g, o, none⟩) oa ab nG nP nO nB gc pc oc bc (.slice da nD dc) (.int .i64 mn) (.string nm) (.int .i64 pr) vd R m hnP bl ab nB bc hnB (by omega) hwb vb W (hp.fr h) (hb.fr h) hv)
    have HPF : Hid (PrcF m ⟨nm, vd, pr, R, ol, bl⟩ ↔ OutV pr R nB ol ∧ BlksP m vd R nO nG nP nB bl) := Lib.hid (by subst hnO hnB hnG hnP; exact Iff.rfl)
    rw [← hnO] at c4
    rw [← hnB] at c5
    clear hp hs hb hpf hpw hfb hwb hok hfew hwd hnO hnB hnG hnP hpe hkl
    have k2 := fcell w #[.slice ga nG gc, .slice da nD dc, .slice (some ⟨g, o, none⟩) nP pc, .int .i64 mn] 26 2 _ rfl
    go_enter Try.func16, Try.ntmps16
    go_wp2_with (go_at_call 23; (with_reducible refine (KI.out _).mono ?_); rintro e w2 ⟨rfl, rfl⟩)
    have RM : Hid (Rqw (w.alloc (.cells #[.slice ga nG gc, .slice da nD dc, .slice (some ⟨g, o, none⟩) nP pc, .int .i64 mn] 26)) w.heap.size #[.slice ga nG gc, .slice da nD dc, .slice (some ⟨g, o, none⟩) nP pc, .int .i64 mn]) := Lib.hid (fun j y h => fcell w _ _ j y h)
    have F1 : Hid (Fr (fun _ => False) w (w.alloc (.cells #[.slice ga nG gc, .slice da nD dc, .slice (some ⟨g, o, none⟩) nP pc, .int .i64 mn] 26))) := Lib.hid (fr_al (Fr.refl _ _) _)
    have a0 := F1.out.cell c0 id
    have a1 := F1.out.cell c1 id
    have a2 := F1.out.cell c2 id
    have a3 := F1.out.cell c3 id
    have a4 := F1.out.cell c4 id
    have a5 := F1.out.cell c5 id
    clear c0 c1 c2 c3 c4 c5 k2 F0
    generalize w.alloc (.cells #[.slice ga nG gc, .slice da nD dc, .slice (some ⟨g, o, none⟩) nP pc, .int .i64 mn] 26) = V at *
    generalize w.heap.size = mb at *
    have m0 : V.cell? ⟨mb, 0, none⟩ = some (.slice ga nG gc) := RM.out 0 _ rfl
    have m1 : V.cell? ⟨mb, 1, none⟩ = some (.slice da nD dc) := RM.out 1 _ rfl
    have m2 : V.cell? ⟨mb, 2, none⟩ = some (.slice (some ⟨g, o, none⟩) nP pc) := RM.out 2 _ rfl
    have m3 : V.cell? ⟨mb, 3, none⟩ = some (.int .i64 mn) := RM.out 3 _ rfl
    have HKP : Hid (∀ w0, Fr (fun _ => False) V w0 → Fr (fun _ => False) V w0 ∧ w0.cell? ⟨mb, 0, none⟩ = some (.slice ga nG gc) ∧ w0.cell? ⟨mb, 1, none⟩ = some (.slice da nD dc) ∧ w0.cell? ⟨mb, 2, none⟩ = some (.slice (some ⟨g, o, none⟩) nP pc) ∧ w0.cell? ⟨mb, 3, none⟩ = some (.int .i64 mn) ∧ w0.cell? ⟨g, o + k * 6, none⟩ = some (.string nm) ∧ w0.cell? ⟨g, o + k * 6 + 1, none⟩ = some (.bool vd) ∧ w0.cell? ⟨g, o + k * 6 + 2, none⟩ = some (.int .i64 pr) ∧ w0.cell? ⟨g, o + k * 6 + 3, none⟩ = some (.int .i64 R) ∧ w0.cell? ⟨g, o + k * 6 + 4, none⟩ = some (.slice oa nO oc) ∧ w0.cell? ⟨g, o + k * 6 + 5, none⟩ = some (.slice ab nB bc)) := Lib.hid (fun w0 h => ⟨h, h.cell m0 id, h.cell m1 id, h.cell m2 id, h.cell m3 id, h.cell a0 id, h.cell a1 id, h.cell a2 id, h.cell a3 id, h.cell a4 id, h.cell a5 id⟩)
    go_region_held3 (fun w0 => Fr (fun _ => False) V w0 ∧ w0.cell? ⟨mb, 0, none⟩ = some (.slice ga nG gc) ∧ w0.cell? ⟨mb, 1, none⟩ = some (.slice da nD dc) ∧ w0.cell? ⟨mb, 2, none⟩ = some (.slice (some ⟨g, o, none⟩) nP pc) ∧ w0.cell? ⟨mb, 3, none⟩ = some (.int .i64 mn) ∧ w0.cell? ⟨g, o + k * 6, none⟩ = some (.string nm) ∧ w0.cell? ⟨g, o + k * 6 + 1, none⟩ = some (.bool vd) ∧ w0.cell? ⟨g, o + k * 6 + 2, none⟩ = some (.int .i64 pr) ∧ w0.cell? ⟨g, o + k * 6 + 3, none⟩ = some (.int .i64 R) ∧ w0.cell? ⟨g, o + k * 6 + 4, none⟩ = some (.slice oa nO oc) ∧ w0.cell? ⟨g, o + k * 6 + 5, none⟩ = some (.slice ab nB bc))
      (first | assumption | exact HKP.out _ (Fr.refl _ _) | exact HKP.out _ ((Fr.refl _ _).drewN 1) | exact HKP.out _ (fr_al ((Fr.refl _ _).drewN 1) _) | exact HKP.out _ (fr_al (And.left (by assumption)) _))
      (fail)
    have HU : Hid (Fr (fun _ => False) V (V.alloc (.cells #[.slice ga nG gc, .slice da nD dc, .slice (some ⟨g, o, none⟩) nP pc, .int .i64 mn, .string nm, .bool vd, .int .i64 pr, .int .i64 R, .slice oa nO oc, .slice ab nB bc] 79)).drew) := Lib.hid ((fr_al (Fr.refl _ _) _).drewN 1)
    have HR : Hid (Rqw (V.alloc (.cells #[.slice ga nG gc, .slice da nD dc, .slice (some ⟨g, o, none⟩) nP pc, .int .i64 mn, .string nm, .bool vd, .int .i64 pr, .int .i64 R, .slice oa nO oc, .slice ab nB bc] 79)).drew V.heap.size #[.slice ga nG gc, .slice da nD dc, .slice (some ⟨g, o, none⟩) nP pc, .int .i64 mn, .string nm, .bool vd, .int .i64 pr, .int .i64 R, .slice oa nO oc, .slice ab nB bc]) := Lib.hid (fun j y h => fcell V _ _ j y h)
    generalize (V.alloc (.cells #[.slice ga nG gc, .slice da nD dc, .slice (some ⟨g, o, none⟩) nP pc, .int .i64 mn, .string nm, .bool vd, .int .i64 pr, .int .i64 R, .slice oa nO oc, .slice ab nB bc] 79)).drew = U at *
    generalize V.heap.size = vb at *
    have v0 : U.cell? ⟨vb, 0, none⟩ = some (.slice ga nG gc) := HR.out 0 _ rfl
    have v1 : U.cell? ⟨vb, 1, none⟩ = some (.slice da nD dc) := HR.out 1 _ rfl
    have v2 : U.cell? ⟨vb, 2, none⟩ = some (.slice (some ⟨g, o, none⟩) nP pc) := HR.out 2 _ rfl
    have v3 : U.cell? ⟨vb, 3, none⟩ = some (.int .i64 mn) := HR.out 3 _ rfl
    have v4 : U.cell? ⟨vb, 4, none⟩ = some (.string nm) := HR.out 4 _ rfl
    have v5 : U.cell? ⟨vb, 5, none⟩ = some (.bool vd) := HR.out 5 _ rfl
    have v6 : U.cell? ⟨vb, 6, none⟩ = some (.int .i64 pr) := HR.out 6 _ rfl
    have v7 : U.cell? ⟨vb, 7, none⟩ = some (.int .i64 R) := HR.out 7 _ rfl
    have v8 : U.cell? ⟨vb, 8, none⟩ = some (.slice oa nO oc) := HR.out 8 _ rfl
    have v9 : U.cell? ⟨vb, 9, none⟩ = some (.slice ab nB bc) := HR.out 9 _ rfl
    have HWU := Lib.hid (F1.out.trans HU.out)
    have hmf : ∀ (fn : Fn) (first cap : Array Value) (w : World), (Instr.makeFunc fn first cap).run Try.prog w = .ok (.func fn first cap) w := fun _ _ _ _ => rfl
    clear m0 m1 m2 m3 a0 a1 a2 a3 a4 a5 HKP
    go_wp2_with (go_at_call 26; (with_reducible refine (KO.out _ HWU.out).mono ?_); rintro e w5 ⟨⟨tt, rfl, ht⟩, hf⟩; have HT := Lib.hid ht; have HF := Lib.hid (HWU.out.trans hf); have d9 := hf.cell v9 id; have HR5 := Lib.hid (HR.out.fr hf); clear ht hf; cases tt)
    · go_ret
      exact ⟨by rw [HPI.out.2 (fun q => Bool.false_ne_true (HT.out.2 (HPF.out.1 q).1))]; rfl, HF.out⟩
    · go_wp2_with (go_at_call 27; (with_reducible refine (KB.out vb _ HF.out HR5.out).mono ?_); rintro e w6 ⟨⟨tt, rfl, ht⟩, hf⟩; have HT2 := Lib.hid ht; have HG := Lib.hid (HF.out.trans hf); clear ht hf; cases tt)
      · go_ret
        exact ⟨by rw [HPI.out.1 (HPF.out.2 ⟨HT.out.1 trivial, Classical.byContradiction fun q => Bool.false_ne_true (HT2.out.2 q)⟩)]; rfl, HG.out⟩
      · go_wp2
        go_ret
        exact ⟨by rw [HPI.out.2 (fun q => HT2.out.1 trivial (HPF.out.1 q).2)]; rfl, HG.out⟩
end Go.Proofs.Ythdkmjbeemfbbaa
