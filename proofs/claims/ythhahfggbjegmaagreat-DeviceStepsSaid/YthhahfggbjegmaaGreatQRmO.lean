/-
  What any instruction does to the document's own machine that lies in a world (layer 3). A step of the document's own machine (layer 3): the walks, over contracts of Decode and of do. A failure of the power, and a step, of the document's own machine that lies in a world (layer 3).
-/
import Derived.Test.YthhahfggbjegmaaGreatQRmJ
import Derived.Test.YthhahfggbjegmaaGreatQRmK
import Derived.Test.YthhahfggbjegmaaGreatQRmL
import Derived.Test.YthhahfggbjegmaaGreatQRmM
import Derived.Test.YthhahfggbjegmaaGreatQRmN
import Derived.Test.YthhahfggbjegmaaGreatQDevBb
import Derived.Test.YthhahfggbjegmaaGreatQDevN
import Derived.Test.YthhahfggbjegmaaGreatQTab
import Derived.Lib.Hide
import Derived.Deep.RegionWith
import Derived.Deep.QuietTactic
import Derived.BigQuiet
import Derived.Outline
import Derived.BigRegion
import Derived.Deep.DeepCutAuto
import Derived.Test.YthhahfggbjegmaaGreatQDevS
namespace Go.Proofs.YthhahfggbjegmaaGreat
open Go.RowKit
set_option linter.unusedVariables false
set_option linter.unusedSimpArgs false
theorem rfin_set {base : Nat} {R : RLay} {gb : Nat} {lv : Value} {s : MSt} {w w2 : World} (h : RAt base w R gb lv s) (hw : RWf base R gb lv) (hf : Fr (fun _ => False) w w2) {rd : Nat} (hr : rd < 32) {v p : Int} (v0 : 0 ≤ v ∧ v ≤ 4294967295) (p0 : 0 ≤ p ∧ p ≤ 4294967295) :
    ROkay base R gb lv w ((YthhahfggbjegmaaGreat.setW w2 gb rd v).setCell ⟨R.rb, 4, none⟩ (.int .i64 p)) { s with c := updN (setR s.c rd v) 32 p } := by
  refine ROkay.before hf ?_
  obtain ⟨g1, l1, a1, f1, r1, n1⟩ := ROkay.setReg (h.grown0 hf) hw rd hr v v0.1 v0.2
  exact ROkay.step r1 n1 (ROkay.setNum a1 f1 4 (.inl rfl) p p0.1 (fun _ => p0.2))
theorem rfin_pc {base : Nat} {R : RLay} {gb : Nat} {lv : Value} {s : MSt} {w w2 : World} (h : RAt base w R gb lv s) (hw : RWf base R gb lv) (hf : Fr (fun _ => False) w w2) {p : Int} (p0 : 0 ≤ p ∧ p ≤ 4294967295) :
    ROkay base R gb lv w (w2.setCell ⟨R.rb, 4, none⟩ (.int .i64 p)) { s with c := updN s.c 32 p } :=
  ROkay.before hf (ROkay.setNum (h.grown0 hf) hw 4 (.inl rfl) p p0.1 (fun _ => p0.2))
theorem RAt.regb {base : Nat} {w : World} {R : RLay} {gb : Nat} {lv : Value} {s : MSt} (h : RAt base w R gb lv s) {r : Nat} (hr : r < 32) : 0 ≤ s.c r ∧ s.c r ≤ 4294967295 :=
  ⟨h.bw r (.inl (by omega)), h.bu r (.inl (by omega)) (kind_reg hr)⟩
theorem comp_i {op a b imm : Int} (ho : op ≤ 27) : compF op a b imm = longF (longOf op) a imm := by unfold compF; rw [if_pos ho]
theorem comp_r {op a b imm : Int} (ho : ¬ op ≤ 27) : compF op a b imm = longF (longOf op) a b := by unfold compF; rw [if_neg ho]
theorem rm_do_at {base : Nat} {R : RLay} {gb : Nat} {lv : Value} {s : MSt} {w : World} (h : RAt base w R gb lv s) (hw : RWf base R gb lv) (hl : s.log.length < 900000) (op imm : Int) (rd r1 r2 : Nat) (ho : 1 ≤ op ∧ op ≤ 45) (hi : -4294967296 ≤ imm ∧ imm ≤ 4294967296) (hr : rd < 32 ∧ r1 < 32 ∧ r2 < 32) :
    Calls Tryz.prog 32 #[.pointer (some ⟨R.rb, 0, none⟩), .agg #[.int .i64 op, .int .i64 rd, .int .i64 r1, .int .i64 r2, .int .i64 imm]] w fun e w' =>
      e = .returned (.bool (exec5 R.lay op rd r1 r2 imm s).isSome) ∧ ROkay base R gb lv w w' ((exec5 R.lay op rd r1 r2 imm s).getD s) := by
  obtain ⟨i0, i1⟩ := hi
  have hx : w.cell? ⟨R.rb, 4, none⟩ = some (.int .i64 (s.c 32)) := h.num 4 (.inl rfl)
  have hs := h.regs
  have p0 := h.bw 32 (.inl (by decide))
  have p1 := h.bu 32 (.inl (by decide)) rfl
  have hd := h.reg rd hr.1
  have h1 := h.reg r1 hr.2.1
  have h2 := h.reg r2 hr.2.2
  obtain ⟨y0, y1⟩ := h.regb hr.2.1
  obtain ⟨u0, u1⟩ := h.regb hr.2.2
  have hf := h.gfree rd hr.1
  have hfp := h.free 4 (by decide)
  have m1 : 0 ≤ (s.c 32 + 4) % 4294967296 ∧ (s.c 32 + 4) % 4294967296 ≤ 4294967295 := mod_in _
  have m2 : 0 ≤ (s.c 32 + imm) % 4294967296 ∧ (s.c 32 + imm) % 4294967296 ≤ 4294967295 := mod_in _
  have m3 : 0 ≤ (s.c r1 + imm) % 4294967296 ∧ (s.c r1 + imm) % 4294967296 ≤ 4294967295 := mod_in _
  have e0 : ¬ op = 0 := by omega
  by_cases e1 : op = 1
  · subst e1
    refine (rm_do_1 R.rb gb rd r1 r2 imm (s.c 32) (s.c r1) (s.c r2) i0 i1 y0 y1 u0 u1 p0 p1 hr.1 hr.2.1 hr.2.2 hw.gg.1 w hx hs h1 h2 _ hd hf hfp).mono ?_
    rintro e w' ⟨rfl, w2, hg, rfl⟩
    exact ⟨rfl, rfin_set h hw hg hr.1 (mod_in _) m1⟩
  by_cases e2 : op = 2
  · subst e2
    refine (rm_do_2 R.rb gb rd r1 r2 imm (s.c 32) (s.c r1) (s.c r2) i0 i1 y0 y1 u0 u1 p0 p1 hr.1 hr.2.1 hr.2.2 hw.gg.1 w hx hs h1 h2 _ hd hf hfp).mono ?_
    rintro e w' ⟨rfl, w2, hg, rfl⟩
    exact ⟨rfl, rfin_set h hw hg hr.1 m2 m1⟩
  by_cases e3 : op = 3
  · subst e3
    refine (rm_do_3 R.rb gb rd r1 r2 imm (s.c 32) (s.c r1) (s.c r2) i0 i1 y0 y1 u0 u1 p0 p1 hr.1 hr.2.1 hr.2.2 hw.gg.1 w hx hs h1 h2 _ hd hf hfp).mono ?_
    rintro e w' ⟨rfl, w2, hg, rfl⟩
    exact ⟨rfl, rfin_set h hw hg hr.1 m1 m2⟩
  by_cases e4 : op = 4
  · subst e4
    refine (rm_do_4 R.rb gb rd r1 r2 imm (s.c 32) (s.c r1) (s.c r2) i0 i1 y0 y1 u0 u1 p0 p1 hr.1 hr.2.1 hr.2.2 hw.gg.1 w hx hs h1 h2 _ hd hf hfp).mono ?_
    rintro e w' ⟨rfl, w2, hg, rfl⟩
    exact ⟨rfl, rfin_set h hw hg hr.1 m1 (by omega)⟩
  have n4 : ¬ op ≤ 4 := by omega
  by_cases e10 : op ≤ 10
  · have ee : exec5 R.lay op rd r1 r2 imm s = some { s with c := updN s.c 32 (if holdsF op (s.c r1) (s.c r2) = true then (s.c 32 + imm) % 4294967296 else (s.c 32 + 4) % 4294967296) } := by
      unfold exec5; rw [if_neg e0, if_neg e1, if_neg e2, if_neg e3, if_neg e4, if_pos e10]
    rw [ee]
    cases ht : holdsF op (s.c r1) (s.c r2) with
    | true =>
      refine (rm_do_bt R.rb gb rd r1 r2 imm (s.c 32) (s.c r1) (s.c r2) i0 i1 y0 y1 u0 u1 p0 p1 hr.1 hr.2.1 hr.2.2 hw.gg.1 w hx hs h1 h2 _ hd hf hfp op (by omega) ht).mono ?_
      rintro e w' ⟨rfl, w2, hg, rfl⟩
      exact ⟨rfl, rfin_pc h hw hg m2⟩
    | false =>
      refine (rm_do_bf R.rb gb rd r1 r2 imm (s.c 32) (s.c r1) (s.c r2) i0 i1 y0 y1 u0 u1 p0 p1 hr.1 hr.2.1 hr.2.2 hw.gg.1 w hx hs h1 h2 _ hd hf hfp op (by omega) ht).mono ?_
      rintro e w' ⟨rfl, w2, hg, rfl⟩
      exact ⟨rfl, rfin_pc h hw hg m1⟩
  by_cases e15 : op ≤ 15
  · have ee : exec5 R.lay op rd r1 r2 imm s = (loadM R.lay s op ((s.c r1 + imm) % 4294967296)).map fun v => { s with c := updN (setR s.c rd v) 32 ((s.c 32 + 4) % 4294967296) } := by
      unfold exec5; rw [if_neg e0, if_neg e1, if_neg e2, if_neg e3, if_neg e4, if_neg e10, if_pos e15]
    rw [ee]
    obtain ⟨v, ok, v0, v1, hv, hL⟩ := rm_load_at h hw op ((s.c r1 + imm) % 4294967296) (by omega) m3.1 m3.2
    rw [hv]
    cases ok with
    | true =>
      refine (rm_do_lt R.rb gb rd r1 r2 imm (s.c 32) (s.c r1) (s.c r2) i0 i1 y0 y1 u0 u1 p0 p1 hr.1 hr.2.1 hr.2.2 hw.gg.1 w hx hs h1 h2 _ hd hf hfp op v (by omega) (Lib.hid (fun w1 hg => hL w1 _ _ (h.grown0 hg)))).mono ?_
      rintro e w' ⟨rfl, w2, hg, rfl⟩
      exact ⟨rfl, rfin_set h hw hg hr.1 ⟨v0, v1⟩ m1⟩
    | false =>
      refine (rm_do_lf R.rb gb rd r1 r2 imm (s.c 32) (s.c r1) (s.c r2) i0 i1 y0 y1 u0 u1 p0 p1 hr.1 hr.2.1 hr.2.2 hw.gg.1 w hx hs h1 h2 _ hd hf hfp op v (by omega) (Lib.hid (fun w1 hg => hL w1 _ _ (h.grown0 hg)))).mono ?_
      rintro e w' ⟨rfl, hg⟩
      exact ⟨rfl, ROkay.quiet h hw hg⟩
  by_cases e18 : op ≤ 18
  · have ee : exec5 R.lay op rd r1 r2 imm s = (storeM R.lay s op ((s.c r1 + imm) % 4294967296) (s.c r2)).map fun t => { t with c := updN t.c 32 ((s.c 32 + 4) % 4294967296) } := by
      unfold exec5; rw [if_neg e0, if_neg e1, if_neg e2, if_neg e3, if_neg e4, if_neg e10, if_neg e15, if_pos e18]
    rw [ee]
    cases hst : storeM R.lay s op ((s.c r1 + imm) % 4294967296) (s.c r2) with
    | some t =>
      have HL : Hid (∀ w1, Fr (fun _ => False) w w1 → Calls Tryz.prog 47 #[.pointer (some ⟨R.rb, 0, none⟩), .int .i64 op, .int .i64 ((s.c r1 + imm) % 4294967296), .int .u32 (s.c r2)] w1 fun e w' => e = .returned (.bool true) ∧ ROkay base R gb lv w w' t) :=
        Lib.hid (fun w1 hf => (rm_store_at (h.grown0 hf) hw hl op _ _ (by omega) m3.1 m3.2 u0 u1).mono (by
          rintro e w' ⟨rfl, hk⟩
          rw [hst] at hk ⊢
          exact ⟨rfl, ROkay.before hf hk⟩))
      have hSc : Hid (∀ w2, ROkay base R gb lv w w2 t → w2.cell? ⟨R.rb, 4, none⟩ = some (.int .i64 (s.c 32)) ∧ w2.frozen? ⟨R.rb, 4, none⟩ = false) :=
        Lib.hid (fun w2 ⟨g', lv', a, f, _, _⟩ => ⟨by rw [← storeM_pc hst]; exact a.num 4 (.inl rfl), a.free 4 (by decide)⟩)
      refine (rm_do_st R.rb gb rd r1 r2 imm (s.c 32) (s.c r1) (s.c r2) i0 i1 y0 y1 u0 u1 p0 p1 hr.1 hr.2.1 hr.2.2 hw.gg.1 w hx hs h1 h2 _ hd hf hfp op (by omega) _ hSc HL).mono ?_
      rintro e w' ⟨rfl, w2, hk, rfl⟩
      exact ⟨rfl, hk.trans fun g1 l1 a f => ROkay.setNum a f 4 (.inl rfl) _ m1.1 (fun _ => m1.2)⟩
    | none =>
      have HL : Hid (∀ w1, Fr (fun _ => False) w w1 → Calls Tryz.prog 47 #[.pointer (some ⟨R.rb, 0, none⟩), .int .i64 op, .int .i64 ((s.c r1 + imm) % 4294967296), .int .u32 (s.c r2)] w1 fun e w' => e = .returned (.bool false) ∧ ROkay base R gb lv w w' s) :=
        Lib.hid (fun w1 hf => (rm_store_at (h.grown0 hf) hw hl op _ _ (by omega) m3.1 m3.2 u0 u1).mono (by
          rintro e w' ⟨rfl, hk⟩
          rw [hst] at hk ⊢
          exact ⟨rfl, ROkay.before hf hk⟩))
      have hSc : Hid (∀ w2, ROkay base R gb lv w w2 s → w2.cell? ⟨R.rb, 4, none⟩ = some (.int .i64 (s.c 32)) ∧ w2.frozen? ⟨R.rb, 4, none⟩ = false) :=
        Lib.hid (fun w2 ⟨g', lv', a, f, _, _⟩ => ⟨a.num 4 (.inl rfl), a.free 4 (by decide)⟩)
      refine (rm_do_sf R.rb gb rd r1 r2 imm (s.c 32) (s.c r1) (s.c r2) i0 i1 y0 y1 u0 u1 p0 p1 hr.1 hr.2.1 hr.2.2 hw.gg.1 w hx hs h1 h2 _ hd hf hfp op (by omega) _ hSc HL).mono ?_
      rintro e w' ⟨rfl, hk⟩
      exact ⟨rfl, hk⟩
  have ee : exec5 R.lay op rd r1 r2 imm s = some { s with c := updN (setR s.c rd (compF op (s.c r1) (s.c r2) (imm % 4294967296))) 32 ((s.c 32 + 4) % 4294967296) } := by
    unfold exec5; rw [if_neg e0, if_neg e1, if_neg e2, if_neg e3, if_neg e4, if_neg e10, if_neg e15, if_neg e18]
  rw [ee]
  have cb := compF_in (op := op) y0 y1 u0 u1 (mod_in imm).1 (mod_in imm).2
  by_cases e27 : op ≤ 27
  · rw [comp_i e27] at cb ⊢
    refine (rm_do_ci R.rb gb rd r1 r2 imm (s.c 32) (s.c r1) (s.c r2) i0 i1 y0 y1 u0 u1 p0 p1 hr.1 hr.2.1 hr.2.2 hw.gg.1 w hx hs h1 h2 _ hd hf hfp op (by omega)).mono ?_
    rintro e w' ⟨rfl, w2, hg, rfl⟩
    exact ⟨rfl, rfin_set h hw hg hr.1 cb m1⟩
  · rw [comp_r e27] at cb ⊢
    refine (rm_do_cr R.rb gb rd r1 r2 imm (s.c 32) (s.c r1) (s.c r2) i0 i1 y0 y1 u0 u1 p0 p1 hr.1 hr.2.1 hr.2.2 hw.gg.1 w hx hs h1 h2 _ hd hf hfp op (by omega)).mono ?_
    rintro e w' ⟨rfl, w2, hg, rfl⟩
    exact ⟨rfl, rfin_set h hw hg hr.1 cb m1⟩
theorem rm_step_off (rb : Nat) (x : Int) (w : World) (hx : w.cell? ⟨rb, 9, none⟩ = some (.int .i64 x)) (h0 : x ≠ 0) :
    Calls Tryz.prog 17 #[.pointer (some ⟨rb, 0, none⟩)] w fun e w' => e = .returned (.tuple #[]) ∧ w = w' := by
  have e1 : (x != 0) = true := by rw [bne_iff_ne]; exact h0
  have e2 : (x == 0) = false := by rw [beq_eq_false_iff_ne]; exact h0
  clear h0
  go_enter Tryz.func17, Tryz.ntmps17
  go_wp2
  exact bodyPost_ret (v := .tuple #[]) (results_none rfl _ _ _) rfl ⟨rfl, rfl⟩
set_option maxRecDepth 100000 in
set_option maxHeartbeats 2000000 in
theorem rm_step_odd (rb : Nat) (p : Int) (w : World) (p0 : 0 ≤ p) (p1 : p ≤ 4294967295) (hx : w.cell? ⟨rb, 9, none⟩ = some (.int .i64 0)) (hf : w.frozen? ⟨rb, 9, none⟩ = false) (hp : w.cell? ⟨rb, 4, none⟩ = some (.int .i64 p)) (ho : p % 4 ≠ 0) :
    Calls Tryz.prog 17 #[.pointer (some ⟨rb, 0, none⟩)] w fun e w' => e = .returned (.tuple #[]) ∧ ∃ w2, Fr (fun _ => False) w w2 ∧ w' = w2.setCell ⟨rb, 9, none⟩ (.int .i64 2) := by
  have e1 : (p % 4 != 0) = true := by rw [bne_iff_ne]; exact ho
  have e2 : (p % 4 == 0) = false := by rw [beq_eq_false_iff_ne]; exact ho
  have HF := Lib.hid (Fr.refl (fun _ => False) w)
  clear ho
  go_enter Tryz.func17, Tryz.ntmps17
  go_wp2
  go_quiet (fail)
  go_wp2
  exact bodyPost_ret (v := .tuple #[]) (results_none rfl _ _ _) rfl ⟨rfl, _, HF.out.drewN _, rfl⟩
set_option maxRecDepth 100000 in
set_option maxHeartbeats 2000000 in
theorem rm_step_far (rb n c : Nat) (ca : Option Addr) (p : Int) (w : World) (p0 : 0 ≤ p) (p1 : p ≤ 4294967295) (hx : w.cell? ⟨rb, 9, none⟩ = some (.int .i64 0)) (hf : w.frozen? ⟨rb, 9, none⟩ = false) (hp : w.cell? ⟨rb, 4, none⟩ = some (.int .i64 p)) (hc : w.cell? ⟨rb, 0, none⟩ = some (.slice ca n c)) (ho : p % 4 = 0) (hn : (n : Int) ≤ p / 4) :
    Calls Tryz.prog 17 #[.pointer (some ⟨rb, 0, none⟩)] w fun e w' => e = .returned (.tuple #[]) ∧ ∃ w2, Fr (fun _ => False) w w2 ∧ w' = w2.setCell ⟨rb, 9, none⟩ (.int .i64 2) := by
  have e1 : (p % 4 != 0) = false := by rw [bne_eq_false_iff_eq]; exact ho
  have e2 : (p % 4 == 0) = true := by rw [beq_iff_eq]; exact ho
  have HF := Lib.hid (Fr.refl (fun _ => False) w)
  clear ho
  go_enter Tryz.func17, Tryz.ntmps17
  go_wp2
  go_quiet (fail)
  go_wp2
  exact bodyPost_ret (v := .tuple #[]) (results_none rfl _ _ _) rfl ⟨rfl, _, HF.out.drewN _, rfl⟩
theorem fr_set {w w4 : World} (h : Fr (fun _ => False) w w4) {b : Nat} (hb : w.heap.size ≤ b) (o : Nat) (v : Value) : Fr (fun _ => False) w (w4.setCell ⟨b, o, none⟩ v) :=
  h.trans' (Fr.setCell (F := fun k => k = b) w4 ⟨b, o, none⟩ v rfl) (fun j hj e => by omega)
theorem fr_al {w w4 : World} (h : Fr (fun _ => False) w w4) (o : Obj) : Fr (fun _ => False) w (w4.alloc o) := h.trans (Fr.of_by0 (byAlloc (byRefl w4) o))
theorem box5 {w3 w4 : World} (hg : Fr (fun _ => False) ((w3.alloc (.cells #[.int .i64 0, .int .i64 0, .int .i64 0, .int .i64 0, .int .i64 0] 66)).drew) w4) (j : Nat) (hj : j < 5) : w4.cell? ⟨w3.heap.size, j, none⟩ = some (.int .i64 0) ∧ w4.frozen? ⟨w3.heap.size, j, none⟩ = false := by
  have h0 : ((w3.alloc (.cells #[.int .i64 0, .int .i64 0, .int .i64 0, .int .i64 0, .int .i64 0] 66)).drew).cell? ⟨w3.heap.size, j, none⟩ = some (.int .i64 0) := by
    refine row_cell w3 _ 66 j _ ?_
    match j, hj with
    | 0, _ | 1, _ | 2, _ | 3, _ | 4, _ => rfl
  exact ⟨hg.cell h0 id, (hg.frozen h0 id).trans (show (w3.alloc (.cells _ _)).frozen? _ = false from World.frozen?_alloc_new _ _ _ _)⟩
def StepCut (w : World) (f0 f1 f2 f3 f4 er : Int) (s2 s3 : Value) (wx : World) : Prop :=
  ∃ g : Nat, s2 = .pointer (some ⟨g, 0, none⟩) ∧ s3 = .int .i64 er ∧ Hid (Fr (fun _ => False) w wx) ∧ wx.cell? ⟨g, 0, none⟩ = some (.int .i64 f0) ∧ wx.cell? ⟨g, 1, none⟩ = some (.int .i64 f1) ∧ wx.cell? ⟨g, 2, none⟩ = some (.int .i64 f2) ∧ wx.cell? ⟨g, 3, none⟩ = some (.int .i64 f3) ∧ wx.cell? ⟨g, 4, none⟩ = some (.int .i64 f4)
theorem cutB {w w4 : World} {f0 f1 f2 f3 f4 er : Int} (h : Fr (fun _ => False) w w4) : StepCut w f0 f1 f2 f3 f4 er (.pointer (some ⟨w4.heap.size, 0, none⟩)) (.int .i64 er) (w4.alloc (.cells #[.int .i64 f0, .int .i64 f1, .int .i64 f2, .int .i64 f3, .int .i64 f4] 66)) :=
  ⟨w4.heap.size, rfl, rfl, Lib.hid (fr_al h _), row_cell w4 _ 66 0 _ rfl, row_cell w4 _ 66 1 _ rfl, row_cell w4 _ 66 2 _ rfl, row_cell w4 _ 66 3 _ rfl, row_cell w4 _ 66 4 _ rfl⟩
theorem set_keep {w : World} {g i j : Nat} {v x : Value} (h : w.cell? ⟨g, j, none⟩ = some x) (hne : j ≠ i) : (w.setCell ⟨g, i, none⟩ v).cell? ⟨g, j, none⟩ = some x :=
  (World.cell?_setCell_other _ _ _ _ (fun e => hne (by injection e with _ q; exact q.symm))).trans h
theorem cutA {w w4 : World} {f0 f1 f2 f3 f4 er : Int} {g : Nat} {x0 x1 x2 x3 x4 : Value} (h : Fr (fun _ => False) w w4) (hg : w.heap.size ≤ g)
    (b0 : w4.cell? ⟨g, 0, none⟩ = some x0) (b1 : w4.cell? ⟨g, 1, none⟩ = some x1) (b2 : w4.cell? ⟨g, 2, none⟩ = some x2) (b3 : w4.cell? ⟨g, 3, none⟩ = some x3) (b4 : w4.cell? ⟨g, 4, none⟩ = some x4) :
    StepCut w f0 f1 f2 f3 f4 er (.pointer (some ⟨g, 0, none⟩)) (.int .i64 er) (((((w4.setCell ⟨g, 0, none⟩ (.int .i64 f0)).setCell ⟨g, 1, none⟩ (.int .i64 f1)).setCell ⟨g, 2, none⟩ (.int .i64 f2)).setCell ⟨g, 3, none⟩ (.int .i64 f3)).setCell ⟨g, 4, none⟩ (.int .i64 f4)) := by
  have d : ∀ {a b : Nat}, a ≠ b → a ≠ b := fun h => h
  refine ⟨g, rfl, rfl, Lib.hid (fr_set (fr_set (fr_set (fr_set (fr_set h hg _ _) hg _ _) hg _ _) hg _ _) hg _ _), ?_, ?_, ?_, ?_, ?_⟩
  · exact set_keep (set_keep (set_keep (set_keep (World.cell?_setCell_same _ _ _ b0) (by decide)) (by decide)) (by decide)) (by decide)
  · exact set_keep (set_keep (set_keep (World.cell?_setCell_same _ _ _ (set_keep b1 (by decide))) (by decide)) (by decide)) (by decide)
  · exact set_keep (set_keep (World.cell?_setCell_same _ _ _ (set_keep (set_keep b2 (by decide)) (by decide))) (by decide)) (by decide)
  · exact set_keep (World.cell?_setCell_same _ _ _ (set_keep (set_keep (set_keep b3 (by decide)) (by decide)) (by decide))) (by decide)
  · exact World.cell?_setCell_same _ _ _ (set_keep (set_keep (set_keep (set_keep b4 (by decide)) (by decide)) (by decide)) (by decide))
def StepFacts (w : World) (rb : Nat) (n c k : Nat) (cb co : Nat) (u : Int) : Prop :=
  w.cell? ⟨rb, 9, none⟩ = some (.int .i64 0) ∧ w.cell? ⟨rb, 4, none⟩ = some (.int .i64 ((4 * k : Nat) : Int)) ∧ w.cell? ⟨rb, 0, none⟩ = some (.slice (some ⟨cb, co, none⟩) n c) ∧ k < n ∧ 4 * k ≤ 4294967295 ∧ w.cell? ⟨cb, co + k, none⟩ = some (.int .u32 u)
def FailPost (rb : Nat) (w : World) (e : Ending) (w' : World) : Prop :=
  e = .returned (.tuple #[]) ∧ ∃ w1, Fr (fun _ => False) w w1 ∧ w.heap.size < w1.heap.size ∧ (∀ r, r < 32 → w1.cell? ⟨w.heap.size, r, none⟩ = some (.int .u32 0) ∧ w1.frozen? ⟨w.heap.size, r, none⟩ = false) ∧
    w' = (((w1.setCell ⟨rb, 3, none⟩ (.slice (some ⟨w.heap.size, 0, none⟩) 32 32)).setCell ⟨rb, 4, none⟩ (.int .i64 0)).setCell ⟨rb, 5, none⟩ (.int .u32 0)).setCell ⟨rb, 6, none⟩ (.int .u32 0)
theorem made32 {w w1 : World} (h : w1.ownsRow w.heap.size 40 1 (.slice (some ⟨w.heap.size, 0, none⟩) 32 32) 32 (madeCells (Value.int .u32 0).cells (32 * 1)).toList) : (∀ r, r < 32 → w1.cell? ⟨w.heap.size, r, none⟩ = some (.int .u32 0) ∧ w1.frozen? ⟨w.heap.size, r, none⟩ = false) ∧ w.heap.size < w1.heap.size := by
  have e : (madeCells (Value.int .u32 0).cells (32 * 1)).toList = List.replicate 32 (.int .u32 0) := by kernel_rfl
  rw [e] at h
  refine ⟨fun r hr => ⟨?_, h.frozenAt r⟩, ((h.lt) w.heap.size rfl).2⟩
  have := h.cellAt r (by simpa using hr)
  rw [this, List.getElem?_replicate, if_pos hr]
set_option maxRecDepth 100000 in
set_option maxHeartbeats 2000000 in
theorem rm_fail (rb : Nat) (v3 : Value) (p q i : Int) (w : World) (h9 : w.cell? ⟨rb, 9, none⟩ = some (.int .i64 0)) (h3 : w.cell? ⟨rb, 3, none⟩ = some v3) (h4 : w.cell? ⟨rb, 4, none⟩ = some (.int .i64 p)) (h5 : w.cell? ⟨rb, 5, none⟩ = some (.int .u32 q)) (h6 : w.cell? ⟨rb, 6, none⟩ = some (.int .u32 i))
    (f3 : w.frozen? ⟨rb, 3, none⟩ = false) (f4 : w.frozen? ⟨rb, 4, none⟩ = false) (f5 : w.frozen? ⟨rb, 5, none⟩ = false) (f6 : w.frozen? ⟨rb, 6, none⟩ = false) :
    Calls Tryz.prog 18 #[.pointer (some ⟨rb, 0, none⟩)] w (FailPost rb w) := by
  obtain ⟨i0, hi, hz0, hz1, hz2⟩ := info_parts info24
  have b2 : i0.bytes * 32 ≤ 281474976710656 := by rw [hz2]; omega
  have b3 : 32 ≤ maxLen := by unfold maxLen; omega
  obtain ⟨g, hg⟩ : ∃ g, w.heap.size = g := ⟨_, rfl⟩
  have HGZ := Lib.hid hg
  have HM : Hid (∀ w1, w1.ownsRow w.heap.size 40 1 (.slice (some ⟨w.heap.size, 0, none⟩) 32 32) 32 (madeCells (Value.int .u32 0).cells (32 * 1)).toList → w.grownBy w1 none →
      Hid (Fr (fun _ => False) w w1 ∧ w.heap.size < w1.heap.size ∧ (∀ r, r < 32 → w1.cell? ⟨w.heap.size, r, none⟩ = some (.int .u32 0) ∧ w1.frozen? ⟨w.heap.size, r, none⟩ = false)) ∧
      (w1.cell? ⟨rb, 3, none⟩ = some v3 ∧ w1.frozen? ⟨rb, 3, none⟩ = false) ∧ (w1.cell? ⟨rb, 4, none⟩ = some (.int .i64 p) ∧ w1.frozen? ⟨rb, 4, none⟩ = false) ∧ (w1.cell? ⟨rb, 5, none⟩ = some (.int .u32 q) ∧ w1.frozen? ⟨rb, 5, none⟩ = false) ∧ (w1.cell? ⟨rb, 6, none⟩ = some (.int .u32 i) ∧ w1.frozen? ⟨rb, 6, none⟩ = false)) :=
    Lib.hid (fun w1 hown hgr => by
      have hf : Fr (fun _ => False) w w1 := Fr.of_by0 hgr
      have hm := made32 hown
      exact ⟨Lib.hid ⟨hf, hm.2, hm.1⟩, ⟨hf.cell h3 id, (hf.frozen h3 id).trans f3⟩, ⟨hf.cell h4 id, (hf.frozen h4 id).trans f4⟩, ⟨hf.cell h5 id, (hf.frozen h5 id).trans f5⟩, ⟨hf.cell h6 id, (hf.frozen h6 id).trans f6⟩⟩)
  go_enter Tryz.func18, Tryz.ntmps18
  clear hg
  go_wp2_with (refine wpList_make_full _ rfl _ _ 22 rfl w.heap.size 40 i0 _ 1 Tryz.underlying22 hi hz0 hz1 .i64 .i64 (32 : Int) (32 : Int) 32 (by rfl) (by rfl) rfl rfl b2 b3 (Nat.le_refl _) ?_; intro w1 hown hgr; obtain ⟨HF, ⟨g3, k3⟩, ⟨g4, k4⟩, ⟨g5, k5⟩, ⟨g6, k6⟩⟩ := HM.out w1 hown hgr; clear hown hgr)
  go_end0
  exact ⟨rfl, w1, HF.out.1, HF.out.2.1, HF.out.2.2, rfl⟩
theorem RAt.setRegs {base : Nat} {w : World} {R : RLay} {gb g : Nat} {lv : Value} {s : MSt} (h : RAt base w R gb lv s) (hw : RWf base R gb lv) (hg : g ≠ R.rb) (hc : ∀ r, r < 32 → w.cell? ⟨g, r, none⟩ = some (.int .u32 0) ∧ w.frozen? ⟨g, r, none⟩ = false) :
    RAt base (w.setCell ⟨R.rb, 3, none⟩ (.slice (some ⟨g, 0, none⟩) 32 32)) R g lv { s with c := fun o => if o < 32 then 0 else s.c o } := by
  have hx : ∀ o', o' ≠ 3 → (w.setCell ⟨R.rb, 3, none⟩ (.slice (some ⟨g, 0, none⟩) 32 32)).cell? ⟨R.rb, o', none⟩ = w.cell? ⟨R.rb, o', none⟩ := fun o' hne =>
    World.cell?_setCell_other _ _ _ _ (fun e => hne (by injection e with e1 e2; exact e2.symm))
  have hy : ∀ (b o' : Nat), b ≠ R.rb → (w.setCell ⟨R.rb, 3, none⟩ (.slice (some ⟨g, 0, none⟩) 32 32)).cell? ⟨b, o', none⟩ = w.cell? ⟨b, o', none⟩ := fun b o' hne =>
    World.cell?_setCell_other _ _ _ _ (fun e => hne (by injection e with e1 e2; exact e1.symm))
  have hF := Fr.setCell (F := fun k => k = R.rb) w ⟨R.rb, 3, none⟩ (.slice (some ⟨g, 0, none⟩) 32 32) rfl
  refine ⟨fun o' ho' => ?_, ?_, ?_, ?_, ?_, ?_, hF.owns h.own (fun k hk e => (hw.lb k hk).1 e), fun o' ho' => (World.frozen?_setCell _ _ _ _).trans (h.free o' ho'), fun r hr => ?_, fun r hr => (World.frozen?_setCell _ _ _ _).trans (hc r hr).2, fun k hk => ?_, fun k hk => (World.frozen?_setCell _ _ _ _).trans (h.dfree k hk),
    h.words.kept hF (fun _ x e q => hw.ca x e (.inl q)), h.inputs.kept hF (fun p x e q => hw.ia p x e (.inl q)), fun o' ho' => ?_, fun o' ho' hk => ?_, h.bd, by simpa [World.setCell] using h.bb, fun p a e => by simpa [World.setCell] using h.ilt p a e⟩
  · have := ridx_ge o'
    rw [hx o' (by unfold isR at ho'; omega), h.num o' ho']
    show _ = some (Value.int (rkind o') (if ridx o' < 32 then 0 else s.c (ridx o')))
    rw [if_neg (by omega)]
  · rw [hx 0 (by omega)]; exact h.code
  · rw [hx 1 (by omega)]; exact h.dat
  · rw [hx 2 (by omega)]; exact h.inp
  · exact World.cell?_setCell_same _ _ _ h.regs
  · rw [hx 7 (by omega)]; exact h.logv
  · rw [hy _ _ hg, (hc r hr).1]
    show _ = some (Value.int .u32 (if r < 32 then 0 else s.c r))
    rw [if_pos hr]
  · rw [hy _ _ hw.db]; exact h.byte k hk
  · show 0 ≤ (if o' < 32 then 0 else s.c o')
    split
    · exact Int.le_refl _
    · exact h.bw o' ho'
  · show (if o' < 32 then 0 else s.c o') ≤ 4294967295
    split
    · decide
    · exact h.bu o' ho' hk
theorem fail_is (s : MSt) : ({ s with c := updN (updN (updN (fun o => if o < 32 then 0 else s.c o) 32 0) 33 0) 34 0 } : MSt) = failM s := by
  unfold failM
  congr 1
  funext o
  unfold updN
  by_cases h : o < 32
  · rw [if_neg (by omega), if_neg (by omega), if_neg (by omega)]
    show (if o < 32 then 0 else s.c o) = _
    rw [if_pos h, if_pos (by omega)]
  · by_cases h2 : o < 35
    · rw [if_pos h2]
      have : o = 32 ∨ o = 33 ∨ o = 34 := by omega
      rcases this with rfl | rfl | rfl <;> simp
    · rw [if_neg (by omega), if_neg (by omega), if_neg (by omega)]
      show (if o < 32 then 0 else s.c o) = _
      rw [if_neg h, if_neg h2]
theorem rm_fail_at {base : Nat} {R : RLay} {gb : Nat} {lv : Value} {s : MSt} {w : World} (h : RAt base w R gb lv s) (hw : RWf base R gb lv) (h0 : s.c 40 = 0) :
    Calls Tryz.prog 18 #[.pointer (some ⟨R.rb, 0, none⟩)] w fun e w' => e = .returned (.tuple #[]) ∧ ROkay base R gb lv w w' (failM s) := by
  have h9 : w.cell? ⟨R.rb, 9, none⟩ = some (.int .i64 0) := by rw [← h0]; exact h.num 9 (.inr (.inr (.inr (.inr (.inl rfl)))))
  obtain ⟨lb, ld, lg, lc⟩ := h.blocks hw
  refine (rm_fail R.rb _ (s.c 32) (s.c 33) (s.c 34) w h9 h.regs (h.num 4 (.inl rfl)) (h.num 5 (.inr (.inl rfl))) (h.num 6 (.inr (.inr (.inl rfl)))) (h.free 3 (by decide)) (h.free 4 (by decide)) (h.free 5 (by decide)) (h.free 6 (by decide))).mono ?_
  rintro e w' ⟨rfl, w1, hf, hs, hc, rfl⟩
  refine ⟨rfl, ?_⟩
  have hw2 : RWf base R w.heap.size lv := by
    have hl : ∀ a : Addr, a.block < w.heap.size → ¬ RFoot R gb lv a.block → ¬ RFoot R w.heap.size lv a.block := by
      rintro a ha hn (e | e | e | e)
      · exact hn (.inl e)
      · exact hn (.inr (.inl e))
      · omega
      · exact hn (.inr (.inr (.inr e)))
    refine ⟨hw.db, ⟨by omega, by omega⟩, fun g hg => ?_, fun a ha => hl a (lc a ha) (hw.ca a ha), fun p a ha => hl a (h.ilt p a ha) (hw.ia p a ha), hw.dn, hw.wn, hw.inn, hw.wb, hw.insb⟩
    have := (h.own.lt g hg).2
    exact ⟨(hw.lb g hg).1, (hw.lb g hg).2.1, by omega⟩
  have a1 := (h.grown0 hf).setRegs hw (g := w.heap.size) (by omega) hc
  have a2 := a1.setNum hw2 4 (.inl rfl) 0 (by decide) (fun _ => by decide)
  have a3 := a2.setNum hw2 5 (.inr (.inl rfl)) 0 (by decide) (fun _ => by decide)
  have a4 := a3.setNum hw2 6 (.inr (.inr (.inl rfl))) 0 (by decide) (fun _ => by decide)
  have e : ({ s with c := updN (updN (updN (fun o => if o < 32 then 0 else s.c o) (ridx 4) 0) (ridx 5) 0) (ridx 6) 0 } : MSt) = failM s := fail_is s
  refine ⟨w.heap.size, lv, ?_, hw2, ?_, ?_⟩
  · rw [← e]; exact a4
  · refine (hf.mono (G := RFoot R gb lv) (fun _ _ f => f.elim)).trans ?_
    exact (((Fr.setCell (F := RFoot R gb lv) _ _ _ (.inl rfl)).trans (Fr.setCell (F := RFoot R gb lv) _ _ _ (.inl rfl))).trans (Fr.setCell (F := RFoot R gb lv) _ _ _ (.inl rfl))).trans (Fr.setCell (F := RFoot R gb lv) _ _ _ (.inl rfl))
  · rintro g (rfl | hg)
    · exact .inr (Nat.le_refl _)
    · exact .inl (.inr hg)
end Go.Proofs.YthhahfggbjegmaaGreat
