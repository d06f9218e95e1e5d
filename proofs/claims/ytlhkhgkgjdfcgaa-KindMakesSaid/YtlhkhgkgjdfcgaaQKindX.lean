/-
  Tables of types (layer 8): Struct.
-/
import Derived.Test.YtlhkhgkgjdfcgaaQKindW
import Derived.RegionTactic
import Derived.Outline
namespace Go.Proofs.Ytlhkhgkgjdfcgaa
open Go.RowKit
set_option linter.unusedVariables false
set_option linter.unusedSimpArgs false
theorem fr_drew {F : Nat → Prop} {w w1 : World} (h : Fr F w w1) : Fr F w w1.drew := ⟨h.os, h.output, h.size, h.block⟩
set_option maxRecDepth 100000 in
set_option maxHeartbeats 1000000 in
theorem struct_done {base : Nat} {w : World} {tb : Nat} {v : Value} {es : List Ent} (h : TabAt base w tb v es) (nm : ByteArray) (a : Option Addr) (n c : Nat) (fs : List Fld) (hfs : FldAt w a n fs) (hlen : 1 ≤ fs.length ∧ fs.length ≤ 1000) (hs : Sized es fs) (hnm : ∀ f ∈ fs, f.name.size ≤ maxLen)
    (hk : findK es nm < es.length) (ho : ((es.getD (findK es nm) ent0).fn == 0) = true) (hc0 : chk es fs = 0) (hz : upI (layS es fs fs.length).1 (layS es fs fs.length).2.1 ≤ 32768) :
    Calls Try.prog 28 #[.pointer (some ⟨tb, 0, none⟩), .string nm, .slice a n c] w fun r w' => r = .returned (.tuple #[.int .i64 (3 + (findK es nm : Int)), .int .i64 0]) ∧ ∃ g c, w.heap.size ≤ g ∧ g < w'.heap.size ∧ TabAt base w' tb v (es.set (findK es nm) (laidE es nm fs g c)) ∧ FldAt w' (some ⟨g, 0, none⟩) fs.length (layS es fs fs.length).2.2 ∧ Fr (fun k => v.ownBlock = some k) w w' := by
  obtain ⟨a2, c2, hv, hc⟩ := h.form
  obtain ⟨gt, ha2, hgt, hcell⟩ := hc _ hk
  subst ha2
  subst hv
  have HT := Lib.hid h
  have H1 : Hid (Calls Try.prog 21 #[.pointer (some ⟨tb, 0, none⟩), .string nm] w fun r w' => r = .returned (.tuple #[.int .i64 (3 + (findK es nm : Int)), .int .i64 0]) ∧ Fr (fun _ => False) w w') :=
    Lib.hid ((find_of h nm).mono fun r w' h => by unfold FindP at h; rw [if_pos hk, if_pos hk] at h; exact h)
  have H2 : Hid (∀ W, Fr (fun _ => False) w W → Calls Try.prog 40 #[.pointer (some ⟨tb, 0, none⟩), .int .i64 (3 + (findK es nm : Int))] W fun r w' => r = .returned (.bool true) ∧ W = w') :=
    Lib.hid fun W hW => by have := open_at (h.kept hW id (fun _ _ => id)) _ hk; rw [ho] at this; exact this
  have H3 : Hid (∀ W, Fr (fun _ => False) w W → Calls Try.prog 41 #[.pointer (some ⟨tb, 0, none⟩), .slice a n c] W fun r w' => r = .returned (.int .i64 0) ∧ Fr (fun _ => False) W w') :=
    Lib.hid fun W hW => by have := check_of (h.kept hW id (fun _ _ => id)) a n c fs (hfs.quiet hW) hlen.2 hnm; rw [hc0] at this; exact this
  obtain ⟨sz, hsz⟩ : ∃ sz, upI (layS es fs fs.length).1 (layS es fs fs.length).2.1 = sz := ⟨_, rfl⟩
  obtain ⟨al, hal⟩ : ∃ al, (layS es fs fs.length).2.1 = al := ⟨_, rfl⟩
  have H4 : Hid (∀ W, Fr (fun _ => False) w W → Calls Try.prog 42 #[.pointer (some ⟨tb, 0, none⟩), .string nm, .slice a n c] W fun r w' => ∃ g c3, r = .returned (.agg #[.int .i64 5, .int .i64 0, .int .i64 0, .string nm, .slice (some ⟨g, 0, none⟩) fs.length c3, .int .i64 sz, .int .i64 al]) ∧
      Fr (fun _ => False) w w' ∧ w.heap.size ≤ g ∧ g < w'.heap.size ∧ FldAt w' (some ⟨g, 0, none⟩) fs.length (layS es fs fs.length).2.2) :=
    Lib.hid fun W hW => (lay_of (h.kept hW id (fun _ _ => id)) nm a n c fs (hfs.quiet hW) hlen hs).mono fun r w' hr => by
      obtain ⟨g, c3, e1, e2, e3⟩ := hr
      rw [hsz, hal] at e1
      obtain ⟨l1, l2⟩ := e2.lt g rfl
      have := hW.size
      exact ⟨g, c3, e1, hW.trans e3, by omega, l2, FldAt.of_own e2 ((layS_bound hs fs.length (Nat.le_refl _)).2.2.2.2.2).symm⟩
  rw [hsz] at hz
  have hx := h.cell
  have hf := h.few
  have hne : gt ≠ tb := by have := h.ne; simp only [Value.ownBlock, ne_eq, Option.some.injEq] at this; exact this
  have HSZ := Lib.hid (show upI (layS es fs fs.length).1 (layS es fs fs.length).2.1 = sz ∧ (layS es fs fs.length).2.1 = al from ⟨hsz, hal⟩)
  obtain ⟨m, hm⟩ : ∃ m, es.length = m := ⟨_, rfl⟩
  obtain ⟨k, hkk⟩ : ∃ k, findK es nm = k := ⟨_, rfl⟩
  rw [hkk] at H1 H2 hk hcell ⊢
  obtain ⟨q, hq⟩ : ∃ q, fs.length = q := ⟨_, rfl⟩
  rw [hq] at H4
  have HQ := Lib.hid hq
  have HK := Lib.hid hk
  rw [hm] at hx hf hk
  have HM := Lib.hid hm
  have t1 : (3 : Int) + k - 3 = k := by omega
  have t3 : (0 : Int) ≤ k := by omega
  have t4 : (k : Int) < m := by omega
  have hzb : decide (32768 < sz) = false := decide_eq_false (by omega)
  have hcells : ∀ j, j < 7 → ∃ x, w.cell? ⟨gt, k * 7 + j, none⟩ = some x ∧ w.frozen? ⟨gt, k * 7 + j, none⟩ = false := fun j hj => by
    have h1 : ∃ x, (es.getD k ent0).vals[j]? = some x := ⟨_, List.getElem?_eq_getElem (by simpa [Ent.vals] using hj)⟩
    obtain ⟨x, h1⟩ := h1
    refine ⟨x, (hcell j hj).trans h1, ?_⟩
    rcases h.own.2 with ⟨e1, _⟩ | ⟨g', cap, cur, hv, hb, hg, _⟩
    · cases e1
    · injection hv with e1 e2 e3
      injection e1 with e1
      injection e1 with e1
      subst e1
      simp [World.frozen?, hg]
  have HCE := Lib.hid hcells
  have HF := Lib.hid (Fr.refl (fun _ => False) w)
  clear h hc hcell hcells hfs hlen hs hnm ho hc0 hsz hal hm hkk hq hz
  go_enter Try.func28, Try.ntmps28
  go_wp2_with (first
    | (go_at_call 21; (with_reducible refine H1.out.mono ?_); rintro r w1 ⟨rfl, hf⟩; have HV1 := Lib.hid hf; clear hf)
    | (go_at_call 40; (with_reducible refine (H2.out _ HV1.out).mono ?_); rintro r w2 ⟨rfl, rfl⟩)
    | (go_at_call 41; (with_reducible refine (H3.out _ HV1.out).mono ?_); rintro r w3 ⟨rfl, hf⟩; have HV3 := Lib.hid (HV1.out.trans hf); clear hf)
    | (go_at_call 42; (with_reducible refine (H4.out _ HV3.out).mono ?_); rintro r w4 ⟨g, c3, rfl, hfr4, g1, g2, hfl⟩; have HV4 := Lib.hid hfr4; clear hfr4; have HFL := Lib.hid hfl; clear hfl))
  obtain ⟨bx, hbx⟩ : ∃ bx, w4.heap.size = bx := ⟨_, rfl⟩
  obtain ⟨W5, hW5⟩ : ∃ W5, w4.alloc (.cells #[.int .i64 5, .int .i64 0, .int .i64 0, .string nm, .slice (some ⟨g, 0, none⟩) q c3, .int .i64 sz, .int .i64 al] 72) = W5 := ⟨_, rfl⟩
  have F5 : Fr (fun _ => False) w W5 := by rw [← hW5]; exact fr_al HV4.out _
  have F45 : Fr (fun _ => False) w4 W5 := by rw [← hW5]; exact fr_al (Fr.refl _ _) _
  have z0 : W5.cell? ⟨bx, 0, none⟩ = some (.int .i64 5) := by rw [← hW5, ← hbx]; exact fcell w4 _ _ 0 _ rfl
  have z1 : W5.cell? ⟨bx, 1, none⟩ = some (.int .i64 0) := by rw [← hW5, ← hbx]; exact fcell w4 _ _ 1 _ rfl
  have z2 : W5.cell? ⟨bx, 2, none⟩ = some (.int .i64 0) := by rw [← hW5, ← hbx]; exact fcell w4 _ _ 2 _ rfl
  have z3 : W5.cell? ⟨bx, 3, none⟩ = some (.string nm) := by rw [← hW5, ← hbx]; exact fcell w4 _ _ 3 _ rfl
  have z4 : W5.cell? ⟨bx, 4, none⟩ = some (.slice (some ⟨g, 0, none⟩) q c3) := by rw [← hW5, ← hbx]; exact fcell w4 _ _ 4 _ rfl
  have z5 : W5.cell? ⟨bx, 5, none⟩ = some (.int .i64 sz) := by rw [← hW5, ← hbx]; exact fcell w4 _ _ 5 _ rfl
  have z6 : W5.cell? ⟨bx, 6, none⟩ = some (.int .i64 al) := by rw [← hW5, ← hbx]; exact fcell w4 _ _ 6 _ rfl
  have hx5 := F5.cell hx id
  obtain ⟨r0, hr0, hf0⟩ := HCE.out 0 (by decide)
  have y0 : W5.cell? ⟨gt, k * 7, none⟩ = some r0 := F5.cell hr0 id
  have f0 : W5.frozen? ⟨gt, k * 7, none⟩ = false := (F5.frozen hr0 id).trans hf0
  obtain ⟨r1, hr1, hf1⟩ := HCE.out 1 (by decide)
  have y1 := F5.cell hr1 id
  have f1 := (F5.frozen hr1 id).trans hf1
  obtain ⟨r2, hr2, hf2⟩ := HCE.out 2 (by decide)
  have y2 := F5.cell hr2 id
  have f2 := (F5.frozen hr2 id).trans hf2
  obtain ⟨r3, hr3, hf3⟩ := HCE.out 3 (by decide)
  have y3 := F5.cell hr3 id
  have f3 := (F5.frozen hr3 id).trans hf3
  obtain ⟨r4, hr4, hf4⟩ := HCE.out 4 (by decide)
  have y4 := F5.cell hr4 id
  have f4 := (F5.frozen hr4 id).trans hf4
  obtain ⟨r5, hr5, hf5⟩ := HCE.out 5 (by decide)
  have y5 := F5.cell hr5 id
  have f5 := (F5.frozen hr5 id).trans hf5
  obtain ⟨r6, hr6, hf6⟩ := HCE.out 6 (by decide)
  have y6 := F5.cell hr6 id
  have f6 := (F5.frozen hr6 id).trans hf6
  rw [hW5, hbx]
  have HF5 := Lib.hid F5
  have HF45 := Lib.hid F45
  have hgne : g ≠ gt := by omega
  have hg2 : g < W5.heap.size := by have := F45.size; omega
  clear hW5 hbx hx F5 F45 g2 hr0 hr1 hr2 hr3 hr4 hr5 hr6 hf0 hf1 hf2 hf3 hf4 hf5 hf6
  go_region
  all_goals go_wp2
  go_ret2
  have hh : es.length = m := HM.out
  have hk2 : k < es.length := by omega
  have T5 := HT.out.kept HF5.out id (fun _ _ => id)
  obtain ⟨x0, hx0⟩ : ∃ x0 : Ent, x0 = ⟨5, 0, 0, nm, some ⟨g, 0, none⟩, q, c3, sz, al⟩ := ⟨_, rfl⟩
  have e : laidE es nm fs g c3 = x0 := by rw [hx0]; unfold laidE; rw [HSZ.out.1, HSZ.out.2, HQ.out]
  have hch : putE W5 gt (k * 7) x0 = ((((((W5.setCell ⟨gt, k * 7, none⟩ (.int .i64 5)).setCell ⟨gt, k * 7 + 1, none⟩ (.int .i64 0)).setCell ⟨gt, k * 7 + 2, none⟩ (.int .i64 0)).setCell ⟨gt, k * 7 + 3, none⟩ (.string nm)).setCell ⟨gt, k * 7 + 4, none⟩ (.slice (some ⟨g, 0, none⟩) q c3)).setCell ⟨gt, k * 7 + 5, none⟩ (.int .i64 sz)).setCell ⟨gt, k * 7 + 6, none⟩ (.int .i64 al) := by rw [hx0]; rfl
  rw [← hch]
  have P := T5.put k hk2 x0
  have FP := putE_fr W5 gt (k * 7) x0
  obtain ⟨W6, hW6⟩ : ∃ W6, putE W5 gt (k * 7) x0 = W6 := ⟨_, rfl⟩
  rw [hW6] at P FP ⊢
  clear hch hW6
  obtain ⟨W7, hW7⟩ : ∃ W7, W6.drew = W7 := ⟨_, rfl⟩
  have F7 : Fr (fun _ => False) W6 W7 := hW7 ▸ fr_drew (Fr.refl _ _)
  rw [hW7]
  clear hW7
  refine ⟨rfl, g, c3, g1, ?_, ?_, ?_, ?_⟩
  · have := FP.size; have := F7.size; omega
  · rw [e]; exact P.kept F7 id (fun _ _ => id)
  · have h1 := ((HFL.out.quiet HF45.out).kept FP (fun g' o h _ => by injection h with h; injection h with h; omega)).quiet F7
    rw [HQ.out]; exact h1
  · exact (HF5.out.mono (fun _ _ f => f.elim)).trans ((FP.mono (G := fun j => (Value.slice (some ⟨gt, 0, none⟩) es.length c2).ownBlock = some j) (fun j _ e => by rw [e]; rfl)).trans (F7.mono (fun _ _ f => f.elim)))
end Go.Proofs.Ytlhkhgkgjdfcgaa
