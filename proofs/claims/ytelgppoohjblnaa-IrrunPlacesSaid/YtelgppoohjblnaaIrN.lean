/-
  Runs (layer 14): the run of the page's module.
-/
import Derived.Test.YtelgppoohjblnaaIrM
import Derived.LoopN
import Derived.StillTailTactics
namespace Go.Proofs.Ytelgppoohjblnaa
open Go.RowKit
set_option linter.unusedVariables false
set_option linter.unusedSimpArgs false
/-- The page's run between steps. -/
structure StM (mb cb rb bi bb bx cap : Nat) (gl da pr mn me at_ fl fr : Value) (w0 w : World) (o ns fu nx r : Value) : Prop where
  m : RW w mb (mch o ns (.int .u32 0) (.int .i64 0) gl da pr mn (.slice (some ⟨bx, 0, none⟩) 1 1) fu me at_ fl fr (.slice (some ⟨cb, 0, none⟩) 1 cap))
  c : RW w cb (cll (.slice (some ⟨rb, 0, none⟩) 1 1) (.int .i64 0) (.pointer (some ⟨bb, 0, none⟩)) nx (.int .i64 65536) (.int .i64 (-1)))
  r : RW w rb #[r]
  i : Row w bi ins22
  b : Row w bb #[.slice (some ⟨bi, 0, none⟩) 2 2, .int .i64 3, .int .i64 0, .int .i64 0, .int .i64 0]
  x : w.cell? ⟨bx, 0, none⟩ = some (.int .u32 300)
  fr : Fr (fun k => k = mb ∨ k = cb ∨ k = rb) w0 w
/-- The blocks are all different. -/
structure Apart6 (mb cb rb bi bb bx : Nat) : Prop where
  a1 : cb ≠ mb
  a2 : rb ≠ mb
  a3 : bi ≠ mb
  a4 : bb ≠ mb
  a5 : bx ≠ mb
  b1 : rb ≠ cb
  b2 : bi ≠ cb
  b3 : bb ≠ cb
  b4 : bx ≠ cb
  c1 : bi ≠ rb
  c2 : bb ≠ rb
  c3 : bx ≠ rb
section
variable {mb cb rb bi bb bx cap : Nat} {gl da pr mn me at_ fl fr : Value} {w0 w w' : World} {o ns fu nx r : Value}
theorem Row.frF {F : Nat → Prop} {w w' : World} {b : Nat} {A : Array Value} (h : Row w b A) (hf : Fr F w w') (hn : ¬ F b) : Row w' b A := fun j y hj => hf.cell (h j y hj) hn
theorem StM.fuel (h : StM mb cb rb bi bb bx cap gl da pr mn me at_ fl fr w0 w o ns fu nx r) (A : Apart6 mb cb rb bi bb bx) (v : Value) (n : Nat) : StM mb cb rb bi bb bx cap gl da pr mn me at_ fl fr w0 ((w.setCell ⟨mb, 9, none⟩ v).drewN n) o ns v nx r := by
  have hf : Fr (fun k => k = mb) w ((w.setCell ⟨mb, 9, none⟩ v).drewN n) := (Fr.setCell (F := fun k => k = mb) w ⟨mb, 9, none⟩ v rfl).drewN n
  exact ⟨(h.m.set (i := 9) (by show 9 < 15; decide)).drew n, h.c.fr hf A.a1, h.r.fr hf A.a2, h.i.frF hf A.a3, h.b.frF hf A.a4, hf.cell h.x A.a5, h.fr.trans (hf.mono (fun _ _ e => Or.inl e))⟩
theorem StM.next (h : StM mb cb rb bi bb bx cap gl da pr mn me at_ fl fr w0 w o ns fu nx r) (A : Apart6 mb cb rb bi bb bx) (v : Value) : StM mb cb rb bi bb bx cap gl da pr mn me at_ fl fr w0 (w.setCell ⟨cb, 3, none⟩ v) o ns fu v r := by
  have hf : Fr (fun k => k = cb) w (w.setCell ⟨cb, 3, none⟩ v) := Fr.setCell (F := fun k => k = cb) w ⟨cb, 3, none⟩ v rfl
  exact ⟨h.m.fr hf (fun e => A.a1 e.symm), h.c.set (i := 3) (by show 3 < 6; decide), h.r.fr hf A.b1, h.i.frF hf A.b2, h.b.frF hf A.b3, hf.cell h.x A.b4, h.fr.trans (hf.mono (fun _ _ e => Or.inr (Or.inl e)))⟩
theorem StM.drew (h : StM mb cb rb bi bb bx cap gl da pr mn me at_ fl fr w0 w o ns fu nx r) (n : Nat) : StM mb cb rb bi bb bx cap gl da pr mn me at_ fl fr w0 (w.drewN n) o ns fu nx r := ⟨h.m.drew n, h.c.drew n, h.r.drew n, h.i, h.b, h.x, h.fr.drewN n⟩
theorem StM.inn (h : StM mb cb rb bi bb bx cap gl da pr mn me at_ fl fr w0 w o (.int .i64 0) fu nx (.int .u32 0)) (A : Apart6 mb cb rb bi bb bx) {en : Ending} (k : ExInP mb bx cb rb bb o (.int .u32 0) (.int .i64 0) gl da pr mn fu me at_ fl fr (.slice (some ⟨cb, 0, none⟩) 1 cap) nx w en w') : en = .returned (.tuple #[]) ∧ StM mb cb rb bi bb bx cap gl da pr mn me at_ fl fr w0 w' o (.int .i64 1) fu nx (.int .u32 300) := by
  obtain ⟨rfl, hm, hc, hr, hf⟩ := k
  exact ⟨rfl, hm, hc, hr, h.i.frF hf (fun e => e.elim A.a3 A.c1), h.b.frF hf (fun e => e.elim A.a4 A.c2), hf.cell h.x (fun e => e.elim A.a5 A.c3), h.fr.trans (hf.mono (fun _ _ e => e.elim Or.inl (fun e => Or.inr (Or.inr e))))⟩
theorem StM.out (h : StM mb cb rb bi bb bx cap gl da pr mn me at_ fl fr w0 w (.slice none 0 0) ns fu nx (.int .u32 300)) (A : Apart6 mb cb rb bi bb bx) {en : Ending} (k : ExOutP mb cb rb bb bi ns (.int .u32 0) (.int .i64 0) gl da pr mn (.slice (some ⟨bx, 0, none⟩) 1 1) fu me at_ fl fr (.slice (some ⟨cb, 0, none⟩) 1 cap) nx w en w') :
    en = .returned (.tuple #[]) ∧ ∃ g oc, w0.heap.size ≤ g ∧ w'.cell? ⟨g, 0, none⟩ = some (.int .u32 300) ∧ g ≠ mb ∧ StM mb cb rb bi bb bx cap gl da pr mn me at_ fl fr w0 w' (.slice (some ⟨g, 0, none⟩) 1 oc) ns fu nx (.int .u32 300) := by
  obtain ⟨rfl, g, oc, hb, hm, hg, hf⟩ := k
  have hl := h.m.lt (by show 0 < 15; decide)
  have hs := h.fr.size
  exact ⟨rfl, g, oc, by omega, hg, by omega, hm, h.c.fr hf A.a1, h.r.fr hf A.a2, h.i.frF hf A.a3, h.b.frF hf A.a4, hf.cell h.x A.a5, h.fr.trans (hf.mono (fun _ _ e => Or.inl e))⟩
end
/-- The run's end. -/
def RunP (mb cb rb : Nat) (w : World) (en : Ending) (w' : World) : Prop := en = .returned (.tuple #[]) ∧ ∃ g oc, w'.cell? ⟨mb, 0, none⟩ = some (.slice (some ⟨g, 0, none⟩) 1 oc) ∧ w'.cell? ⟨mb, 1, none⟩ = some (.int .i64 1) ∧ w'.cell? ⟨mb, 2, none⟩ = some (.int .u32 44) ∧ w'.cell? ⟨mb, 3, none⟩ = some (.int .i64 0) ∧ w'.cell? ⟨g, 0, none⟩ = some (.int .u32 300) ∧ w.heap.size ≤ g ∧ Fr (fun k => k = mb ∨ k = cb ∨ k = rb) w w'
set_option maxRecDepth 100000 in
set_option maxHeartbeats 8000000 in
theorem run_main (mb cb rb bi bb bx cap : Nat) (gl da pr mn me at_ fl fr : Value) (w : World) (A : Apart6 mb cb rb bi bb bx) (h : StM mb cb rb bi bb bx cap gl da pr mn me at_ fl fr w w (.slice none 0 0) (.int .i64 0) (.int .i64 10) (.int .i64 0) (.int .u32 0)) : Calls Try.prog 27 #[.pointer (some ⟨mb, 0, none⟩)] w (RunP mb cb rb w) := by
  have HS0 := Lib.hid h
  have HA := Lib.hid A
  clear h A
  have a13 : w.cell? ⟨mb, 3, none⟩ = some (.int .i64 0) := HS0.out.m.1 3 _ rfl
  have a114 : w.cell? ⟨mb, 14, none⟩ = some (.slice (some ⟨cb, 0, none⟩) 1 cap) := HS0.out.m.1 14 _ rfl
  have a19 : w.cell? ⟨mb, 9, none⟩ = some (.int .i64 10) := HS0.out.m.1 9 _ rfl
  have za19 : w.frozen? ⟨mb, 9, none⟩ = false := HS0.out.m.2 9 (by show 9 < 15; decide)
  have a1c3 : w.cell? ⟨cb, 3, none⟩ = some (.int .i64 0) := HS0.out.c.1 3 _ rfl
  have za1c3 : w.frozen? ⟨cb, 3, none⟩ = false := HS0.out.c.2 3 (by show 3 < 6; decide)
  have a1c2 : w.cell? ⟨cb, 2, none⟩ = some (.pointer (some ⟨bb, 0, none⟩)) := HS0.out.c.1 2 _ rfl
  have a1b0 : w.cell? ⟨bb, 0, none⟩ = some (.slice (some ⟨bi, 0, none⟩) 2 2) := HS0.out.b 0 _ rfl
  go_enter Try.func27, Try.ntmps27
  go_wp2
  refine wp_loop_rounds 4 ?_
  have H141 : Hid ((w.setCell ⟨mb, 9, none⟩ (.int .i64 9)).cell? ⟨mb, 14, none⟩ = some (.slice (some ⟨cb, 0, none⟩) 1 cap)) := Lib.hid ((HS0.out.m.set (i := 9) (v := .int .i64 9) (by show 9 < 15; decide)).1 14 _ rfl)
  rw [rounds_succ]
  go_wp2_with (go_at_call 44; (with_reducible refine (current_ok mb cb cap _ H141.out).mono ?_); rintro en u1 ⟨rfl, n1, hw1⟩; have HB1 : Hid (StM mb cb rb bi bb bx cap gl da pr mn me at_ fl fr w u1 (.slice none 0 0) (.int .i64 0) (.int .i64 9) (.int .i64 0) (.int .u32 0)) := Lib.hid (hw1 ▸ HS0.out.fuel HA.out (.int .i64 9) n1); clear hw1; clear a13 a114 a19 za19 a1c3 za1c3 a1c2 a1b0; have b13 : u1.cell? ⟨mb, 3, none⟩ = some (.int .i64 0) := HB1.out.m.1 3 _ rfl; have b114 : u1.cell? ⟨mb, 14, none⟩ = some (.slice (some ⟨cb, 0, none⟩) 1 cap) := HB1.out.m.1 14 _ rfl; have b19 : u1.cell? ⟨mb, 9, none⟩ = some (.int .i64 9) := HB1.out.m.1 9 _ rfl; have zb19 : u1.frozen? ⟨mb, 9, none⟩ = false := HB1.out.m.2 9 (by show 9 < 15; decide); have b1c3 : u1.cell? ⟨cb, 3, none⟩ = some (.int .i64 0) := HB1.out.c.1 3 _ rfl; have zb1c3 : u1.frozen? ⟨cb, 3, none⟩ = false := HB1.out.c.2 3 (by show 3 < 6; decide); have b1c2 : u1.cell? ⟨cb, 2, none⟩ = some (.pointer (some ⟨bb, 0, none⟩)) := HB1.out.c.1 2 _ rfl; have b1b0 : u1.cell? ⟨bb, 0, none⟩ = some (.slice (some ⟨bi, 0, none⟩) 2 2) := HB1.out.b 0 _ rfl)
  go_quiet (fail)
  go_wp2
  have HC1 : Hid (StM mb cb rb bi bb bx cap gl da pr mn me at_ fl fr w ((u1.drewN nq).setCell ⟨cb, 3, none⟩ (.int .i64 1)) (.slice none 0 0) (.int .i64 0) (.int .i64 9) (.int .i64 1) (.int .u32 0)) := Lib.hid ((HB1.out.drew nq).next HA.out (.int .i64 1))
  generalize (u1.drewN nq).setCell ⟨cb, 3, none⟩ (.int .i64 1) = X1 at *
  clear b13 b114 b19 zb19 b1c3 zb1c3 b1c2 b1b0
  have c13 : X1.cell? ⟨mb, 3, none⟩ = some (.int .i64 0) := HC1.out.m.1 3 _ rfl
  have c114 : X1.cell? ⟨mb, 14, none⟩ = some (.slice (some ⟨cb, 0, none⟩) 1 cap) := HC1.out.m.1 14 _ rfl
  have c19 : X1.cell? ⟨mb, 9, none⟩ = some (.int .i64 9) := HC1.out.m.1 9 _ rfl
  have zc19 : X1.frozen? ⟨mb, 9, none⟩ = false := HC1.out.m.2 9 (by show 9 < 15; decide)
  have c1c3 : X1.cell? ⟨cb, 3, none⟩ = some (.int .i64 1) := HC1.out.c.1 3 _ rfl
  have zc1c3 : X1.frozen? ⟨cb, 3, none⟩ = false := HC1.out.c.2 3 (by show 3 < 6; decide)
  have c1c2 : X1.cell? ⟨cb, 2, none⟩ = some (.pointer (some ⟨bb, 0, none⟩)) := HC1.out.c.1 2 _ rfl
  have c1b0 : X1.cell? ⟨bb, 0, none⟩ = some (.slice (some ⟨bi, 0, none⟩) 2 2) := HC1.out.b 0 _ rfl
  have HD1 : Hid (StM mb cb rb bi bb bx cap gl da pr mn me at_ fl fr w X1.drew (.slice none 0 0) (.int .i64 0) (.int .i64 9) (.int .i64 1) (.int .u32 0)) := Lib.hid (HC1.out.drew 1)
  have wr1 : IntKind.i64.wrap 0 = 0 := rfl
  go_still_tail 15, (by kernel_rfl)
  change wpList _ _ _ _ _ X1.drew
  clear wr1
  generalize X1.drew = Y1 at *
  have HX1 : Hid (Calls Try.prog 47 #[.pointer (some ⟨mb, 0, none⟩), .pointer (some ⟨cb, 0, none⟩), .pointer (some ⟨bi, 0, none⟩)] Y1 (ExInP mb bx cb rb bb (.slice none 0 0) (.int .u32 0) (.int .i64 0) gl da pr mn (.int .i64 9) me at_ fl fr (.slice (some ⟨cb, 0, none⟩) 1 cap) (.int .i64 1) Y1)) := Lib.hid (exec_in mb bx cb rb bb bi _ _ _ _ _ _ _ _ _ _ _ _ _ _ _ HD1.out.m HD1.out.c HD1.out.r HD1.out.i HD1.out.x HA.out.a5 HA.out.a1 HA.out.a2 HA.out.a3 (fun e => HA.out.b1 e.symm))
  go_wp2_with (go_at_call 47; (with_reducible refine HX1.out.mono ?_); rintro en w2 ⟨rfl, hm, hc, hr, hf⟩; have HA2 := Lib.hid (HD1.out.inn HA.out ⟨rfl, hm, hc, hr, hf⟩).2; clear hm hc hr hf; clear c13 c114 c19 zc19 c1c3 zc1c3 c1c2 c1b0; have a23 : w2.cell? ⟨mb, 3, none⟩ = some (.int .i64 0) := HA2.out.m.1 3 _ rfl; have a214 : w2.cell? ⟨mb, 14, none⟩ = some (.slice (some ⟨cb, 0, none⟩) 1 cap) := HA2.out.m.1 14 _ rfl; have a29 : w2.cell? ⟨mb, 9, none⟩ = some (.int .i64 9) := HA2.out.m.1 9 _ rfl; have za29 : w2.frozen? ⟨mb, 9, none⟩ = false := HA2.out.m.2 9 (by show 9 < 15; decide); have a2c3 : w2.cell? ⟨cb, 3, none⟩ = some (.int .i64 1) := HA2.out.c.1 3 _ rfl; have za2c3 : w2.frozen? ⟨cb, 3, none⟩ = false := HA2.out.c.2 3 (by show 3 < 6; decide); have a2c2 : w2.cell? ⟨cb, 2, none⟩ = some (.pointer (some ⟨bb, 0, none⟩)) := HA2.out.c.1 2 _ rfl; have a2b0 : w2.cell? ⟨bb, 0, none⟩ = some (.slice (some ⟨bi, 0, none⟩) 2 2) := HA2.out.b 0 _ rfl)
  have H142 : Hid ((w2.setCell ⟨mb, 9, none⟩ (.int .i64 8)).cell? ⟨mb, 14, none⟩ = some (.slice (some ⟨cb, 0, none⟩) 1 cap)) := Lib.hid ((HA2.out.m.set (i := 9) (v := .int .i64 8) (by show 9 < 15; decide)).1 14 _ rfl)
  rw [rounds_succ]
  go_wp2_with (go_at_call 44; (with_reducible refine (current_ok mb cb cap _ H142.out).mono ?_); rintro en u2 ⟨rfl, n1, hw1⟩; have HB2 : Hid (StM mb cb rb bi bb bx cap gl da pr mn me at_ fl fr w u2 (.slice none 0 0) (.int .i64 1) (.int .i64 8) (.int .i64 1) (.int .u32 300)) := Lib.hid (hw1 ▸ HA2.out.fuel HA.out (.int .i64 8) n1); clear hw1; clear a23 a214 a29 za29 a2c3 za2c3 a2c2 a2b0; have b23 : u2.cell? ⟨mb, 3, none⟩ = some (.int .i64 0) := HB2.out.m.1 3 _ rfl; have b214 : u2.cell? ⟨mb, 14, none⟩ = some (.slice (some ⟨cb, 0, none⟩) 1 cap) := HB2.out.m.1 14 _ rfl; have b29 : u2.cell? ⟨mb, 9, none⟩ = some (.int .i64 8) := HB2.out.m.1 9 _ rfl; have zb29 : u2.frozen? ⟨mb, 9, none⟩ = false := HB2.out.m.2 9 (by show 9 < 15; decide); have b2c3 : u2.cell? ⟨cb, 3, none⟩ = some (.int .i64 1) := HB2.out.c.1 3 _ rfl; have zb2c3 : u2.frozen? ⟨cb, 3, none⟩ = false := HB2.out.c.2 3 (by show 3 < 6; decide); have b2c2 : u2.cell? ⟨cb, 2, none⟩ = some (.pointer (some ⟨bb, 0, none⟩)) := HB2.out.c.1 2 _ rfl; have b2b0 : u2.cell? ⟨bb, 0, none⟩ = some (.slice (some ⟨bi, 0, none⟩) 2 2) := HB2.out.b 0 _ rfl)
  go_quiet (fail)
  go_wp2
  have HC2 : Hid (StM mb cb rb bi bb bx cap gl da pr mn me at_ fl fr w ((u2.drewN nq).setCell ⟨cb, 3, none⟩ (.int .i64 2)) (.slice none 0 0) (.int .i64 1) (.int .i64 8) (.int .i64 2) (.int .u32 300)) := Lib.hid ((HB2.out.drew nq).next HA.out (.int .i64 2))
  generalize (u2.drewN nq).setCell ⟨cb, 3, none⟩ (.int .i64 2) = X2 at *
  clear b23 b214 b29 zb29 b2c3 zb2c3 b2c2 b2b0
  have c23 : X2.cell? ⟨mb, 3, none⟩ = some (.int .i64 0) := HC2.out.m.1 3 _ rfl
  have c214 : X2.cell? ⟨mb, 14, none⟩ = some (.slice (some ⟨cb, 0, none⟩) 1 cap) := HC2.out.m.1 14 _ rfl
  have c29 : X2.cell? ⟨mb, 9, none⟩ = some (.int .i64 8) := HC2.out.m.1 9 _ rfl
  have zc29 : X2.frozen? ⟨mb, 9, none⟩ = false := HC2.out.m.2 9 (by show 9 < 15; decide)
  have c2c3 : X2.cell? ⟨cb, 3, none⟩ = some (.int .i64 2) := HC2.out.c.1 3 _ rfl
  have zc2c3 : X2.frozen? ⟨cb, 3, none⟩ = false := HC2.out.c.2 3 (by show 3 < 6; decide)
  have c2c2 : X2.cell? ⟨cb, 2, none⟩ = some (.pointer (some ⟨bb, 0, none⟩)) := HC2.out.c.1 2 _ rfl
  have c2b0 : X2.cell? ⟨bb, 0, none⟩ = some (.slice (some ⟨bi, 0, none⟩) 2 2) := HC2.out.b 0 _ rfl
  have HD2 : Hid (StM mb cb rb bi bb bx cap gl da pr mn me at_ fl fr w X2.drew (.slice none 0 0) (.int .i64 1) (.int .i64 8) (.int .i64 2) (.int .u32 300)) := Lib.hid (HC2.out.drew 1)
  have wr2 : IntKind.i64.wrap 1 = 1 := rfl
  go_still_tail 15, (by kernel_rfl)
  change wpList _ _ _ _ _ X2.drew
  clear wr2
  generalize X2.drew = Y2 at *
  have HX2 : Hid (Calls Try.prog 47 #[.pointer (some ⟨mb, 0, none⟩), .pointer (some ⟨cb, 0, none⟩), .pointer (some ⟨bi, 11, none⟩)] Y2 (ExOutP mb cb rb bb bi (.int .i64 1) (.int .u32 0) (.int .i64 0) gl da pr mn (.slice (some ⟨bx, 0, none⟩) 1 1) (.int .i64 8) me at_ fl fr (.slice (some ⟨cb, 0, none⟩) 1 cap) (.int .i64 2) Y2)) := Lib.hid (exec_out mb cb rb bb bi _ _ _ _ _ _ _ _ _ _ _ _ _ _ _ _ HD2.out.m HD2.out.c HD2.out.r HD2.out.i HA.out.a1 HA.out.a2 HA.out.a3)
  go_wp2_with (go_at_call 47; (with_reducible refine HX2.out.mono ?_); rintro en w3 hk; have q := (HD2.out.out HA.out hk).2; obtain ⟨rfl, _⟩ := hk; obtain ⟨g, oc, hg0, hg1, hg2, hs⟩ := q; have HA3 := Lib.hid hs; have HG := Lib.hid hg1; have HG0 := Lib.hid hg0; have HG2 := Lib.hid hg2; clear hs hg1 hg0 hg2; clear c23 c214 c29 zc29 c2c3 zc2c3 c2c2 c2b0; have a33 : w3.cell? ⟨mb, 3, none⟩ = some (.int .i64 0) := HA3.out.m.1 3 _ rfl; have a314 : w3.cell? ⟨mb, 14, none⟩ = some (.slice (some ⟨cb, 0, none⟩) 1 cap) := HA3.out.m.1 14 _ rfl; have a39 : w3.cell? ⟨mb, 9, none⟩ = some (.int .i64 8) := HA3.out.m.1 9 _ rfl; have za39 : w3.frozen? ⟨mb, 9, none⟩ = false := HA3.out.m.2 9 (by show 9 < 15; decide); have a3c3 : w3.cell? ⟨cb, 3, none⟩ = some (.int .i64 2) := HA3.out.c.1 3 _ rfl; have za3c3 : w3.frozen? ⟨cb, 3, none⟩ = false := HA3.out.c.2 3 (by show 3 < 6; decide); have a3c2 : w3.cell? ⟨cb, 2, none⟩ = some (.pointer (some ⟨bb, 0, none⟩)) := HA3.out.c.1 2 _ rfl; have a3b0 : w3.cell? ⟨bb, 0, none⟩ = some (.slice (some ⟨bi, 0, none⟩) 2 2) := HA3.out.b 0 _ rfl)
  have H143 : Hid ((w3.setCell ⟨mb, 9, none⟩ (.int .i64 7)).cell? ⟨mb, 14, none⟩ = some (.slice (some ⟨cb, 0, none⟩) 1 cap)) := Lib.hid ((HA3.out.m.set (i := 9) (v := .int .i64 7) (by show 9 < 15; decide)).1 14 _ rfl)
  rw [rounds_succ]
  go_wp2_with (go_at_call 44; (with_reducible refine (current_ok mb cb cap _ H143.out).mono ?_); rintro en u3 ⟨rfl, n1, hw1⟩; have HB3 : Hid (StM mb cb rb bi bb bx cap gl da pr mn me at_ fl fr w u3 (.slice (some ⟨g, 0, none⟩) 1 oc) (.int .i64 1) (.int .i64 7) (.int .i64 2) (.int .u32 300)) := Lib.hid (hw1 ▸ HA3.out.fuel HA.out (.int .i64 7) n1); have HGb : Hid (u3.cell? ⟨g, 0, none⟩ = some (.int .u32 300)) := Lib.hid (by rw [hw1]; exact (Fr.setCell (F := fun k => k = mb) w3 ⟨mb, 9, none⟩ (.int .i64 7) rfl).cell HG.out HG2.out); clear hw1; clear a33 a314 a39 za39 a3c3 za3c3 a3c2 a3b0; have b33 : u3.cell? ⟨mb, 3, none⟩ = some (.int .i64 0) := HB3.out.m.1 3 _ rfl; have b314 : u3.cell? ⟨mb, 14, none⟩ = some (.slice (some ⟨cb, 0, none⟩) 1 cap) := HB3.out.m.1 14 _ rfl; have b39 : u3.cell? ⟨mb, 9, none⟩ = some (.int .i64 7) := HB3.out.m.1 9 _ rfl; have zb39 : u3.frozen? ⟨mb, 9, none⟩ = false := HB3.out.m.2 9 (by show 9 < 15; decide); have b3c3 : u3.cell? ⟨cb, 3, none⟩ = some (.int .i64 2) := HB3.out.c.1 3 _ rfl; have zb3c3 : u3.frozen? ⟨cb, 3, none⟩ = false := HB3.out.c.2 3 (by show 3 < 6; decide); have b3c2 : u3.cell? ⟨cb, 2, none⟩ = some (.pointer (some ⟨bb, 0, none⟩)) := HB3.out.c.1 2 _ rfl; have b3b0 : u3.cell? ⟨bb, 0, none⟩ = some (.slice (some ⟨bi, 0, none⟩) 2 2) := HB3.out.b 0 _ rfl)
  go_quiet (fail)
  have HZ := Lib.hid (HB3.out.drew nq)
  have HGz : Hid ((u3.drewN nq).cell? ⟨g, 0, none⟩ = some (.int .u32 300)) := Lib.hid HGb.out
  clear b33 b314 b39 zb39 b3c3 zb3c3 b3c2 b3b0
  generalize u3.drewN nq = z3 at *
  have HE : Hid (Calls Try.prog 48 #[.pointer (some ⟨mb, 0, none⟩), .pointer (some ⟨cb, 0, none⟩)] z3 (LeaveP mb cb rb bb bi cap (.slice (some ⟨g, 0, none⟩) 1 oc) (.int .i64 1) (.int .u32 0) (.int .i64 0) gl da pr mn (.slice (some ⟨bx, 0, none⟩) 1 1) (.int .i64 7) me at_ fl fr z3)) := Lib.hid (end_ok2 mb cb rb bb bi cap _ _ _ _ _ _ _ _ _ _ _ _ _ _ _ HZ.out.m HZ.out.c HZ.out.r HZ.out.b HA.out.a1 HA.out.a2 HA.out.a4)
  go_wp2_with (go_at_call 48; (with_reducible refine HE.out.mono ?_); rintro en w4 ⟨rfl, hm, hf⟩; have HM4 := Lib.hid hm; have HF4 := Lib.hid hf; have e3 : w4.cell? ⟨mb, 3, none⟩ = some (.int .i64 0) := hm.1 3 _ rfl; have e14 : w4.cell? ⟨mb, 14, none⟩ = some (.slice (some ⟨cb, 0, none⟩) 0 cap) := hm.1 14 _ rfl; clear hm hf)
  rw [rounds_succ]
  go_wp2
  go_end0
  exact ⟨rfl, g, oc, HM4.out.1 0 _ rfl, HM4.out.1 1 _ rfl, HM4.out.1 2 _ rfl, e3, HF4.out.cell HGz.out HG2.out, HG0.out, HZ.out.fr.trans (HF4.out.mono (fun _ _ x => Or.inl x))⟩
end Go.Proofs.Ytelgppoohjblnaa
