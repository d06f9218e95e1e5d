/-
  Runs (layer 14): rows that are written over; the machine's small parts.
-/
import Derived.Test.YtelgppoohjblnaaIrH
import Derived.Test.YtelgppoohjblnaaIrI
import Derived.Deep.QuietTactic
import Derived.BigQuiet
import Derived.Outline
namespace Go.Proofs.Ytelgppoohjblnaa
open Go.RowKit
set_option linter.unusedVariables false
set_option linter.unusedSimpArgs false
/-- A row of cells that may be written over. -/
def RW (w : World) (b : Nat) (A : Array Value) : Prop := Row w b A ∧ ∀ j, j < A.size → w.frozen? ⟨b, j, none⟩ = false
theorem RW.fr {F : Nat → Prop} {w w' : World} {b : Nat} {A : Array Value} (h : RW w b A) (hf : Fr F w w') (hn : ¬ F b) : RW w' b A :=
  ⟨fun j y hj => hf.cell (h.1 j y hj) hn, fun j hj => (hf.frozen (h.1 j _ (Array.getElem?_eq_getElem hj)) hn).trans (h.2 j hj)⟩
theorem RW.lt {w : World} {b : Nat} {A : Array Value} (h : RW w b A) (h0 : 0 < A.size) : b < w.heap.size := World.block_lt_of_cell? w _ (h.1 0 _ (Array.getElem?_eq_getElem h0))
theorem RW.new (w : World) (A : Array Value) (t : TypeId) : RW (w.alloc (.cells A t)) w.heap.size A := ⟨fun j y h => fcell w A t j y h, fun j _ => World.frozen?_alloc_new _ _ _ _⟩
theorem frozen_set (w : World) (c i : Nat) (b : Addr) (v : Value) : (w.setCell ⟨c, i, none⟩ v).frozen? b = w.frozen? b := World.frozen?_setCells c [v] i w b
theorem RW.set {w : World} {b i : Nat} {A : Array Value} {v : Value} (h : RW w b A) (hi : i < A.size) : RW (w.setCell ⟨b, i, none⟩ v) b (A.setIfInBounds i v) := by
  refine ⟨fun j y hj => ?_, fun j hj => by rw [frozen_set]; exact h.2 j (by simpa using hj)⟩
  by_cases e : j = i
  · subst e
    rw [Array.getElem?_setIfInBounds_self_of_lt hi] at hj
    cases hj
    exact World.cell?_setCell_same _ _ _ (h.1 j _ (Array.getElem?_eq_getElem hi))
  · rw [Array.getElem?_setIfInBounds_ne (Ne.symm e)] at hj
    exact set_keep (h.1 j y hj) e
theorem RW.set' {w : World} {b c i : Nat} {A : Array Value} {v : Value} (h : RW w b A) (hne : b ≠ c) : RW (w.setCell ⟨c, i, none⟩ v) b A :=
  h.fr (F := fun k => k = c) (Fr.setCell w ⟨c, i, none⟩ v rfl) hne
theorem RW.drew {w : World} {b : Nat} {A : Array Value} (h : RW w b A) (n : Nat) : RW (w.drewN n) b A := h
/-- The machine's fifteen cells. -/
def mch (o ns ex e gl da pr mn inp fu me at_ fl fr ca : Value) : Array Value := #[o, ns, ex, e, gl, da, pr, mn, inp, fu, me, at_, fl, fr, ca]
/-- A call's six cells. -/
def cll (r p b n bo re : Value) : Array Value := #[r, p, b, n, bo, re]
theorem place_none (w : World) : Calls Try.prog 8 #[.slice none 0 0] w fun e w' => ∃ a c, e = .returned (.tuple #[.slice a 0 c, .int .i64 0]) ∧ Fr (fun _ => False) w w' :=
  (c8 none 0 [] (by decide) (fun k hk => absurd hk (Nat.not_lt_zero _)) w (fun k hk => absurd hk (Nat.not_lt_zero _))).mono fun e w' ⟨a, c, h, _, hf⟩ => ⟨a, c, h, hf⟩
def GlobP (o ns ex e pr mn inp fu me fr ca : Value) (mb : Nat) (w : World) (en : Ending) (w' : World) : Prop := en = .returned (.bool true) ∧ ∃ a c, RW w' mb (mch o ns ex e (.slice none 0 0) (.slice none 0 0) pr mn inp fu me (.slice a 0 c) (.int .i64 4096) fr ca) ∧ Fr (fun k => k = mb) w w'
set_option maxRecDepth 100000 in
set_option maxHeartbeats 2000000 in
theorem globals_ok (mb : Nat) (o ns ex e gl da pr mn inp fu me at_ fl fr ca : Value) (w : World) (h : RW w mb (mch o ns ex e (.slice none 0 0) (.slice none 0 0) pr mn inp fu me at_ fl fr ca)) : Calls Try.prog 25 #[.pointer (some ⟨mb, 0, none⟩)] w (GlobP o ns ex e pr mn inp fu me fr ca mb w) := by
  have c4 : w.cell? ⟨mb, 4, none⟩ = some (.slice none 0 0) := h.1 4 _ rfl
  have zc4 : w.frozen? ⟨mb, 4, none⟩ = false := h.2 4 (by show 4 < 15; decide)
  have c5 : w.cell? ⟨mb, 5, none⟩ = some (.slice none 0 0) := h.1 5 _ rfl
  have zc5 : w.frozen? ⟨mb, 5, none⟩ = false := h.2 5 (by show 5 < 15; decide)
  have HH := Lib.hid h
  clear h
  go_enter Try.func25, Try.ntmps25
  go_wp2_with (go_at_call 8; (with_reducible refine (place_none _).mono ?_); rintro e w2 ⟨a, c, rfl, hf⟩; have HF := Lib.hid hf; have HR := Lib.hid (HH.out.fr hf id); have d5 : w2.cell? ⟨mb, 5, none⟩ = some (.slice none 0 0) := HR.out.1 5 _ rfl; have zd5 : w2.frozen? ⟨mb, 5, none⟩ = false := HR.out.2 5 (by show 5 < 15; decide); have d11 : w2.cell? ⟨mb, 11, none⟩ = some (at_) := HR.out.1 11 _ rfl; have zd11 : w2.frozen? ⟨mb, 11, none⟩ = false := HR.out.2 11 (by show 11 < 15; decide); have d12 : w2.cell? ⟨mb, 12, none⟩ = some (fl) := HR.out.1 12 _ rfl; have zd12 : w2.frozen? ⟨mb, 12, none⟩ = false := HR.out.2 12 (by show 12 < 15; decide); clear hf)
  generalize mb = mb at *
  go_loopw [28] (fun q wr => q = .int .i64 0 ∧ wr = w2) (fun q _ => 1 - (intOf q).toNat)
  case atStart => exact ⟨rfl, rfl⟩
  case round =>
    obtain ⟨rfl, rfl⟩ := hrel
    go_wp2
    go_ret
    exact ⟨rfl, a, c, (HR.out.set (i := 11) (by show 11 < 15; decide)).set (i := 12) (by show 12 < 15; decide), (HF.out.mono (fun _ _ x => x.elim)).trans ((Fr.setCell (F := fun k => k = mb) _ _ _ rfl).trans (Fr.setCell (F := fun k => k = mb) _ _ _ rfl))⟩
set_option maxRecDepth 100000 in
set_option maxHeartbeats 2000000 in
theorem cleared_new (w : World) : Calls Try.prog 46 #[.slice none 0 0, .int .i64 1] w fun e w' => e = .returned (.slice (some ⟨w.heap.size, 0, none⟩) 1 1) ∧ w' = w.alloc (.cells #[.int .u32 0] 22) := by
  have hmk : ∀ w : World, (Instr.makeSlice 71 (.int .i64 1) (.int .i64 1)).run Try.prog w = .ok (.slice (some ⟨w.heap.size, 0, none⟩) 1 1) (w.alloc (.cells #[.int .u32 0] 22)) := fun _ => by kernel_rfl
  go_enter Try.func46, Try.ntmps46
  go_wp2
  go_ret
  exact ⟨rfl, rfl⟩
set_option maxRecDepth 100000 in
set_option maxHeartbeats 2000000 in
theorem current_ok (mb cb cap : Nat) (w : World) (h : w.cell? ⟨mb, 14, none⟩ = some (.slice (some ⟨cb, 0, none⟩) 1 cap)) : Calls Try.prog 44 #[.pointer (some ⟨mb, 0, none⟩)] w fun e w' => e = .returned (.pointer (some ⟨cb, 0, none⟩)) ∧ ∃ n, w' = w.drewN n := by
  go_enter Try.func44, Try.ntmps44
  go_wp2
  go_quiet (fail)
  go_wp2
  go_ret
  exact ⟨rfl, _, rfl⟩
theorem infoC : (Try.prog.info? 74).map (fun i => (i.zero, i.size, i.bytes)) = some (some (.agg #[.slice none 0 0, .int .i64 0, .pointer none, .int .i64 0, .int .i64 0, .int .i64 0]), 6, 64) := by kernel_rfl
def zeroC : List Value := [.slice none 0 0, .int .i64 0, .pointer none, .int .i64 0, .int .i64 0, .int .i64 0]
theorem zeroC_cell (w : World) (t : TypeId) : ∀ (j : Nat) (u : Value), zeroC[j]? = some u → (w.alloc (.cells #[.slice none 0 0, .int .i64 0, .pointer none, .int .i64 0, .int .i64 0, .int .i64 0] t)).cell? ((⟨w.heap.size, 0, none⟩ : Addr).add j) = some u := by
  intro j u h
  rw [Addr.add_lit]
  simp only [Nat.zero_add]
  exact fcell w _ t j u (by simpa [zeroC] using h)
theorem Fr.of_by0' {F : Nat → Prop} {w w' : World} {v : Value} (h : w.grownBy w' v.ownBlock) (hv : v = .slice none 0 0) : Fr F w w' := by
  subst hv; exact Fr.of_by0 h
theorem push_step {W w3 : World} {mb : Nat} {A cs : Array Value} {t : TypeId} {v0 v' : Value} (hd : RW W mb A) (hown : w3.ownsRow W.heap.size 74 6 v' (0 + 1) ([] ++ zeroC)) (hg : (W.alloc (.cells cs t)).grownBy w3 v0.ownBlock) (hn : v' ≠ .slice none 0 0) (hv : v0 = .slice none 0 0) :
    ∃ g cap, v' = .slice (some ⟨g, 0, none⟩) 1 cap ∧ W.heap.size ≤ g ∧ RW w3 mb A ∧ RW w3 g (cll (.slice none 0 0) (.int .i64 0) (.pointer none) (.int .i64 0) (.int .i64 0) (.int .i64 0)) ∧ Fr (fun _ => False) W w3 := by
  obtain ⟨g, cap, rfl, hb, hlt⟩ := own_form hown hn
  have hf : Fr (fun _ => False) W w3 := (fr_al (Fr.refl _ _) _).trans (Fr.of_by0' hg hv)
  refine ⟨g, cap, rfl, hb, hd.fr hf id, ⟨fun j y hj => ?_, fun j hj => ?_⟩, hf⟩
  · have := World.ownsRow.cells hown (g := g) rfl j y (by simpa [zeroC, cll] using hj)
    rw [Addr.add_lit] at this
    simpa using this
  · exact World.ownsRow.frozenAt hown j
def PushP (o ns ex e gl da pr mn inp fu me at_ fl fr : Value) (mb : Nat) (w : World) (en : Ending) (w' : World) : Prop := ∃ cb cap, en = .returned (.pointer (some ⟨cb, 0, none⟩)) ∧ w.heap.size ≤ cb ∧ RW w' mb (mch o ns ex e gl da pr mn inp fu me at_ fl fr (.slice (some ⟨cb, 0, none⟩) 1 cap)) ∧ RW w' cb (cll (.slice none 0 0) (.int .i64 0) (.pointer none) (.int .i64 0) (.int .i64 0) (.int .i64 0)) ∧ Fr (fun k => k = mb) w w'
set_option maxRecDepth 100000 in
set_option maxHeartbeats 2000000 in
theorem push_new (mb : Nat) (o ns ex e gl da pr mn inp fu me at_ fl fr : Value) (w : World) (h : RW w mb (mch o ns ex e gl da pr mn inp fu me at_ fl fr (.slice none 0 0))) : Calls Try.prog 45 #[.pointer (some ⟨mb, 0, none⟩)] w (PushP o ns ex e gl da pr mn inp fu me at_ fl fr mb w) := by
  have c14 : w.cell? ⟨mb, 14, none⟩ = some (.slice none 0 0) := h.1 14 _ rfl
  have zc14 : w.frozen? ⟨mb, 14, none⟩ = false := h.2 14 (by show 14 < 15; decide)
  obtain ⟨i0, hi, hz0, hz1, hz2⟩ := info_parts infoC
  have HI := Lib.hid hi
  have HZ0 := Lib.hid hz0
  have HZ1 := Lib.hid hz1
  have HZ2 := Lib.hid hz2
  clear hi hz0 hz1 hz2
  have HH := Lib.hid h
  clear h
  go_enter Try.func45, Try.ntmps45
  go_wp2
  go_quiet (fail)
  have HD : Hid (RW (w.drewN nq) mb (mch o ns ex e gl da pr mn inp fu me at_ fl fr (.slice none 0 0))) := Lib.hid HH.out
  have hnq : Hid ((w.drewN nq).heap.size = w.heap.size) := Lib.hid rfl
  have HFW : Hid (Fr (fun _ => False) w (w.drewN nq)) := Lib.hid ((Fr.refl _ _).drewN nq)
  generalize w.drewN nq = W at *
  have d14 : W.cell? ⟨mb, 14, none⟩ = some (.slice none 0 0) := HD.out.1 14 _ rfl
  have zd14 : W.frozen? ⟨mb, 14, none⟩ = false := HD.out.2 14 (by show 14 < 15; decide)
  clear c14 zc14
  obtain ⟨v0, hv0⟩ : ∃ v0, v0 = Value.slice none 0 0 := ⟨_, rfl⟩
  rw [← hv0] at d14
  have HV0 := Lib.hid hv0
  have HO0 : Hid (W.ownsRow W.heap.size 74 6 v0 0 []) := Lib.hid (by rw [hv0]; exact World.ownsRow_nil _ _ _ _)
  clear hv0
  go_wp2_with (at_builtin; go_loud (refine wpList_append_own _ rfl _ _ 59 rfl W.heap.size 74 i0 (.agg #[.slice none 0 0, .int .i64 0, .pointer none, .int .i64 0, .int .i64 0, .int .i64 0]) 6 64 Try.underlying59 HI.out HZ0.out HZ1.out HZ2.out rfl (by decide) _ 0 [] rfl (by exact HO0.out.alloc _) ⟨W.heap.size, 0, none⟩ 1 1 zeroC rfl rfl (zeroC_cell W 74) (by simp [zeroC, Value.oneCell']) (by unfold maxLen; omega) (by omega) (by simp) ?_); intro v' w3 hown3 hg3 hnil; have q := push_step HD.out hown3 hg3 (fun e => absurd (hnil.1 e).2 (by decide)) HV0.out; obtain ⟨g, cap, rfl, hb, hr3, hn3, hf3⟩ := q; have HR3 := Lib.hid hr3; have HN3 := Lib.hid hn3; have k14 : w3.cell? ⟨mb, 14, none⟩ = some (.slice none 0 0) := HR3.out.1 14 _ rfl; have zk14 : w3.frozen? ⟨mb, 14, none⟩ = false := HR3.out.2 14 (by show 14 < 15; decide); have HF3 := Lib.hid (HFW.out.trans hf3); clear hr3 hn3 hf3 hown3 hg3 hnil)
  refine (current_ok mb g cap _ (World.cell?_setCell_same _ _ _ k14)).mono ?_
  rintro e w4 ⟨rfl, n4, rfl⟩
  go_wp2
  go_ret
  exact ⟨g, cap, rfl, by have := hnq.out; omega, (HR3.out.set (i := 14) (by show 14 < 15; decide)).drew _, (HN3.out.set' (by have := HD.out.lt (by show 0 < 15; decide); omega)).drew _, ((HF3.out.mono (fun _ _ x => x.elim)).trans (Fr.setCell (F := fun k => k = mb) _ _ _ rfl)).drewN _⟩
end Go.Proofs.Ytelgppoohjblnaa
