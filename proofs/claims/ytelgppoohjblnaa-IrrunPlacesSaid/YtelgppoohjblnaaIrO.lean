/-
  Runs (layer 14): Run at the page's module.
-/
import Derived.Test.YtelgppoohjblnaaIrN
import Derived.RegionTactic
import Derived.Deep.CutRange
namespace Go.Proofs.Ytelgppoohjblnaa
open Go.RowKit
set_option linter.unusedVariables false
set_option linter.unusedSimpArgs false
theorem infoB : (Try.prog.info? 5).map (fun i => (i.zero, i.size, i.bytes)) = some (some (.int .u8 0), 1, 1) := by kernel_rfl
theorem make_mem (w : World) : (Instr.makeSlice 57 (.int .i64 65536) (.int .i64 65536)).run Try.prog w = .ok (.slice (some ⟨w.heap.size, 0, none⟩) 65536 65536) (w.alloc (.cells (madeCells (Value.int .u8 0).cells (65536 * 1)) 5)) := by
  obtain ⟨i, hi, hz, hs, hb⟩ := info_parts infoB
  have := run_makeSlice (w := w) 57 5 i (.int .u8 0) Try.underlying57 hi hz .i64 .i64 65536 65536 (by omega) (Int.le_refl _) (by rw [hs]; omega) (by rw [hb]; omega) (by omega)
  rw [hs] at this
  exact this
theorem infoF : (Try.prog.info? 63).map (fun i => (i.zero, i.size, i.bytes)) = some (some (.agg #[.slice none 0 0, .int .i64 0]), 2, 32) := by kernel_rfl
theorem two_cell (w : World) (t : TypeId) (x y : Value) : ∀ (j : Nat) (u : Value), [x, y][j]? = some u → (w.alloc (.cells #[x, y] t)).cell? ((⟨w.heap.size, 0, none⟩ : Addr).add j) = some u := by
  intro j u h
  rw [Addr.add_lit]
  simp only [Nat.zero_add]
  exact fcell w _ t j u (by simpa using h)
theorem app_step {W w3 : World} {mb sz : Nat} {E : TypeId} {A : Array Value} {ob : Obj} {v0 v' : Value} {xs : List Value} (hd : RW W mb A) (hown : w3.ownsRow W.heap.size E sz v' (0 + 1) ([] ++ xs)) (hg : (W.alloc ob).grownBy w3 v0.ownBlock) (hn : v' ≠ .slice none 0 0) (hv : v0 = .slice none 0 0) :
    ∃ g cap, v' = .slice (some ⟨g, 0, none⟩) 1 cap ∧ W.heap.size ≤ g ∧ RW w3 mb A ∧ Row w3 g xs.toArray ∧ Fr (fun _ => False) W w3 := by
  obtain ⟨g, cap, rfl, hb, hlt⟩ := own_form hown hn
  have hf : Fr (fun _ => False) W w3 := (fr_al (Fr.refl _ _) _).trans (Fr.of_by0' hg hv)
  refine ⟨g, cap, rfl, hb, hd.fr hf id, fun j y hj => ?_, hf⟩
  have := World.ownsRow.cells hown (g := g) rfl j y (by simpa using hj)
  rw [Addr.add_lit] at this
  simpa using this
def PageP (w : World) (en : Ending) (w' : World) : Prop := ∃ g oc, en = .returned (.agg #[.slice (some ⟨g, 0, none⟩) 1 oc, .int .i64 1, .int .u32 44, .int .i64 0]) ∧ w'.cell? ⟨g, 0, none⟩ = some (.int .u32 300) ∧ Fr (fun _ => False) w w'
theorem Fr.up {n : Nat} {F : Nat → Prop} {w a b : World} (h : Fr (fun k => n ≤ k) w a) (k : Fr F a b) (hf : ∀ j, F j → n ≤ j) : Fr (fun k => n ≤ k) w b := h.trans (k.mono (fun j _ e => hf j e))
theorem Fr.fin {n : Nat} {w a : World} (h : Fr (fun k => n ≤ k) w a) (hn : w.heap.size = n) : Fr (fun _ => False) w a := h.mono (fun j hj e => by omega)
theorem page_apart {n s mb cb rb bi bb bx : Nat} (h : mb < s) (h1 : s ≤ cb) (h2 : s ≤ rb) (h3 : cb ≠ rb) (hbb : bb < n) (hbi : bi < n) (hbx : bx < n) (hn : n ≤ mb) : Apart6 mb cb rb bi bb bx :=
  ⟨by omega, by omega, by omega, by omega, by omega, fun e => h3 e.symm, by omega, by omega, by omega, by omega, by omega, by omega⟩
theorem two_rw (w : World) (A B : Array Value) (T U : TypeId) : RW ((w.alloc (.cells A T)).alloc (.cells B U)) (w.heap.size + 1) B := by
  have h := RW.new (w.alloc (.cells A T)) B U
  have e : (w.alloc (.cells A T)).heap.size = w.heap.size + 1 := by simp
  rw [e] at h
  exact h
theorem rv_apart {v mb cb rb s : Nat} (h : ¬ v = mb) (hl : s ≤ cb ∧ s ≤ rb ∧ cb ≠ rb) (hs : v < s) : ¬ (v = mb ∨ v = cb ∨ v = rb) := by omega
def RunC (bp bx mb : Nat) (me : Value) (w wx : World) : Prop := w.heap.size ≤ mb ∧ RW wx mb (mch (.slice none 0 0) (.int .i64 0) (.int .u32 0) (.int .i64 0) (.slice none 0 0) (.slice none 0 0) (.slice (some ⟨bp, 0, none⟩) 1 1) (.int .i64 0) (.slice (some ⟨bx, 0, none⟩) 1 1) (.int .i64 10) (me) (.slice none 0 0) (.int .i64 0) (.slice none 0 0) (.slice none 0 0)) ∧ Fr (fun _ => False) w wx
theorem RunC.mk (bp bx : Nat) (me : Value) (w2 : World) (O : Obj) (t : TypeId) : RunC bp bx (w2.heap.size + 1) me w2 ((w2.alloc O).alloc (.cells (mch (.slice none 0 0) (.int .i64 0) (.int .u32 0) (.int .i64 0) (.slice none 0 0) (.slice none 0 0) (.slice (some ⟨bp, 0, none⟩) 1 1) (.int .i64 0) (.slice (some ⟨bx, 0, none⟩) 1 1) (.int .i64 10) (me) (.slice none 0 0) (.int .i64 0) (.slice none 0 0) (.slice none 0 0)) t)).drew := by
  have h := RW.new (w2.alloc O) (mch (.slice none 0 0) (.int .i64 0) (.int .u32 0) (.int .i64 0) (.slice none 0 0) (.slice none 0 0) (.slice (some ⟨bp, 0, none⟩) 1 1) (.int .i64 0) (.slice (some ⟨bx, 0, none⟩) 1 1) (.int .i64 10) (me) (.slice none 0 0) (.int .i64 0) (.slice none 0 0) (.slice none 0 0)) t
  have e : (w2.alloc O).heap.size = w2.heap.size + 1 := by simp
  rw [e] at h
  exact ⟨by omega, h.drew 1, (fr_al (fr_al (Fr.refl _ _) _) _).drewN 1⟩
set_option maxRecDepth 100000 in
set_option maxHeartbeats 4000000 in
theorem run_page (bp bb bi bx : Nat) (w : World) (hp : Row w bp #[.string ⟨#[]⟩, .bool false, .int .i64 0, .int .i64 1, .slice none 0 0, .slice (some ⟨bb, 0, none⟩) 1 1]) (hk : Row w bb #[.slice (some ⟨bi, 0, none⟩) 2 2, .int .i64 3, .int .i64 0, .int .i64 0, .int .i64 0]) (hi : Row w bi ins22) (hx : w.cell? ⟨bx, 0, none⟩ = some (.int .u32 300)) (hne : bb ≠ bi) : Calls Try.prog 10 #[.agg #[.slice none 0 0, .slice none 0 0, .slice (some ⟨bp, 0, none⟩) 1 1, .int .i64 0], .slice (some ⟨bx, 0, none⟩) 1 1, .int .i64 10] w (PageP w) := by
  obtain ⟨O, hO⟩ : ∃ O, O = Obj.cells (madeCells (Value.int .u8 0).cells (65536 * 1)) 5 := ⟨_, rfl⟩
  have hmk : ∀ w : World, (Instr.makeSlice 57 (.int .i64 65536) (.int .i64 65536)).run Try.prog w = .ok (.slice (some ⟨w.heap.size, 0, none⟩) 65536 65536) (w.alloc O) := fun w => by rw [hO]; exact make_mem w
  clear hO
  have HP := Lib.hid hp
  have HK := Lib.hid hk
  have HI := Lib.hid hi
  have HX := Lib.hid hx
  clear hp hk hi hx
  go_enter Try.func10, Try.ntmps10
  have F1 := Lib.hid (fr_al (fr_al (Fr.refl (fun _ => False) w) (.cells #[.slice none 0 0, .slice none 0 0, .slice (some ⟨bp, 0, none⟩) 1 1, .int .i64 0] 49)) (.cells #[.slice none 0 0, .int .i64 0, .int .u32 0, .int .i64 0] 44))
  go_wp2_with (go_at_call 24; (with_reducible refine (check_ok bp bb bi _ (HP.out.fr F1.out) (HK.out.fr F1.out) (HI.out.fr F1.out)).mono ?_); rintro en w2 ⟨rfl, hf⟩; have F2 := Lib.hid hf; clear hf)
  have mm : ∀ (j : Nat) (y : Value), (#[.slice none 0 0, .slice none 0 0, .slice (some ⟨bp, 0, none⟩) 1 1, .int .i64 0] : Array Value)[j]? = some y → w2.cell? ⟨w.heap.size, j, none⟩ = some y := fun j y h => F2.out.cell ((fr_al (Fr.refl (fun _ => False) _) _).cell (fcell w _ _ j y h) id) id
  have mo : ∀ (j : Nat) (y : Value), (#[.slice none 0 0, .slice none 0 0, .slice (some ⟨bp, 0, none⟩) 1 1, .int .i64 0] : Array Value)[j]? = some y → (w2.alloc O).cell? ⟨w.heap.size, j, none⟩ = some y := fun j y h => (fr_al (Fr.refl (fun _ => False) _) _).cell (mm j y h) id
  have HM := Lib.hid mm
  have HRV : Hid (RW w2 (w.heap.size + 1) #[.slice none 0 0, .int .i64 0, .int .u32 0, .int .i64 0]) := Lib.hid ((two_rw w #[.slice none 0 0, .slice none 0 0, .slice (some ⟨bp, 0, none⟩) 1 1, .int .i64 0] #[.slice none 0 0, .int .i64 0, .int .u32 0, .int .i64 0] 49 44).fr F2.out id)
  have m0 : w2.cell? ⟨w.heap.size, 0, none⟩ = some (.slice none 0 0) := mm 0 _ rfl
  have m1 : w2.cell? ⟨w.heap.size, 1, none⟩ = some (.slice none 0 0) := mm 1 _ rfl
  have m2 : w2.cell? ⟨w.heap.size, 2, none⟩ = some (.slice (some ⟨bp, 0, none⟩) 1 1) := mm 2 _ rfl
  have m3 : w2.cell? ⟨w.heap.size, 3, none⟩ = some (.int .i64 0) := mm 3 _ rfl
  have o0 : (w2.alloc O).cell? ⟨w.heap.size, 0, none⟩ = some (.slice none 0 0) := mo 0 _ rfl
  have o1 : (w2.alloc O).cell? ⟨w.heap.size, 1, none⟩ = some (.slice none 0 0) := mo 1 _ rfl
  have o2 : (w2.alloc O).cell? ⟨w.heap.size, 2, none⟩ = some (.slice (some ⟨bp, 0, none⟩) 1 1) := mo 2 _ rfl
  have o3 : (w2.alloc O).cell? ⟨w.heap.size, 3, none⟩ = some (.int .i64 0) := mo 3 _ rfl
  clear mm mo
  generalize hvb : w.heap.size = vb at *
  have HVB := Lib.hid hvb
  clear hvb
  go_cut [8] from 19 to 26 (fun s8 wx => ∃ mb me, s8 = .pointer (some ⟨mb, 0, none⟩) ∧ Hid (RunC bp bx mb me w2 wx))
  case first =>
    go_region
    all_goals go_wp2_with fail
    all_goals go_meet
    all_goals exact ⟨_, _, rfl, Lib.hid (RunC.mk bp bx _ w2 O _)⟩
  case rest =>
    obtain ⟨mb, me, rfl, HC⟩ := hcut
    clear m0 m1 m2 m3 o0 o1 o2 o3 hmk
    have c2 := HC.out.2.2.cell (HM.out 2 _ rfl) id
    obtain ⟨i0, hi0, hz0, hz1, hz2⟩ := info_parts infoF
    have HIF := Lib.hid hi0
    have HZ0 := Lib.hid hz0
    have HZ1 := Lib.hid hz1
    have HZ2 := Lib.hid hz2
    clear hi0 hz0 hz1 hz2
    have FW := Lib.hid (F1.out.trans (F2.out.trans HC.out.2.2))
    have p0 := FW.out.cell (HP.out 0 _ rfl) id
    have p1 := FW.out.cell (HP.out 1 _ rfl) id
    have p2 := FW.out.cell (HP.out 2 _ rfl) id
    have p3 := FW.out.cell (HP.out 3 _ rfl) id
    have p4 := FW.out.cell (HP.out 4 _ rfl) id
    have p5 := FW.out.cell (HP.out 5 _ rfl) id
    obtain ⟨v0, hv0⟩ : ∃ v0, v0 = Value.slice none 0 0 := ⟨_, rfl⟩
    have HV0 := Lib.hid hv0
    have HO0 : ∀ W : World, W.ownsRow W.heap.size 63 2 v0 0 [] := fun W => by rw [hv0]; exact World.ownsRow_nil _ _ _ _
    have HO := Lib.hid HO0
    have HD : ∀ W, Fr (fun _ => False) wc W → W.cell? ⟨mb, 13, none⟩ = some v0 := fun W hf => by rw [hv0]; exact hf.cell (HC.out.2.1.1 13 _ rfl) id
    have HD13 := Lib.hid HD
    clear HO0 HD hv0
    go_wp2
    refine wp_loop_rounds 2 ?_
    rw [rounds_succ]
    go_wp2_with (first
      | (go_at_call 8; (with_reducible refine (place_none _).mono ?_); rintro en w3 ⟨a, c, rfl, hf⟩; have F3 := Lib.hid ((fr_al (Fr.refl (fun _ => False) wc) _).trans hf); have d13 := HD13.out _ F3.out; clear hf p0 p1 p2 p3 p4 p5 c2)
      | (at_builtin; refine wpList_append_own _ rfl _ _ 58 rfl w3.heap.size 63 i0 (.agg #[.slice none 0 0, .int .i64 0]) 2 32 Try.underlying58 HIF.out HZ0.out HZ1.out HZ2.out rfl (by decide) _ 0 [] rfl (by exact (HO.out w3).alloc _) ⟨w3.heap.size, 0, none⟩ 1 1 [.slice a 0 c, .int .i64 0] rfl rfl (two_cell w3 63 _ _) (by simp [Value.oneCell']) (by unfold maxLen; omega) (by omega) (by simp) ?_; intro v' w4 hown4 hg4 hnil; have q := app_step (HC.out.2.1.fr F3.out id) hown4 hg4 (fun e => absurd (hnil.1 e).2 (by decide)) HV0.out; obtain ⟨fb, fc, rfl, hb, hr4, hn4, hf4⟩ := q; have HR4 := Lib.hid hr4; have HN4 := Lib.hid hn4; have F4 := Lib.hid (F3.out.trans hf4); have k13 : w4.cell? ⟨mb, 13, none⟩ = some (.slice none 0 0) := hr4.1 13 _ rfl; have z13 : w4.frozen? ⟨mb, 13, none⟩ = false := hr4.2 13 (by show 13 < 15; decide); clear hr4 hn4 hf4 hown4 hg4 hnil))
    rw [rounds_succ]
    have hmb := HC.out.1
    have hml := HC.out.2.1.lt (by show 0 < 15; decide)
    have hw2 := F2.out.size
    have hwc := HC.out.2.2.size
    have hs3 := F3.out.size
    have hs4 := F4.out.size
    have hw1 : vb + 2 ≤ w2.heap.size := by have := HVB.out; simp at hw2; omega
    have hbp : bp < vb := by have h : bp < w.heap.size := World.block_lt_of_cell? w _ (HP.out 0 _ rfl); have := HVB.out; omega
    have hbb : bb < vb := by have h : bb < w.heap.size := World.block_lt_of_cell? w _ (HK.out 0 _ rfl); have := HVB.out; omega
    have hbi : bi < vb := by have h : bi < w.heap.size := World.block_lt_of_cell? w _ (HI.out 0 _ rfl); have := HVB.out; omega
    have hbx : bx < vb := by have h : bx < w.heap.size := World.block_lt_of_cell? w _ HX.out; have := HVB.out; omega
    have HG5 : Hid (RW (w4.setCell ⟨mb, 13, none⟩ (.slice (some ⟨fb, 0, none⟩) 1 fc)) mb (mch (.slice none 0 0) (.int .i64 0) (.int .u32 0) (.int .i64 0) (.slice none 0 0) (.slice none 0 0) (.slice (some ⟨bp, 0, none⟩) 1 1) (.int .i64 0) (.slice (some ⟨bx, 0, none⟩) 1 1) (.int .i64 10) me (.slice none 0 0) (.int .i64 0) (.slice (some ⟨fb, 0, none⟩) 1 fc) (.slice none 0 0))) := Lib.hid (HR4.out.set (i := 13) (by show 13 < 15; decide))
    have HS5 : Hid (Fr (fun k => k = mb) w2 (w4.setCell ⟨mb, 13, none⟩ (.slice (some ⟨fb, 0, none⟩) 1 fc))) := Lib.hid (((HC.out.2.2.trans F4.out).mono (fun _ _ x => x.elim)).trans (Fr.setCell (F := fun k => k = mb) _ _ _ rfl))
    have HN5 : Hid ((w4.setCell ⟨mb, 13, none⟩ (.slice (some ⟨fb, 0, none⟩) 1 fc)).cell? ⟨fb, 1, none⟩ = some (.int .i64 0)) := Lib.hid ((Fr.setCell (F := fun k => k = mb) w4 _ _ rfl).cell (HN4.out 1 _ rfl) (by show ¬ fb = mb; omega))
    have hvm : vb ≤ mb := by omega
    have hnv : Hid (¬ vb + 1 = mb) := Lib.hid (by omega)
    have hne1 : Hid (¬ vb = mb) := Lib.hid (by omega)
    have hne2 : Hid (¬ mb = bp) := Lib.hid (by omega)
    have hne3 : Hid (¬ fb = mb) := Lib.hid (by omega)
    have HPM := Lib.hid ((HP.out.fr F1.out).fr F2.out)
    have HKM := Lib.hid ((HK.out.fr F1.out).fr F2.out)
    have HIM := Lib.hid ((HI.out.fr F1.out).fr F2.out)
    have HXM := Lib.hid (F2.out.cell (F1.out.cell HX.out id) id)
    have HGB := Lib.hid (globals_ok mb (.slice none 0 0) (.int .i64 0) (.int .u32 0) (.int .i64 0) (.slice none 0 0) (.slice none 0 0) (.slice (some ⟨bp, 0, none⟩) 1 1) (.int .i64 0) (.slice (some ⟨bx, 0, none⟩) 1 1) (.int .i64 10) me (.slice none 0 0) (.int .i64 0) (.slice (some ⟨fb, 0, none⟩) 1 fc) (.slice none 0 0) (w4.setCell ⟨mb, 13, none⟩ (.slice (some ⟨fb, 0, none⟩) 1 fc)) HG5.out)
    have HEN := Lib.hid (fun (a6 : Option Addr) (c6 : Nat) (W : World) hm hp hz => enter_main mb bp bb fb fc (.slice none 0 0) (.int .i64 0) (.int .u32 0) (.int .i64 0) (.slice none 0 0) (.slice none 0 0) (.slice (some ⟨bx, 0, none⟩) 1 1) (.int .i64 10) me (.slice a6 0 c6) W hm hp hz hne2.out)
    go_wp2_with (first
      | (go_at_call 25; (with_reducible refine HGB.out.mono ?_); rintro en w6 ⟨rfl, a6, c6, hm, hf⟩; have HM6 := Lib.hid hm; have hw6 : Hid (vb + 1 < w6.heap.size) := Lib.hid (by have := hm.lt (by show 0 < 15; decide); omega); have HF6 := Lib.hid (HS5.out.trans hf); have HZ6 := Lib.hid (hf.cell HN5.out hne3.out); have v3 := HF6.out.cell (HM.out 3 _ rfl) hne1.out; have HX6 := Lib.hid (HEN.out a6 c6 w6 hm (HPM.out.frF HF6.out (fun e => hne2.out e.symm)) HZ6.out); clear hm hf)
      | (go_at_call 26; (with_reducible refine HX6.out.mono ?_); rintro en w7 ⟨rfl, cb, cap, rb, h1, h2, h3, hm, hc, hr, hf⟩; have HF7 := Lib.hid (HF6.out.trans hf); have Hl := Lib.hid (show w6.heap.size ≤ cb ∧ w6.heap.size ≤ rb ∧ cb ≠ rb from ⟨h1, h2, h3⟩); have HA7 := Lib.hid (page_apart (HM6.out.lt (by show 0 < 15; decide)) h1 h2 h3 hbb hbi hbx hvm); have HS7 : Hid (StM mb cb rb bi bb bx cap _ _ _ _ _ _ _ _ w7 w7 _ _ _ _ _) := Lib.hid ⟨hm, hc, hr, HIM.out.frF HF7.out HA7.out.a3, HKM.out.frF HF7.out HA7.out.a4, HF7.out.cell HXM.out HA7.out.a5, Fr.refl _ _⟩; clear h1 h2 h3 hm hc hr hf)
      | (go_at_call 27; (with_reducible refine (run_main mb cb rb bi bb bx cap _ _ _ _ _ _ _ _ w7 HA7.out HS7.out).mono ?_); rintro en w8 ⟨rfl, g, oc, k0, k1, k2, k3, kg, hg, hf⟩; have HG8 := Lib.hid hg; have HK8 := Lib.hid kg; have HF8 := Lib.hid hf; have HR8 := Lib.hid ((HRV.out.fr HF7.out hnv.out).fr hf (rv_apart hnv.out Hl.out hw6.out)); have t0 : w8.cell? ⟨vb + 1, 0, none⟩ = some (.slice none 0 0) := HR8.out.1 0 _ rfl; have zt0 : w8.frozen? ⟨vb + 1, 0, none⟩ = false := HR8.out.2 0 (by show 0 < 4; decide); have t1 : w8.cell? ⟨vb + 1, 1, none⟩ = some (.int .i64 0) := HR8.out.1 1 _ rfl; have zt1 : w8.frozen? ⟨vb + 1, 1, none⟩ = false := HR8.out.2 1 (by show 1 < 4; decide); have t2 : w8.cell? ⟨vb + 1, 2, none⟩ = some (.int .u32 0) := HR8.out.1 2 _ rfl; have zt2 : w8.frozen? ⟨vb + 1, 2, none⟩ = false := HR8.out.2 2 (by show 2 < 4; decide); have t3 : w8.cell? ⟨vb + 1, 3, none⟩ = some (.int .i64 0) := HR8.out.1 3 _ rfl; have zt3 : w8.frozen? ⟨vb + 1, 3, none⟩ = false := HR8.out.2 3 (by show 3 < 4; decide); clear kg hg hf))
    have HR9 := Lib.hid ((((HR8.out.set (i := 0) (v := .slice (some ⟨g, 0, none⟩) 1 oc) (by show 0 < 4; decide)).set (i := 1) (v := .int .i64 1) (by show 1 < 4; decide)).set (i := 2) (v := .int .u32 44) (by show 2 < 4; decide)).set (i := 3) (v := .int .i64 0) (by show 3 < 4; decide))
    have HS9 := (((Fr.setCell (F := fun k => k = vb + 1) w8 ⟨vb + 1, 0, none⟩ (.slice (some ⟨g, 0, none⟩) 1 oc) rfl).trans (Fr.setCell _ ⟨vb + 1, 1, none⟩ (.int .i64 1) rfl)).trans (Fr.setCell _ ⟨vb + 1, 2, none⟩ (.int .u32 44) rfl)).trans (Fr.setCell _ ⟨vb + 1, 3, none⟩ (.int .i64 0) rfl)
    have HG9 := Lib.hid (HS9.cell HK8.out (by have h1 := HG8.out; have h2 := HF7.out.size; show ¬ g = vb + 1; omega))
    have HF9 := Lib.hid (((((F1.out.trans F2.out).mono (G := fun k => vb ≤ k) (fun _ _ x => x.elim)).up HF7.out (fun j e => by omega)).up HF8.out (fun j e => by have h1 := hw6.out; obtain ⟨h2, h3, _⟩ := Hl.out; omega)).up HS9 (fun j e => by omega))
    clear HS9
    generalize (((w8.setCell ⟨vb + 1, 0, none⟩ (.slice (some ⟨g, 0, none⟩) 1 oc)).setCell ⟨vb + 1, 1, none⟩ (.int .i64 1)).setCell ⟨vb + 1, 2, none⟩ (.int .u32 44)).setCell ⟨vb + 1, 3, none⟩ (.int .i64 0) = w9 at *
    have s0 : w9.cell? ⟨vb + 1, 0, none⟩ = some (.slice (some ⟨g, 0, none⟩) 1 oc) := HR9.out.1 0 _ rfl
    have s1 : w9.cell? ⟨vb + 1, 1, none⟩ = some (.int .i64 1) := HR9.out.1 1 _ rfl
    have s2 : w9.cell? ⟨vb + 1, 2, none⟩ = some (.int .u32 44) := HR9.out.1 2 _ rfl
    have s3 : w9.cell? ⟨vb + 1, 3, none⟩ = some (.int .i64 0) := HR9.out.1 3 _ rfl
    exact bodyPost_ret (v := .agg #[.slice (some ⟨g, 0, none⟩) 1 oc, .int .i64 1, .int .u32 44, .int .i64 0]) (by simp [results, Try.results10, go_sem, s0, s1, s2, s3]) rfl ⟨g, oc, rfl, HG9.out, HF9.out.fin HVB.out⟩
end Go.Proofs.Ytelgppoohjblnaa
