/-
  Memories (layer 11): a pointer is kept.
-/
import Derived.Test.YtonkfgjmienalaaStoT
import Derived.RegionTactic
import Derived.ChangeAlike
namespace Go.Proofs.Ytonkfgjmienalaa
open Go.RowKit Go.Maps
set_option linter.unusedVariables false
set_option linter.unusedSimpArgs false
def PV.v (p : PV) : Value := .agg #[.int .i64 p.ob, .int .i64 p.lo, .int .i64 p.hi, .int .i64 p.off]
def PV.z (p : PV) : Bool := p.ob == 0 && p.lo == 0 && p.hi == 0 && p.off == 0
theorem PV.z_iff {p : PV} : p.z = true ↔ p = pv0 := by
  obtain ⟨a, b, c, d⟩ := p
  simp [PV.z, pv0, and_assoc]
theorem eq_ptr (a b c d : Int) (w : World) : Sem.run Try.prog (binOp BinOp.eql 24 (.agg #[.int .i64 a, .int .i64 b, .int .i64 c, .int .i64 d]) (.agg #[.int .i64 0, .int .i64 0, .int .i64 0, .int .i64 0])) w = .ok (.bool (a == 0 && b == 0 && c == 0 && d == 0)) w := by
  go_simp
  by_cases h1 : a = 0 <;> by_cases h2 : b = 0 <;> by_cases h3 : c = 0 <;> by_cases h4 : d = 0 <;> simp [h1, h2, h3, h4]
theorem map_nil (w : World) : Sem.run Try.prog (binOp BinOp.eql 44 (.map none) (.map none)) w = .ok (.bool true) w := by kernel_rfl
theorem map_not (b : Nat) (w : World) : Sem.run Try.prog (binOp BinOp.eql 44 (.map (some b)) (.map none)) w = .ok (.bool false) w := by kernel_rfl
theorem SAt.setmp {w : World} {sb ob : Nat} {sz : Int} {ch mp : Value} (h : SAt w sb ob sz ch mp false) (mp' : Value) : SAt (w.setCell ⟨ob, 2, none⟩ mp') sb ob sz ch mp' false := by
  obtain ⟨cap, hs⟩ := h.s
  have g : Fr (fun j => j = ob) w (w.setCell ⟨ob, 2, none⟩ mp') := Fr.setCell (F := fun j => j = ob) _ _ _ rfl
  exact ⟨⟨cap, g.cell hs h.ne⟩, set_keep h.o0 (by decide), set_keep h.o1 (by decide), World.cell?_setCell_same _ _ _ h.o2, set_keep h.o3 (by decide), (g.frozen hs h.ne).trans h.sf, fun j hj => by rw [World.frozen?_setCell]; exact h.of j hj, h.ne⟩
set_option maxRecDepth 100000 in
set_option maxHeartbeats 4000000 in
theorem keep_zero {w : World} {sb ob : Nat} {sz : Int} {ch mp : Value} (p : PV) (hp : p = pv0) (off : Int) : Calls Try.prog 15 #[.pointer (some ⟨ob, 0, none⟩), .int .i64 off, p.v] w fun r w' => r = .returned (.tuple #[]) ∧ Fr (fun _ => False) w w' := by
  subst hp
  have e0 : ∀ w : World, Sem.run Try.prog (binOp BinOp.eql 24 (.agg #[.int .i64 0, .int .i64 0, .int .i64 0, .int .i64 0]) (.agg #[.int .i64 0, .int .i64 0, .int .i64 0, .int .i64 0])) w = .ok (.bool true) w := fun w => eq_ptr 0 0 0 0 w
  show Calls Try.prog 15 #[.pointer (some ⟨ob, 0, none⟩), .int .i64 off, .agg #[.int .i64 0, .int .i64 0, .int .i64 0, .int .i64 0]] w _
  go_enter Try.func15, Try.ntmps15
  go_wp2
  exact bodyPost_ret (v := .tuple #[]) (results_none Try.results15 _ _ _) rfl ⟨rfl, fr_al (Fr.refl _ _) _⟩
set_option maxRecDepth 100000 in
set_option maxHeartbeats 4000000 in
theorem keep_map {w : World} {sb ob b n : Nat} {sz : Int} {ch : Value} {D : DataW Unit} (h : SAt w sb ob sz ch (.map (some b)) false) (hown : Owns w b n D) (hn : n ≤ 900) (hb : b ≠ ob ∧ b ≠ sb) (p : PV) (hp : p.z = false) (off : Int) (ho : 0 ≤ off ∧ off ≤ 100000) :
    Calls Try.prog 15 #[.pointer (some ⟨ob, 0, none⟩), .int .i64 off, p.v] w fun r w' => r = .returned (.tuple #[]) ∧ Owns w' b (n + 1) (D.put (.int .i64 off) p.d) ∧ Fr (fun j => j = b) w w' := by
  obtain ⟨a0, a1, a2, a3⟩ := p
  have e0 := eq_ptr a0 a1 a2 a3
  have e1 : (a0 == 0 && a1 == 0 && a2 == 0 && a3 == 0) = false := hp
  rw [e1] at e0
  have mn := map_not b
  have o2 := h.o2
  have o2a : (w.alloc (.cells #[.int .i64 a0, .int .i64 a1, .int .i64 a2, .int .i64 a3] 24)).cell? ⟨ob, 2, none⟩ = some (.map (some b)) := (fr_al (Fr.refl (fun _ => False) w) _).cell o2 id
  have HO := Lib.hid (hown.alloc (.cells #[.int .i64 a0, .int .i64 a1, .int .i64 a2, .int .i64 a3] 24))
  have FW := Lib.hid (fr_al (Fr.refl (fun j => j = b) w) (.cells #[.int .i64 a0, .int .i64 a1, .int .i64 a2, .int .i64 a3] 24))
  obtain ⟨w2, hu, hown2, hg2⟩ := World.ownsMap.update (w := (w.alloc (.cells #[.int .i64 a0, .int .i64 a1, .int .i64 a2, .int .i64 a3] 24)).drew) HO.out lawI Try.underlying44 (by unfold maxLen; omega) (keyI (k := off) (by omega)) (ptrElem_mk a0 a1 a2 a3)
  have HR := Lib.hid hown2
  have HF2 : Hid (Fr (fun j => j = b) w w2) := Lib.hid ((FW.out.drewN 1).trans ((Fr.of_by hg2).mono (fun j _ e => by injection e with e; exact e.symm)))
  clear h hown e1 hp hown2 hg2
  show Calls Try.prog 15 #[.pointer (some ⟨ob, 0, none⟩), .int .i64 off, .agg #[.int .i64 a0, .int .i64 a1, .int .i64 a2, .int .i64 a3]] w _
  go_enter Try.func15, Try.ntmps15
  go_wp2
  go_region
  all_goals go_wp2
  all_goals go_end0
  all_goals exact ⟨rfl, HR.out, HF2.out⟩
set_option maxRecDepth 100000 in
set_option maxHeartbeats 4000000 in
theorem keep_new {w : World} {sb ob : Nat} {sz : Int} {ch : Value} (h : SAt w sb ob sz ch (.map none) false) (p : PV) (hp : p.z = false) (off : Int) (ho : 0 ≤ off ∧ off ≤ 100000) :
    Calls Try.prog 15 #[.pointer (some ⟨ob, 0, none⟩), .int .i64 off, p.v] w fun r w' => r = .returned (.tuple #[]) ∧ ∃ b, w.heap.size ≤ b ∧ SAt w' sb ob sz ch (.map (some b)) false ∧ Owns w' b 1 ((DataW.map []).put (.int .i64 off) p.d) ∧ Fr (fun j => j = ob) w w' := by
  obtain ⟨a0, a1, a2, a3⟩ := p
  have e0 := eq_ptr a0 a1 a2 a3
  have e1 : (a0 == 0 && a1 == 0 && a2 == 0 && a3 == 0) = false := hp
  rw [e1] at e0
  have mn := map_nil
  have o2 := h.o2
  have f2 := h.of 2 (by decide)
  have lo := World.block_lt_of_cell? w _ o2
  have ls : sb < w.heap.size := by obtain ⟨cap, hs⟩ := h.s; exact World.block_lt_of_cell? w _ hs
  have hmm := @run_makeMap Try.prog
  obtain ⟨W0, hW0⟩ : ∃ W0, W0 = w.setCell ⟨ob, 2, none⟩ (.map (some (w.heap.size + 1))) := ⟨_, rfl⟩
  have s0 : W0.heap.size = w.heap.size := by rw [hW0]; simp
  have g0 : Fr (fun j => j = ob) w W0 := by rw [hW0]; exact Fr.setCell (F := fun j => j = ob) _ _ _ rfl
  have hA : Fr (fun _ => False) W0 (W0.alloc (.cells #[.int .i64 a0, .int .i64 a1, .int .i64 a2, .int .i64 a3] 24)) := fr_al (Fr.refl _ _) _
  have hA2 := fr_al hA (.map #[] 0)
  have eB : (W0.alloc (.cells #[.int .i64 a0, .int .i64 a1, .int .i64 a2, .int .i64 a3] 24)).heap.size = w.heap.size + 1 := by simp [s0]
  have hM := World.ownsMap_made (W0.alloc (.cells #[.int .i64 a0, .int .i64 a1, .int .i64 a2, .int .i64 a3] 24)) Try.prog 3 ptrElem
  rw [eB] at hM
  have hS0 : SAt W0 sb ob sz ch (.map (some (w.heap.size + 1))) false := by rw [hW0]; exact h.setmp _
  have hSA := hS0.quiet hA2
  have hbx : ∀ j v, (#[.int .i64 a0, .int .i64 a1, .int .i64 a2, .int .i64 a3] : Array Value)[j]? = some v → ((W0.alloc (.cells #[.int .i64 a0, .int .i64 a1, .int .i64 a2, .int .i64 a3] 24)).alloc (.map #[] 0)).cell? ⟨w.heap.size, j, none⟩ = some v := fun j v hv => by rw [← s0]; exact (fr_al (Fr.refl (fun _ => False) _) _).cell (fcell W0 _ _ j v hv) id
  have hq2 := hSA.o2
  obtain ⟨w2, hu, hown2, hg2⟩ := World.ownsMap.update (w := ((W0.alloc (.cells #[.int .i64 a0, .int .i64 a1, .int .i64 a2, .int .i64 a3] 24)).alloc (.map #[] 0)).drew) hM lawI Try.underlying44 (by unfold maxLen; omega) (keyI (k := off) (by omega)) (ptrElem_mk a0 a1 a2 a3)
  have hg3 : Fr (fun j => j = w.heap.size + 1) ((W0.alloc (.cells #[.int .i64 a0, .int .i64 a1, .int .i64 a2, .int .i64 a3] 24)).alloc (.map #[] 0)) w2 := ((Fr.refl _ _).drewN 1).trans ((Fr.of_by hg2).mono (fun j _ e => by injection e with e; exact e.symm))
  have HE : Hid (∃ b, w.heap.size ≤ b ∧ SAt w2 sb ob sz ch (.map (some b)) false ∧ Owns w2 b 1 ((DataW.map []).put (.int .i64 off) (PV.d ⟨a0, a1, a2, a3⟩)) ∧ Fr (fun j => j = ob) w w2) := Lib.hid ⟨w.heap.size + 1, by omega, hSA.kept hg3 (by show ¬ sb = _; omega) (by show ¬ ob = _; simp only at lo; omega), hown2, (g0.trans (hA2.mono (fun _ _ x => x.elim))).trans' hg3 (fun j hj e => by omega)⟩
  have b0 := hbx 0 _ rfl
  have b1 := hbx 1 _ rfl
  have b2 := hbx 2 _ rfl
  have b3 := hbx 3 _ rfl
  clear h e1 hp hA hA2 eB hM hS0 hbx hSA hown2 hg2 hg3 g0 s0
  subst hW0
  show Calls Try.prog 15 #[.pointer (some ⟨ob, 0, none⟩), .int .i64 off, .agg #[.int .i64 a0, .int .i64 a1, .int .i64 a2, .int .i64 a3]] w _
  go_enter Try.func15, Try.ntmps15
  go_wp2
  go_region
  all_goals go_wp2
  all_goals go_end0
  all_goals exact ⟨rfl, HE.out⟩
end Go.Proofs.Ytonkfgjmienalaa
