/-
  Runs (layer 14): a module's data, inputs, two numbers that came in, opened.
-/
import Derived.Test.YthdkmjbeemfbbaaQRnV
namespace Go.Proofs.Ythdkmjbeemfbbaa
open Go.ChangeShapes Go.WideShapes Go.ChangeAt Go.RowKit Go.Deep
set_option linter.unusedVariables false
set_option linter.unusedSimpArgs false
set_option linter.unnecessarySimpa false
theorem cellsE_by : Try.prog.cellsOf 5 = 1 := by kernel_rfl
theorem cellsE_wd : Try.prog.cellsOf 31 = 1 := by kernel_rfl
theorem cellsTwo : Try.prog.cellsOf 28 = 2 := by kernel_rfl
theorem cellsI1 : Try.prog.cellsOf 3 = 1 := by kernel_rfl
theorem wf_by {a : Int} (h : (Lit.int .u8 a).wf = true) : 0 ≤ a ∧ a ≤ 255 := by
  simpa [Lit.wf, IntKind.min, IntKind.max, IntKind.signed, IntKind.bits] using h
theorem wf_wd {a : Int} (h : (Lit.int .u32 a).wf = true) : 0 ≤ a ∧ a ≤ 4294967295 := by
  simpa [Lit.wf, IntKind.min, IntKind.max, IntKind.signed, IntKind.bits] using h
theorem okWide_array {P : Program} {w : World} {r : Reach} {base : Nat} {t : TypeId} {v : Value} {n : Nat} {e : TypeId} (ht : P.underlying t = some (.array n e)) (h : Value.okWide P w r base t v) : ∃ cs, v = .agg cs ∧ cs.size = P.cellsOf t := by
  simp only [Value.okWide, ht] at h
  obtain ⟨cs, h1, h2, _⟩ := h
  exact ⟨cs, h1, h2⟩
theorem agg_ofR {l c : List Value} (h : (Value.agg l.toArray).cells.toList = c) : Value.agg l.toArray = .agg c.toArray := by
  have e : l = c := by simpa [Value.cells] using h
  rw [e]
section
variable {H : Type} {enc : TypeId × Value → H} {w : World} {spare : Nat → Bool} {held : Bool}
set_option maxRecDepth 100000 in
theorem open_by {fuel : Nat} {cs : List Value} {x : DataW H × List MemPlace} (h : DataW.trod enc Try.prog w 0 spare held fuel 51 cs = some x) :
    ∃ (a : Option Addr) (l : List Int) (c : Nat), cs = [.slice a l.length c] ∧ ByA w a l ∧ ∀ y ∈ l, 0 ≤ y ∧ y ≤ 255 := by
  rcases open_slice Try.underlying51 h with ⟨rfl, _⟩ | ⟨a, len, cap, m, n, D, Pl, rfl, _, hl, hm, hmm, _, hi⟩
  · exact ⟨none, [], 0, rfl, fun k hk => by simp at hk, fun y hy => by simp at hy⟩
  · have hlm : len ≤ m := by rw [hmm]; split <;> omega
    have each : ∀ i, i < len → ∃ f : Int, w.cell? (a.add i) = some (.int .u8 f) ∧ 0 ≤ f ∧ f ≤ 255 := fun i hil => by
      obtain ⟨cs', h1, h2⟩ := hi i (by omega)
      rw [cellsE_by] at h1
      obtain ⟨f, rfl, _, hw⟩ := DataW.trod_int Try.underlying5 h2
      obtain ⟨_, _, hc⟩ := World.cells?_some h1
      have q := hc 0 (by decide)
      rw [Addr.add_add, Nat.mul_one, Nat.add_zero] at q
      exact ⟨f, q, wf_by hw⟩
    have hch : ∃ F : Nat → Int, ∀ i, i < len → w.cell? (a.add i) = some (.int .u8 (F i)) ∧ 0 ≤ F i ∧ F i ≤ 255 :=
      ⟨fun i => if hi : i < len then (each i hi).choose else 0, fun i hi => by simp only [dif_pos hi]; exact (each i hi).choose_spec⟩
    obtain ⟨F, hF⟩ := hch
    refine ⟨some a, (List.range len).map F, cap, by simp, fun k hk => ?_, fun y hy => ?_⟩
    · simp at hk
      have g0 := (hF 0 (by omega)).1
      obtain ⟨b, off, spot⟩ := a
      have hspot : spot = none := World.cell?_spot g0
      subst hspot
      have e : ((List.range len).map F).getD k 0 = F k := by simp [List.getD_eq_getElem?_getD, List.getElem?_range hk]
      rw [e]
      refine ⟨b, off, rfl, ?_⟩
      have := (hF k hk).1
      rw [Addr.add_lit] at this
      exact this
    · simp only [List.mem_map, List.mem_range] at hy
      obtain ⟨i, hil, rfl⟩ := hy
      exact (hF i hil).2
set_option maxRecDepth 100000 in
theorem open_wd {fuel : Nat} {cs : List Value} {x : DataW H × List MemPlace} (h : DataW.trod enc Try.prog w 0 spare held fuel 27 cs = some x) :
    ∃ (a : Option Addr) (l : List Int) (c : Nat), cs = [.slice a l.length c] ∧ InpAt w a l ∧ ∀ y ∈ l, 0 ≤ y ∧ y ≤ 4294967295 := by
  rcases open_slice Try.underlying27 h with ⟨rfl, _⟩ | ⟨a, len, cap, m, n, D, Pl, rfl, _, hl, hm, hmm, _, hi⟩
  · exact ⟨none, [], 0, rfl, fun k hk => by simp at hk, fun y hy => by simp at hy⟩
  · have hlm : len ≤ m := by rw [hmm]; split <;> omega
    have each : ∀ i, i < len → ∃ f : Int, w.cell? (a.add i) = some (.int .u32 f) ∧ 0 ≤ f ∧ f ≤ 4294967295 := fun i hil => by
      obtain ⟨cs', h1, h2⟩ := hi i (by omega)
      rw [cellsE_wd] at h1
      obtain ⟨f, rfl, _, hw⟩ := DataW.trod_int Try.underlying31 h2
      obtain ⟨_, _, hc⟩ := World.cells?_some h1
      have q := hc 0 (by decide)
      rw [Addr.add_add, Nat.mul_one, Nat.add_zero] at q
      exact ⟨f, q, wf_wd hw⟩
    have hch : ∃ F : Nat → Int, ∀ i, i < len → w.cell? (a.add i) = some (.int .u32 (F i)) ∧ 0 ≤ F i ∧ F i ≤ 4294967295 :=
      ⟨fun i => if hi : i < len then (each i hi).choose else 0, fun i hi => by simp only [dif_pos hi]; exact (each i hi).choose_spec⟩
    obtain ⟨F, hF⟩ := hch
    refine ⟨some a, (List.range len).map F, cap, by simp, fun k hk => ?_, fun y hy => ?_⟩
    · simp at hk
      have g0 := (hF 0 (by omega)).1
      obtain ⟨b, off, spot⟩ := a
      have hspot : spot = none := World.cell?_spot g0
      subst hspot
      have e : ((List.range len).map F).getD k 0 = F k := by simp [List.getD_eq_getElem?_getD, List.getElem?_range hk]
      rw [e]
      refine ⟨b, off, rfl, ?_⟩
      have := (hF k hk).1
      rw [Addr.add_lit] at this
      exact this
    · simp only [List.mem_map, List.mem_range] at hy
      obtain ⟨i, hil, rfl⟩ := hy
      exact (hF i hil).2
set_option maxRecDepth 100000 in
theorem open_two {fuel : Nat} {cs : List Value} {x : DataW H × List MemPlace} (h : DataW.trod enc Try.prog w 0 spare held fuel 28 cs = some x) :
    ∃ a b : Int, cs = [.int .i64 a, .int .i64 b] := by
  obtain ⟨xs, n, _, _, hl, hlen, hg⟩ := DataW.trod_array Try.underlying28 h
  rw [cellsTwo] at hl
  match cs, hl, xs, hlen with
  | [c0, c1], _, [y0, y1], _ =>
    have g0 : DataW.trod enc Try.prog w 0 spare held n 3 [c0] = some y0 := by simpa [cellsI1] using hg 0 (by decide)
    have g1 : DataW.trod enc Try.prog w 0 spare held n 3 [c1] = some y1 := by simpa [cellsI1] using hg 1 (by decide)
    obtain ⟨a0, e0, _, _⟩ := DataW.trod_int Try.underlying3 g0
    obtain ⟨a1, e1, _, _⟩ := DataW.trod_int Try.underlying3 g1
    simp only [List.cons.injEq, and_true] at e0 e1
    subst e0 e1
    exact ⟨a0, a1, rfl⟩
set_option maxRecDepth 100000 in
theorem open_datB {fuel : Nat} {cs : List Value} {x : DataW H × List MemPlace} (h : DataW.trod enc Try.prog w 0 spare held fuel 23 cs = some x) :
    ∃ (a : Option Addr) (l : List (List Int)) (c : Nat), cs = [.slice a l.length c] ∧ DatB w a l ∧ ∀ y ∈ l, ∀ z ∈ y, 0 ≤ z ∧ z ≤ 255 := by
  rcases open_slice Try.underlying23 h with ⟨rfl, _⟩ | ⟨a, len, cap, m, n, D, Pl, rfl, _, hl, hm, hmm, _, hi⟩
  · exact ⟨none, [], 0, rfl, fun k hk => by simp at hk, fun y hy => by simp at hy⟩
  · have hlm : len ≤ m := by rw [hmm]; split <;> omega
    have each : ∀ i, i < len → ∃ q : List Int, (∃ a' c', w.cell? (a.add i) = some (.slice a' q.length c') ∧ ByA w a' q) ∧ ∀ z ∈ q, 0 ≤ z ∧ z ≤ 255 := fun i hil => by
      obtain ⟨cs', h1, h2⟩ := hi i (by omega)
      rw [cellsS8] at h1
      obtain ⟨a', q, c', rfl, hq, hq2⟩ := open_by h2
      obtain ⟨_, _, hc⟩ := World.cells?_some h1
      have z := hc 0 (by decide)
      rw [Addr.add_add, Nat.mul_one, Nat.add_zero] at z
      exact ⟨q, ⟨a', c', z, hq⟩, hq2⟩
    have hch : ∃ F : Nat → List Int, ∀ i, i < len → (∃ a' c', w.cell? (a.add i) = some (.slice a' (F i).length c') ∧ ByA w a' (F i)) ∧ ∀ z ∈ F i, 0 ≤ z ∧ z ≤ 255 :=
      ⟨fun i => if hi : i < len then (each i hi).choose else [], fun i hi => by simp only [dif_pos hi]; exact (each i hi).choose_spec⟩
    obtain ⟨F, hF⟩ := hch
    refine ⟨some a, (List.range len).map F, cap, by simp, fun k hk => ?_, fun y hy => ?_⟩
    · simp at hk
      obtain ⟨_, _, g1, _⟩ := (hF 0 (by omega)).1
      obtain ⟨b, off, spot⟩ := a
      have hspot : spot = none := World.cell?_spot g1
      subst hspot
      have e : ((List.range len).map F).getD k [] = F k := by simp [List.getD_eq_getElem?_getD, List.getElem?_range hk]
      rw [e]
      obtain ⟨a', c', q, hq⟩ := (hF k hk).1
      rw [Addr.add_lit] at q
      exact ⟨b, off, a', c', rfl, q, hq⟩
    · simp only [List.mem_map, List.mem_range] at hy
      obtain ⟨i, hil, rfl⟩ := hy
      exact (hF i hil).2
set_option maxRecDepth 100000 in
/-- A module with what its data hold. -/
theorem open_mdlD {fuel : Nat} {cs : List Value} {x : DataW H × List MemPlace} (h : DataW.trod enc Try.prog w 0 spare held fuel 26 cs = some x) :
    ∃ (m : Mdl) (ga da pa : Option Addr) (gc dc pc : Nat) (dat : List (List Int)), cs = [.slice ga m.gl.length gc, .slice da m.da.length dc, .slice pa m.pr.length pc, .int .i64 m.mn] ∧ MdlAt w ga da pa m ∧ m.wide ∧ (∀ y ∈ m.da, y ≤ maxLen) ∧
      DatB w da dat ∧ dat.length = m.da.length ∧ (∀ k, k < m.da.length → (dat.getD k []).length = m.da.getD k 0) ∧ ∀ k j, 0 ≤ (dat.getD k []).getD j 0 ∧ (dat.getD k []).getD j 0 ≤ 255 := by
  obtain ⟨m, ga, da, pa, gc, dc, pc, hcs, hat, hwd, hdm⟩ := open_mdl h
  obtain ⟨xs, n, _, _, hl, hlen, hg⟩ := DataW.trod_struct Try.underlying26 h
  subst hcs
  rw [cellsMdl] at hl
  match xs, hlen with
  | [y0, y1, y2, y3], _ =>
    have g1 : DataW.trod enc Try.prog w 0 spare held n 23 [.slice da m.da.length dc] = some y1 := by simpa [cellsInt, cellsSs, cellsSd, cellsSp] using hg 1 _ rfl
    obtain ⟨a, dat, c, e1, hdb, hdu⟩ := open_datB g1
    simp only [List.cons.injEq, and_true] at e1
    injection e1 with e2 e3 e4
    subst e2
    refine ⟨m, ga, da, pa, gc, dc, pc, dat, rfl, hat, hwd, hdm, hdb, e3.symm, fun k hk => ?_, fun k j => ?_⟩
    · obtain ⟨g, o, a1, c1, e5, h5⟩ := hat.d k hk
      obtain ⟨g', o', a2, c2, e6, h6, _⟩ := hdb k (by omega)
      rw [e5] at e6
      injection e6 with e6
      injection e6 with e7 e8
      subst e7 e8
      rw [h5] at h6
      injection h6 with h6
      injection h6 with _ h7 _
      exact h7.symm
    · by_cases hk : k < dat.length
      · have hy : dat.getD k [] ∈ dat := by rw [List.getD_eq_getElem?_getD, List.getElem?_eq_getElem hk]; exact List.getElem_mem _
        by_cases hj : j < (dat.getD k []).length
        · have hz : (dat.getD k []).getD j 0 ∈ dat.getD k [] := by rw [List.getD_eq_getElem?_getD (l := dat.getD k []), List.getElem?_eq_getElem hj]; exact List.getElem_mem _
          exact hdu _ hy _ hz
        · rw [List.getD_eq_getElem?_getD (l := dat.getD k []), List.getElem?_eq_none (by omega)]
          exact ⟨by decide, by decide⟩
      · rw [List.getD_eq_getElem?_getD (l := dat), List.getElem?_eq_none (by omega)]
        exact ⟨by simp, by simp⟩
end
end Go.Proofs.Ythdkmjbeemfbbaa
