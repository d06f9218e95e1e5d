/-
  Modules (layer 13): slots, procedures and modules plainly, and in memory.
-/
import Derived.Test.YthdkmjbeemfbbaaQOpn
namespace Go.Proofs.Ythdkmjbeemfbbaa
open Go.ChangeShapes Go.WideShapes Go.ChangeAt Go.RowKit Go.Deep
set_option linter.unusedVariables false
set_option linter.unusedSimpArgs false
/-- A variable, plainly. -/
structure Slt where
  nm : ByteArray
  sz : Int
  al : Int
  ce : Int
/-- A procedure, plainly. -/
structure Prc where
  nm : ByteArray
  vd : Bool
  pa : Int
  rg : Int
  ob : List Slt
  bl : List Bk
/-- A module, plainly; of its data the lengths alone. -/
structure Mdl where
  gl : List Slt
  da : List Nat
  pr : List Prc
  mn : Int
def slt0 : Slt := ⟨⟨#[]⟩, 0, 0, 0⟩
def prc0 : Prc := ⟨⟨#[]⟩, false, 0, 0, [], []⟩
def SltAt (w : World) (g o : Nat) (s : Slt) : Prop := w.cell? ⟨g, o, none⟩ = some (.string s.nm) ∧ w.cell? ⟨g, o + 1, none⟩ = some (.int .i64 s.sz) ∧ w.cell? ⟨g, o + 2, none⟩ = some (.int .i64 s.al) ∧ w.cell? ⟨g, o + 3, none⟩ = some (.int .i64 s.ce)
theorem SltAt.fr {w w' : World} {g o : Nat} {s : Slt} (h : SltAt w g o s) (hf : Fr (fun _ => False) w w') : SltAt w' g o s := by
  obtain ⟨k0, k1, k2, k3⟩ := h
  exact ⟨hf.cell k0 id, hf.cell k1 id, hf.cell k2 id, hf.cell k3 id⟩
def SltL (w : World) (a : Option Addr) (l : List Slt) : Prop := ∀ k, k < l.length → ∃ g o, a = some ⟨g, o, none⟩ ∧ SltAt w g (o + k * 4) (l.getD k slt0)
theorem SltL.fr {w w' : World} {a : Option Addr} {l : List Slt} (h : SltL w a l) (hf : Fr (fun _ => False) w w') : SltL w' a l := fun k hk => by
  obtain ⟨g, o, e, c⟩ := h k hk
  exact ⟨g, o, e, c.fr hf⟩
/-- Rows of data: how long each is. -/
def DatL (w : World) (a : Option Addr) (l : List Nat) : Prop := ∀ k, k < l.length → ∃ g o a' c', a = some ⟨g, o, none⟩ ∧ w.cell? ⟨g, o + k, none⟩ = some (.slice a' (l.getD k 0) c')
theorem DatL.fr {w w' : World} {a : Option Addr} {l : List Nat} (h : DatL w a l) (hf : Fr (fun _ => False) w w') : DatL w' a l := fun k hk => by
  obtain ⟨g, o, a', c', e, c⟩ := h k hk
  exact ⟨g, o, a', c', e, hf.cell c id⟩
def PrcAt (w : World) (g o : Nat) (p : Prc) : Prop :=
  w.cell? ⟨g, o, none⟩ = some (.string p.nm) ∧ w.cell? ⟨g, o + 1, none⟩ = some (.bool p.vd) ∧ w.cell? ⟨g, o + 2, none⟩ = some (.int .i64 p.pa) ∧ w.cell? ⟨g, o + 3, none⟩ = some (.int .i64 p.rg) ∧
  (∃ a c, w.cell? ⟨g, o + 4, none⟩ = some (.slice a p.ob.length c) ∧ SltL w a p.ob) ∧ ∃ a c, w.cell? ⟨g, o + 5, none⟩ = some (.slice a p.bl.length c) ∧ BkL w a p.bl
theorem PrcAt.fr {w w' : World} {g o : Nat} {p : Prc} (h : PrcAt w g o p) (hf : Fr (fun _ => False) w w') : PrcAt w' g o p := by
  obtain ⟨k0, k1, k2, k3, ⟨a, c, k4, ka⟩, ⟨a', c', k5, kb⟩⟩ := h
  exact ⟨hf.cell k0 id, hf.cell k1 id, hf.cell k2 id, hf.cell k3 id, ⟨a, c, hf.cell k4 id, ka.fr hf⟩, ⟨a', c', hf.cell k5 id, kb.fr hf⟩⟩
def PrcL (w : World) (a : Option Addr) (l : List Prc) : Prop := ∀ k, k < l.length → ∃ g o, a = some ⟨g, o, none⟩ ∧ PrcAt w g (o + k * 6) (l.getD k prc0)
theorem PrcL.fr {w w' : World} {a : Option Addr} {l : List Prc} (h : PrcL w a l) (hf : Fr (fun _ => False) w w') : PrcL w' a l := fun k hk => by
  obtain ⟨g, o, e, c⟩ := h k hk
  exact ⟨g, o, e, c.fr hf⟩
theorem getD_memP {l : List Prc} {k : Nat} (h : k < l.length) : l.getD k prc0 ∈ l := by
  rw [List.getD_eq_getElem?_getD, List.getElem?_eq_getElem h]; exact List.getElem_mem _
/-- Where a module's three slices lie. -/
structure MdlAt (w : World) (ga da pa : Option Addr) (m : Mdl) : Prop where
  g : SltL w ga m.gl
  d : DatL w da m.da
  p : PrcL w pa m.pr
theorem MdlAt.fr {w w' : World} {ga da pa : Option Addr} {m : Mdl} (h : MdlAt w ga da pa m) (hf : Fr (fun _ => False) w w') : MdlAt w' ga da pa m := ⟨h.g.fr hf, h.d.fr hf, h.p.fr hf⟩
/-- A register, and what else may stand in a place. -/
def RgP (R r : Int) : Prop := 0 ≤ r ∧ r < R
def SltP (s : Slt) : Prop := 1 ≤ s.sz ∧ s.sz ≤ 32768 ∧ (s.al = 1 ∨ s.al = 4)
def SltsP (l : List Slt) : Prop := ∀ k, k < l.length → SltP (l.getD k slt0)
def calP (m : Mdl) (i : Inn) : Int := (m.pr.getD i.x5.toNat prc0).pa
def calV (m : Mdl) (i : Inn) : Bool := (m.pr.getD i.x5.toNat prc0).vd
def ArgP (R : Int) (l : List Int) : Prop := ∀ k, k < l.length → RgP R (l.getD k 0)
/-- An instruction is right: how many registers, objects, globals, procedures there are; what the called one takes and whether it gives nothing. -/
def InsP (R : Int) (nO nG nP : Nat) (cp : Int) (cv : Bool) (i : Inn) : Prop :=
  1 ≤ i.x0 ∧ i.x0 ≤ 12 ∧
  (i.x0 = 7 → 0 ≤ i.x5 ∧ i.x5 < nO) ∧ (i.x0 = 8 → 0 ≤ i.x5 ∧ i.x5 < nG) ∧ (i.x0 = 9 → 0 ≤ i.x5 ∧ i.x5 < nP) ∧ (i.x0 < 7 ∨ 9 < i.x0 → i.x5 = 0) ∧
  (i.x0 < 6 ∨ i.x0 = 7 ∨ i.x0 = 8 ∨ i.x0 = 11 → RgP R i.x1) ∧ (i.x0 = 6 ∨ i.x0 = 10 ∨ i.x0 = 12 → i.x1 = -1) ∧ (i.x0 = 9 → cv = false → RgP R i.x1) ∧ (i.x0 = 9 → cv = true → i.x1 = -1) ∧
  (1 < i.x0 ∧ i.x0 < 7 ∨ i.x0 = 10 → RgP R i.x2) ∧ (i.x0 = 1 ∨ 6 < i.x0 ∧ i.x0 ≠ 10 → i.x2 = -1) ∧
  (i.x0 = 3 ∨ i.x0 = 6 → RgP R i.x3) ∧ (i.x0 ≠ 3 ∧ i.x0 ≠ 6 → i.x3 = -1) ∧
  (i.x0 = 9 → (i.args.length : Int) = cp ∧ ArgP R i.args) ∧ (i.x0 ≠ 9 → i.args.length = 0) ∧
  (i.lg = true → i.x0 ≠ 10 ∧ i.x0 ≠ 12 ∧ (i.x0 = 9 → i.x1 ≠ -1)) ∧
  (i.x0 = 3 → 1 ≤ i.x4 ∧ i.x4 ≤ 16) ∧ (i.x0 = 4 → 17 ≤ i.x4 ∧ i.x4 ≤ 19) ∧ (i.x0 ≠ 3 ∧ i.x0 ≠ 4 → i.x4 = 0) ∧
  (i.x0 ≠ 1 → i.u = 0) ∧
  (4 < i.x0 ∧ i.x0 < 9 → -32768 ≤ i.x6 ∧ i.x6 ≤ 32768) ∧ (i.x0 < 5 ∨ 8 < i.x0 → i.x6 = 0) ∧
  (i.x0 = 5 ∨ i.x0 = 6 → i.x7 = 1 ∨ i.x7 = 4) ∧ (i.x0 < 5 ∨ 6 < i.x0 → i.x7 = 0)
def EndP (vd : Bool) (R : Int) (nb : Nat) (b : Bk) : Prop :=
  (b.en = 1 ∧ b.a = -1 ∧ (0 ≤ b.t ∧ b.t < nb) ∧ b.el = 0) ∨ (b.en = 2 ∧ RgP R b.a ∧ (0 ≤ b.t ∧ b.t < nb) ∧ 0 ≤ b.el ∧ b.el < nb) ∨ (b.en = 3 ∧ (vd = true → b.a = -1) ∧ (vd = false → RgP R b.a) ∧ b.t = 0 ∧ b.el = 0)
def InsM (m : Mdl) (p : Prc) (i : Inn) : Prop := InsP p.rg p.ob.length m.gl.length m.pr.length (calP m i) (calV m i) i
def BkP (m : Mdl) (p : Prc) (b : Bk) : Prop := EndP p.vd p.rg p.bl.length b ∧ ∀ j, j < b.ins.length → InsM m p (b.ins.getD j inn0)
def OutP (p : Prc) : Prop := (0 ≤ p.pa ∧ p.pa ≤ 6) ∧ (p.pa ≤ p.rg ∧ p.rg ≤ 8000) ∧ p.ob.length ≤ 400 ∧ SltsP p.ob ∧ (1 ≤ p.bl.length ∧ p.bl.length ≤ 4000) ∧ cntL p.bl p.bl.length ≤ 20000
def PrcP (m : Mdl) (p : Prc) : Prop := OutP p ∧ ∀ k, k < p.bl.length → BkP m p (p.bl.getD k bk0)
def MdlO (m : Mdl) : Prop := m.da.length = m.gl.length ∧ m.gl.length ≤ 200 ∧ (1 ≤ m.pr.length ∧ m.pr.length ≤ 200) ∧ (0 ≤ m.mn ∧ m.mn < m.pr.length) ∧ (m.pr.getD m.mn.toNat prc0).pa = 0 ∧ (m.pr.getD m.mn.toNat prc0).vd = false ∧ SltsP m.gl ∧ ∀ k, k < m.da.length → (m.da.getD k 0 : Int) = (m.gl.getD k slt0).sz
def MdlP (m : Mdl) : Prop := MdlO m ∧ ∀ k, k < m.pr.length → PrcP m (m.pr.getD k prc0)
/-- What is known of what came in. -/
structure Prc.wide (p : Prc) : Prop where
  o : p.ob.length ≤ maxLen
  b : p.bl.length ≤ maxLen
  w : ∀ y ∈ p.bl, y.wide
structure Mdl.wide (m : Mdl) : Prop where
  g : m.gl.length ≤ maxLen
  d : m.da.length ≤ maxLen
  p : m.pr.length ≤ maxLen
  w : ∀ y ∈ m.pr, y.wide
section
variable {H : Type} {enc : TypeId × Value → H} {w : World} {spare : Nat → Bool} {held : Bool}
theorem cellsSlot : Try.prog.cellsOf 63 = 4 := by kernel_rfl
theorem cellsMdl : Try.prog.cellsOf 26 = 4 := by kernel_rfl
theorem cellsSd : Try.prog.cellsOf 23 = 1 := by kernel_rfl
theorem cellsSp : Try.prog.cellsOf 24 = 1 := by kernel_rfl
theorem cellsS8 : Try.prog.cellsOf 51 = 1 := by kernel_rfl
set_option maxRecDepth 100000 in
theorem open_slt {fuel : Nat} {cs : List Value} {x : DataW H × List MemPlace} (h : DataW.trod enc Try.prog w 0 spare held fuel 63 cs = some x) :
    ∃ s : Slt, cs = [.string s.nm, .int .i64 s.sz, .int .i64 s.al, .int .i64 s.ce] := by
  obtain ⟨xs, n, _, _, hl, hlen, hg⟩ := DataW.trod_struct Try.underlying63 h
  rw [cellsSlot] at hl
  match cs, hl, xs, hlen with
  | [c0, c1, c2, c3], _, [y0, y1, y2, y3], _ =>
    have g0 : DataW.trod enc Try.prog w 0 spare held n 9 [c0] = some y0 := by simpa [cellsInt, cellsStr] using hg 0 _ rfl
    have g1 : DataW.trod enc Try.prog w 0 spare held n 3 [c1] = some y1 := by simpa [cellsInt, cellsStr] using hg 1 _ rfl
    have g2 : DataW.trod enc Try.prog w 0 spare held n 3 [c2] = some y2 := by simpa [cellsInt, cellsStr] using hg 2 _ rfl
    have g3 : DataW.trod enc Try.prog w 0 spare held n 3 [c3] = some y3 := by simpa [cellsInt, cellsStr] using hg 3 _ rfl
    obtain ⟨nm, e0, _⟩ := DataW.trod_string Try.underlying9 g0
    obtain ⟨a1, e1, _, _⟩ := DataW.trod_int Try.underlying3 g1
    obtain ⟨a2, e2, _, _⟩ := DataW.trod_int Try.underlying3 g2
    obtain ⟨a3, e3, _, _⟩ := DataW.trod_int Try.underlying3 g3
    simp only [List.cons.injEq, and_true] at e0 e1 e2 e3
    subst e0 e1 e2 e3
    exact ⟨⟨nm, a1, a2, a3⟩, rfl⟩
set_option maxRecDepth 100000 in
theorem open_slts {fuel : Nat} {cs : List Value} {x : DataW H × List MemPlace} (h : DataW.trod enc Try.prog w 0 spare held fuel 22 cs = some x) :
    ∃ (a : Option Addr) (l : List Slt) (c : Nat), cs = [.slice a l.length c] ∧ SltL w a l ∧ l.length ≤ maxLen := by
  rcases open_slice Try.underlying22 h with ⟨rfl, _⟩ | ⟨a, len, cap, m, n, D, Pl, rfl, _, hl, hm, hmm, _, hi⟩
  · exact ⟨none, [], 0, rfl, fun k hk => by simp at hk, by simp⟩
  · have hlm : len ≤ m := by rw [hmm]; split <;> omega
    have each : ∀ i, i < len → ∃ q : Slt, ∀ j y, ([.string q.nm, .int .i64 q.sz, .int .i64 q.al, .int .i64 q.ce] : List Value)[j]? = some y → w.cell? (a.add (i * 4 + j)) = some y := fun i hil => by
      obtain ⟨cs', h1, h2⟩ := hi i (by omega)
      rw [cellsSlot] at h1
      obtain ⟨q, rfl⟩ := open_slt h2
      obtain ⟨_, _, hc⟩ := World.cells?_some h1
      refine ⟨q, fun j y hy => ?_⟩
      have hj : j < 4 := by
        have := (List.getElem?_eq_some_iff.1 hy).1
        simpa using this
      rw [← Addr.add_add, hc j hj]
      exact hy
    have hch : ∃ F : Nat → Slt, ∀ i, i < len → ∀ j y, ([.string (F i).nm, .int .i64 (F i).sz, .int .i64 (F i).al, .int .i64 (F i).ce] : List Value)[j]? = some y → w.cell? (a.add (i * 4 + j)) = some y :=
      ⟨fun i => if hi : i < len then (each i hi).choose else slt0, fun i hi => by simp only [dif_pos hi]; exact (each i hi).choose_spec⟩
    obtain ⟨F, hF⟩ := hch
    refine ⟨some a, (List.range len).map F, cap, by simp, fun k hk => ?_, by simp; omega⟩
    simp at hk
    have g1 := hF 0 (by omega) 0 _ rfl
    obtain ⟨b, off, spot⟩ := a
    have hspot : spot = none := World.cell?_spot g1
    subst hspot
    have e : ((List.range len).map F).getD k slt0 = F k := by simp [List.getD_eq_getElem?_getD, List.getElem?_range hk]
    rw [e]
    have q' : ∀ j y, _ → w.cell? ⟨b, off + k * 4 + j, none⟩ = some y := fun j y hy => by
      have := hF k hk j y hy
      rw [Addr.add_lit, ← Nat.add_assoc] at this
      exact this
    exact ⟨b, off, rfl, q' 0 _ rfl, q' 1 _ rfl, q' 2 _ rfl, q' 3 _ rfl⟩
set_option maxRecDepth 100000 in
theorem open_das {fuel : Nat} {cs : List Value} {x : DataW H × List MemPlace} (h : DataW.trod enc Try.prog w 0 spare held fuel 23 cs = some x) :
    ∃ (a : Option Addr) (l : List Nat) (c : Nat), cs = [.slice a l.length c] ∧ DatL w a l ∧ l.length ≤ maxLen ∧ ∀ y ∈ l, y ≤ maxLen := by
  rcases open_slice Try.underlying23 h with ⟨rfl, _⟩ | ⟨a, len, cap, m, n, D, Pl, rfl, _, hl, hm, hmm, _, hi⟩
  · exact ⟨none, [], 0, rfl, fun k hk => by simp at hk, by simp, fun y hy => by simp at hy⟩
  · have hlm : len ≤ m := by rw [hmm]; split <;> omega
    have each : ∀ i, i < len → ∃ q : Nat, (∃ a' c', w.cell? (a.add i) = some (.slice a' q c')) ∧ q ≤ maxLen := fun i hil => by
      obtain ⟨cs', h1, h2⟩ := hi i (by omega)
      rw [cellsS8] at h1
      have ho : ∃ (a' : Option Addr) (q c' : Nat), cs' = [.slice a' q c'] ∧ q ≤ maxLen := by
        rcases open_slice Try.underlying51 h2 with ⟨rfl, _⟩ | ⟨a2, len2, cap2, m2, n2, D2, Pl2, rfl, _, hl2, hm2, hmm2, _, hi2⟩
        · exact ⟨none, 0, 0, rfl, by simp⟩
        · exact ⟨some a2, len2, cap2, rfl, Nat.le_trans hl2 hm2⟩
      obtain ⟨a', q, c', rfl, hq⟩ := ho
      obtain ⟨_, _, hc⟩ := World.cells?_some h1
      have z := hc 0 (by decide)
      rw [Addr.add_add, Nat.mul_one, Nat.add_zero] at z
      exact ⟨q, ⟨a', c', z⟩, hq⟩
    have hch : ∃ F : Nat → Nat, ∀ i, i < len → (∃ a' c', w.cell? (a.add i) = some (.slice a' (F i) c')) ∧ F i ≤ maxLen :=
      ⟨fun i => if hi : i < len then (each i hi).choose else 0, fun i hi => by simp only [dif_pos hi]; exact (each i hi).choose_spec⟩
    obtain ⟨F, hF⟩ := hch
    refine ⟨some a, (List.range len).map F, cap, by simp, fun k hk => ?_, by simp; omega, fun y hy => ?_⟩
    · simp at hk
      obtain ⟨_, _, g1⟩ := (hF 0 (by omega)).1
      obtain ⟨b, off, spot⟩ := a
      have hspot : spot = none := World.cell?_spot g1
      subst hspot
      have e : ((List.range len).map F).getD k 0 = F k := by simp [List.getD_eq_getElem?_getD, List.getElem?_range hk]
      rw [e]
      obtain ⟨a', c', q⟩ := (hF k hk).1
      rw [Addr.add_lit] at q
      exact ⟨b, off, a', c', rfl, q⟩
    · simp only [List.mem_map, List.mem_range] at hy
      obtain ⟨i, hil, rfl⟩ := hy
      exact (hF i hil).2
set_option maxRecDepth 100000 in
theorem open_prcF {fuel : Nat} {cs : List Value} {x : DataW H × List MemPlace} (h : DataW.trod enc Try.prog w 0 spare held fuel 41 cs = some x) :
    ∃ p : Prc, (∃ oa oc ab cb, cs = [.string p.nm, .bool p.vd, .int .i64 p.pa, .int .i64 p.rg, .slice oa p.ob.length oc, .slice ab p.bl.length cb] ∧ SltL w oa p.ob ∧ BkL w ab p.bl) ∧ p.wide := by
  obtain ⟨xs, n, _, _, hl, hlen, hg⟩ := DataW.trod_struct Try.underlying41 h
  rw [cellsPrc] at hl
  match cs, hl, xs, hlen with
  | [c0, c1, c2, c3, c4, c5], _, [y0, y1, y2, y3, y4, y5], _ =>
    have g0 : DataW.trod enc Try.prog w 0 spare held n 9 [c0] = some y0 := by simpa [cellsInt, cellsStr, cellsBool, cellsSs, cellsSb] using hg 0 _ rfl
    have g1 : DataW.trod enc Try.prog w 0 spare held n 4 [c1] = some y1 := by simpa [cellsInt, cellsStr, cellsBool, cellsSs, cellsSb] using hg 1 _ rfl
    have g2 : DataW.trod enc Try.prog w 0 spare held n 3 [c2] = some y2 := by simpa [cellsInt, cellsStr, cellsBool, cellsSs, cellsSb] using hg 2 _ rfl
    have g3 : DataW.trod enc Try.prog w 0 spare held n 3 [c3] = some y3 := by simpa [cellsInt, cellsStr, cellsBool, cellsSs, cellsSb] using hg 3 _ rfl
    have g4 : DataW.trod enc Try.prog w 0 spare held n 22 [c4] = some y4 := by simpa [cellsInt, cellsStr, cellsBool, cellsSs, cellsSb] using hg 4 _ rfl
    have g5 : DataW.trod enc Try.prog w 0 spare held n 39 [c5] = some y5 := by simpa [cellsInt, cellsStr, cellsBool, cellsSs, cellsSb] using hg 5 _ rfl
    obtain ⟨nm, e0, _⟩ := DataW.trod_string Try.underlying9 g0
    obtain ⟨vd, e1, _⟩ := DataW.trod_bool Try.underlying4 g1
    obtain ⟨a2, e2, _, _⟩ := DataW.trod_int Try.underlying3 g2
    obtain ⟨a3, e3, _, _⟩ := DataW.trod_int Try.underlying3 g3
    obtain ⟨oa, os, oc, e4, hos, hon⟩ := open_slts g4
    obtain ⟨ab, l, cb, e5, hat, hlm, hwd⟩ := open_bks g5
    simp only [List.cons.injEq, and_true] at e0 e1 e2 e3 e4 e5
    subst e0 e1 e2 e3 e4 e5
    exact ⟨⟨nm, vd, a2, a3, os, l⟩, ⟨oa, oc, ab, cb, rfl, hos, hat⟩, hon, hlm, hwd⟩
set_option maxRecDepth 100000 in
theorem open_prcs {fuel : Nat} {cs : List Value} {x : DataW H × List MemPlace} (h : DataW.trod enc Try.prog w 0 spare held fuel 24 cs = some x) :
    ∃ (a : Option Addr) (l : List Prc) (c : Nat), cs = [.slice a l.length c] ∧ PrcL w a l ∧ l.length ≤ maxLen ∧ ∀ y ∈ l, y.wide := by
  rcases open_slice Try.underlying24 h with ⟨rfl, _⟩ | ⟨a, len, cap, m, n, D, Pl, rfl, _, hl, hm, hmm, _, hi⟩
  · exact ⟨none, [], 0, rfl, fun k hk => by simp at hk, by simp, fun y hy => by simp at hy⟩
  · have hlm : len ≤ m := by rw [hmm]; split <;> omega
    have each : ∀ i, i < len → ∃ q : Prc, (∃ oa oc ab cb, (∀ j y, ([.string q.nm, .bool q.vd, .int .i64 q.pa, .int .i64 q.rg, .slice oa q.ob.length oc, .slice ab q.bl.length cb] : List Value)[j]? = some y → w.cell? (a.add (i * 6 + j)) = some y) ∧ SltL w oa q.ob ∧ BkL w ab q.bl) ∧ q.wide := fun i hil => by
      obtain ⟨cs', h1, h2⟩ := hi i (by omega)
      rw [cellsPrc] at h1
      obtain ⟨q, ⟨oa, oc, ab, cb, rfl, ha, hb⟩, hq⟩ := open_prcF h2
      obtain ⟨_, _, hc⟩ := World.cells?_some h1
      refine ⟨q, ⟨oa, oc, ab, cb, fun j y hy => ?_, ha, hb⟩, hq⟩
      have hj : j < 6 := by
        have := (List.getElem?_eq_some_iff.1 hy).1
        simpa using this
      rw [← Addr.add_add, hc j hj]
      exact hy
    have hch : ∃ F : Nat → Prc, ∀ i, i < len → (∃ oa oc ab cb, (∀ j y, ([.string (F i).nm, .bool (F i).vd, .int .i64 (F i).pa, .int .i64 (F i).rg, .slice oa (F i).ob.length oc, .slice ab (F i).bl.length cb] : List Value)[j]? = some y → w.cell? (a.add (i * 6 + j)) = some y) ∧ SltL w oa (F i).ob ∧ BkL w ab (F i).bl) ∧ (F i).wide :=
      ⟨fun i => if hi : i < len then (each i hi).choose else prc0, fun i hi => by simp only [dif_pos hi]; exact (each i hi).choose_spec⟩
    obtain ⟨F, hF⟩ := hch
    refine ⟨some a, (List.range len).map F, cap, by simp, fun k hk => ?_, by simp; omega, fun y hy => ?_⟩
    · simp at hk
      obtain ⟨⟨_, _, _, _, g0, _⟩, _⟩ := hF 0 (by omega)
      have g1 := g0 0 _ rfl
      obtain ⟨b, off, spot⟩ := a
      have hspot : spot = none := World.cell?_spot g1
      subst hspot
      have e : ((List.range len).map F).getD k prc0 = F k := by simp [List.getD_eq_getElem?_getD, List.getElem?_range hk]
      rw [e]
      obtain ⟨⟨oa, oc, ab, cb, q, ha, hb⟩, _⟩ := hF k hk
      have q' : ∀ j y, _ → w.cell? ⟨b, off + k * 6 + j, none⟩ = some y := fun j y hy => by
        have := q j y hy
        rw [Addr.add_lit, ← Nat.add_assoc] at this
        exact this
      exact ⟨b, off, rfl, q' 0 _ rfl, q' 1 _ rfl, q' 2 _ rfl, q' 3 _ rfl, ⟨oa, oc, q' 4 _ rfl, ha⟩, ⟨ab, cb, q' 5 _ rfl, hb⟩⟩
    · simp only [List.mem_map, List.mem_range] at hy
      obtain ⟨i, hil, rfl⟩ := hy
      exact (hF i hil).2
set_option maxRecDepth 100000 in
theorem open_mdl {fuel : Nat} {cs : List Value} {x : DataW H × List MemPlace} (h : DataW.trod enc Try.prog w 0 spare held fuel 26 cs = some x) :
    ∃ (m : Mdl) (ga da pa : Option Addr) (gc dc pc : Nat), cs = [.slice ga m.gl.length gc, .slice da m.da.length dc, .slice pa m.pr.length pc, .int .i64 m.mn] ∧ MdlAt w ga da pa m ∧ m.wide ∧ ∀ y ∈ m.da, y ≤ maxLen := by
  obtain ⟨xs, n, _, _, hl, hlen, hg⟩ := DataW.trod_struct Try.underlying26 h
  rw [cellsMdl] at hl
  match cs, hl, xs, hlen with
  | [c0, c1, c2, c3], _, [y0, y1, y2, y3], _ =>
    have g0 : DataW.trod enc Try.prog w 0 spare held n 22 [c0] = some y0 := by simpa [cellsInt, cellsSs, cellsSd, cellsSp] using hg 0 _ rfl
    have g1 : DataW.trod enc Try.prog w 0 spare held n 23 [c1] = some y1 := by simpa [cellsInt, cellsSs, cellsSd, cellsSp] using hg 1 _ rfl
    have g2 : DataW.trod enc Try.prog w 0 spare held n 24 [c2] = some y2 := by simpa [cellsInt, cellsSs, cellsSd, cellsSp] using hg 2 _ rfl
    have g3 : DataW.trod enc Try.prog w 0 spare held n 3 [c3] = some y3 := by simpa [cellsInt, cellsSs, cellsSd, cellsSp] using hg 3 _ rfl
    obtain ⟨ga, gl, gc, e0, hga, hgl⟩ := open_slts g0
    obtain ⟨da, dl, dc, e1, hda, hdl, hdm⟩ := open_das g1
    obtain ⟨pa, pl, pc, e2, hpa, hpl, hpw⟩ := open_prcs g2
    obtain ⟨mn, e3, _, _⟩ := DataW.trod_int Try.underlying3 g3
    simp only [List.cons.injEq, and_true] at e0 e1 e2 e3
    subst e0 e1 e2 e3
    exact ⟨⟨gl, dl, pl, mn⟩, ga, da, pa, gc, dc, pc, rfl, ⟨hga, hda, hpa⟩, ⟨hgl, hdl, hpl, hpw⟩, hdm⟩
end
end Go.Proofs.Ythdkmjbeemfbbaa
