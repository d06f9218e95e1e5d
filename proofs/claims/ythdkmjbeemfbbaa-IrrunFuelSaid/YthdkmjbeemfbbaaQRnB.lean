/-
  Runs (layer 14): a machine in memory: its calls, registers, bytes; what keeps it, what changes it. Runs (layer 14): the machine's small parts. Runs (layer 14): the number of some bytes, the bytes of a number. Runs (layer 14): the bytes that an instruction accesses. Runs (layer 14): registers that are 0.
-/
import Derived.Test.YthdkmjbeemfbbaaQRnA
import Derived.Test.YthdkmjbeemfbbaaQWt
import Derived.Test.YthdkmjbeemfbbaaQWr
import Derived.Test.YthdkmjbeemfbbaaQWp
import Derived.Lib.EndianBits
import Derived.Deep.OwnRows
namespace Go.Proofs.Ythdkmjbeemfbbaa
open Go.RowKit
set_option linter.unusedVariables false
set_option linter.unusedSimpArgs false
theorem Bx.ne {w : World} {g g' : Nat} {z z' : Array Value} {t t' : TypeId} (h : Bx w g z t) (h' : Bx w g' z' t') (hn : t ≠ t') : g ≠ g' := fun e => by
  subst e
  unfold Bx at h h'
  rw [h] at h'
  injection h' with h'
  injection h' with _ h2
  exact hn h2
def u32C (y : Int) : List Value := [.int .u32 y]
/-- What stays while a machine runs: the module, the inputs, where the machine and its memory lie, the frames, the globals. -/
structure RC where
  m : Mdl
  w0 : World
  w1 : World
  ga : Option Addr
  gc : Nat
  da : Option Addr
  dc : Nat
  pa : Option Addr
  pc : Nat
  ia : Option Addr
  ic : Nat
  inp : List Int
  M : Nat
  mb : Nat
  fa : Option Addr
  fc : Nat
  la : Option Addr
  lc : Nat
/-- What changes: the row of outputs, the calls' row, the cells of the calls. -/
structure RL where
  ov : Value
  ca : Option Addr
  cc : Nat
  F : Nat → Nat → Value
def RC.mz (c : RC) (L : RL) (x : RSt) (fu : Int) (d : Nat) : Array Value :=
  #[L.ov, .int .i64 x.ins, .int .u32 x.ex, .int .i64 x.e, .slice c.ga c.m.gl.length c.gc, .slice c.da c.m.da.length c.dc, .slice c.pa c.m.pr.length c.pc, .int .i64 c.m.mn,
    .slice c.ia c.inp.length c.ic, .int .i64 fu, .slice (some ⟨c.mb, 0, none⟩) 65536 65536, .slice c.la c.m.gl.length c.lc, .int .i64 (rFlo c.m), .slice c.fa c.m.pr.length c.fc, .slice L.ca d L.cc]
def InpAt (w : World) (ia : Option Addr) (l : List Int) : Prop := ∀ k, k < l.length → ∃ g o, ia = some ⟨g, o, none⟩ ∧ w.cell? ⟨g, o + k, none⟩ = some (.int .u32 (l.getD k 0))
/-- The frames: where each procedure's objects lie, how long each is. -/
def FrmAt (w : World) (fa : Option Addr) (M mb : Nat) (m : Mdl) : Prop := ∀ n, n < m.pr.length → ∃ g a k, fa = some ⟨g, 0, none⟩ ∧ g ≠ M ∧ g ≠ mb ∧
  w.cell? ⟨g, n * 2, none⟩ = some (.slice a (rPr m n).ob.length k) ∧ w.cell? ⟨g, n * 2 + 1, none⟩ = some (.int .i64 (rSz m n)) ∧
  ∀ j, j < (rPr m n).ob.length → ∃ h, a = some ⟨h, 0, none⟩ ∧ h ≠ M ∧ h ≠ mb ∧ w.cell? ⟨h, j, none⟩ = some (.int .i64 (offs (slS (rPr m n).ob) j))
def GlbAt (w : World) (la : Option Addr) (M mb : Nat) (m : Mdl) : Prop := ∀ j, j < m.gl.length → ∃ h, la = some ⟨h, 0, none⟩ ∧ h ≠ M ∧ h ≠ mb ∧ w.cell? ⟨h, j, none⟩ = some (.int .i64 (4096 + offs (slS m.gl) j))
structure RC.ok (c : RC) : Prop where
  mp : MdlP c.m
  mu : MdlU c.m
  mdl : MdlAt c.w0 c.ga c.da c.pa c.m
  inp : InpAt c.w0 c.ia c.inp
  inu : ∀ y ∈ c.inp, U32 y
  inl : c.inp.length ≤ 40
  f01 : Fr (fun _ => False) c.w0 c.w1
  m0 : c.w0.heap.size ≤ c.M
  b0 : c.w0.heap.size ≤ c.mb
  m1 : c.M < c.w1.heap.size
  b1 : c.mb < c.w1.heap.size
  frm : FrmAt c.w1 c.fa c.M c.mb c.m
  glb : GlbAt c.w1 c.la c.M c.mb c.m
/-- Registers: of n of them what each holds. -/
def RegA (w : World) (v : Value) (n : Nat) (f : Nat → Int) : Prop :=
  (v = .slice none 0 0 ∧ n = 0) ∨ ∃ g k z, v = .slice (some ⟨g, 0, none⟩) n k ∧ n ≤ k ∧ k ≤ maxLen ∧ Bx w g z 31 ∧ z.size = k ∧ ∀ j, j < n → z[j]? = some (.int .u32 (f j))
def RegS (w : World) (v : Value) : Prop := v = .slice none 0 0 ∨ ∃ g n k z, v = .slice (some ⟨g, 0, none⟩) n k ∧ n ≤ k ∧ k ≤ maxLen ∧ Bx w g z 31 ∧ z.size = k
theorem RegA.s {w : World} {v : Value} {n : Nat} {f : Nat → Int} (h : RegA w v n f) : RegS w v := by
  rcases h with ⟨e, _⟩ | ⟨g, k, z, e, h1, h2, h3, h4, _⟩
  · exact .inl e
  · exact .inr ⟨g, n, k, z, e, h1, h2, h3, h4⟩
theorem RegA.fr {w w' : World} {v : Value} {n : Nat} {f : Nat → Int} {G : Nat → Prop} (h : RegA w v n f) (hf : Fr G w w') (hn : ∀ g, v.ownBlock = some g → ¬G g) : RegA w' v n f := by
  rcases h with h | ⟨g, k, z, rfl, h1, h2, h3, h4, h5⟩
  · exact .inl h
  · exact .inr ⟨g, k, z, rfl, h1, h2, h3.fr hf (hn g rfl), h4, h5⟩
theorem RegS.fr {w w' : World} {v : Value} {G : Nat → Prop} (h : RegS w v) (hf : Fr G w w') (hn : ∀ g, v.ownBlock = some g → ¬G g) : RegS w' v := by
  rcases h with h | ⟨g, n, k, z, rfl, h1, h2, h3, h4⟩
  · exact .inl h
  · exact .inr ⟨g, n, k, z, rfl, h1, h2, h3.fr hf (hn g rfl), h4⟩
theorem RegS.typ {w : World} {v : Value} (h : RegS w v) {g : Nat} (hg : v.ownBlock = some g) : ∃ z, Bx w g z 31 := by
  rcases h with rfl | ⟨g', n, k, z, rfl, h1, h2, h3, h4⟩
  · cases hg
  · injection hg with hg
    subst hg
    exact ⟨z, h3⟩
/-- The cells of the calls' row. -/
def CA (w : World) (cb cc : Nat) (F : Nat → Nat → Value) : Prop := cc ≤ maxLen ∧ ∃ z, Bx w cb z 67 ∧ z.size = cc * 6 ∧ ∀ k i, k < cc → i < 6 → z[k * 6 + i]? = some (F k i)
theorem CA.fr {w w' : World} {cb cc : Nat} {F : Nat → Nat → Value} {G : Nat → Prop} (h : CA w cb cc F) (hf : Fr G w w') (hn : ¬G cb) : CA w' cb cc F := by
  obtain ⟨h0, z, h1, h2, h3⟩ := h
  exact ⟨h0, z, h1.fr hf hn, h2, h3⟩
theorem CA.cell {w : World} {cb cc : Nat} {F : Nat → Nat → Value} (h : CA w cb cc F) {k i p : Nat} (hk : k < cc) (hi : i < 6) (hp : p = k * 6 + i) : w.cell? ⟨cb, p, none⟩ = some (F k i) := by
  obtain ⟨h0, z, h1, h2, h3⟩ := h
  subst hp
  exact h1.cell (h3 k i hk hi)
theorem CA.free {w : World} {cb cc : Nat} {F : Nat → Nat → Value} (h : CA w cb cc F) (p : Nat) : w.frozen? ⟨cb, p, none⟩ = false := by
  obtain ⟨h0, z, h1, h2, h3⟩ := h
  exact h1.free p
def fup (F : Nat → Nat → Value) (k i : Nat) (v : Value) : Nat → Nat → Value := fun k' i' => if k' = k ∧ i' = i then v else F k' i'
theorem CA.set {w : World} {cb cc : Nat} {F : Nat → Nat → Value} (h : CA w cb cc F) {k i p : Nat} (hk : k < cc) (hi : i < 6) (hp : p = k * 6 + i) (v : Value) : CA (w.setCell ⟨cb, p, none⟩ v) cb cc (fup F k i v) := by
  obtain ⟨h0, z, h1, h2, h3⟩ := h
  subst hp
  refine ⟨h0, _, h1.set _ v, by simp [h2], fun k' i' hk' hi' => ?_⟩
  rw [Array.getElem?_setIfInBounds]
  unfold fup
  by_cases e : k' = k ∧ i' = i
  · obtain ⟨rfl, rfl⟩ := e
    rw [if_pos rfl, if_pos (by rw [h2]; omega), if_pos ⟨rfl, rfl⟩]
  · rw [if_neg (by omega), if_neg e]
    exact h3 k' i' hk' hi'
/-- A pointer to a block of the module. -/
def PtrTo (c : RC) (n b : Nat) (v : Value) : Prop := ∃ g o, v = .pointer (some ⟨g, o, none⟩) ∧ BkAt c.w0 g o (rBk c.m n b)
structure RA (c : RC) (w : World) (L : RL) (x : RSt) : Prop where
  f0 : Fr (fun _ => False) c.w0 w
  f1 : Fr (fun q => q = c.M ∨ q = c.mb) c.w1 w
  me : ∃ z, Bx w c.mb z 5 ∧ z.size = 65536 ∧ ∀ k, k < 65536 → z[k]? = some (.int .u8 (x.me k))
  out : Row c.w1.heap.size 31 1 u32C w L.ov x.out
  ca : (L.ca = none ∧ L.cc = 0) ∨ ∃ cb, L.ca = some ⟨cb, 0, none⟩ ∧ c.w1.heap.size ≤ cb ∧ CA w cb L.cc L.F
  rg : ∀ k, k < L.cc → RegS w (L.F k 0) ∧ ∀ g, (L.F k 0).ownBlock = some g → c.w1.heap.size ≤ g
  top : ∀ k, k < x.d → RegA w (L.F k 0) (rPr c.m (x.cl k).n).rg.toNat (x.cl k).rg ∧ L.F k 1 = .int .i64 (x.cl k).n ∧ PtrTo c (x.cl k).n (x.cl k).b (L.F k 2) ∧ L.F k 3 = .int .i64 (x.cl k).i ∧ L.F k 4 = .int .i64 (x.cl k).lo ∧ L.F k 5 = .int .i64 (x.cl k).rd
  dc : x.d ≤ L.cc
  ne : ∀ j k g, j < L.cc → k < L.cc → (L.F j 0).ownBlock = some g → (L.F k 0).ownBlock = some g → j = k
  no : ∀ k g, k < L.cc → (L.F k 0).ownBlock = some g → L.ov.ownBlock ≠ some g
section
variable {c : RC} {w w' : World} {L : RL} {x : RSt}
theorem RA.mbT (h : RA c w L x) : ∃ z, Bx w c.mb z 5 := by obtain ⟨z, q, _⟩ := h.me; exact ⟨z, q⟩
/-- Where nothing of the machine's rows is written, all stays. -/
theorem RA.fr {G : Nat → Prop} (hc : c.ok) (h : RA c w L x) (hf : Fr G w w') (hM : ∀ q, G q → q < w.heap.size → q = c.M) (hb : ¬G c.mb) (ho : ∀ g, L.ov.ownBlock = some g → ¬G g) (hca : ∀ g, L.ca = some ⟨g, 0, none⟩ → ¬G g) (hr : ∀ k g, k < L.cc → (L.F k 0).ownBlock = some g → ¬G g) : RA c w' L x := by
  refine ⟨h.f0.trans' hf (fun q hq e => ?_), h.f1.trans' hf (fun q hq e => .inl (hM q e (Nat.lt_of_lt_of_le hq h.f1.size))), ?_, h.out.fr hf ho, ?_, fun k hk => ⟨(h.rg k hk).1.fr hf (fun g hg => hr k g hk hg), (h.rg k hk).2⟩, fun k hk => ⟨(h.top k hk).1.fr hf (fun g hg => hr k g (Nat.lt_of_lt_of_le hk h.dc) hg), (h.top k hk).2⟩, h.dc, h.ne, h.no⟩
  · have := hM q e (Nat.lt_of_lt_of_le hq h.f0.size); have := hc.m0; omega
  · obtain ⟨z, h1, h2, h3⟩ := h.me
    exact ⟨z, h1.fr hf hb, h2, h3⟩
  · rcases h.ca with q | ⟨cb, e, h1, h2⟩
    · exact .inl q
    · exact .inr ⟨cb, e, h1, h2.fr hf (hca cb e)⟩
theorem RA.fr0 (hc : c.ok) (h : RA c w L x) (hf : Fr (fun _ => False) w w') : RA c w' L x := h.fr hc hf (fun _ e => e.elim) id (fun _ _ => id) (fun _ _ => id) (fun _ _ _ _ => id)
theorem RA.frM (hc : c.ok) (h : RA c w L x) {z : Array Value} (hm : Bx w c.M z 55) (hf : Fr (fun q => q = c.M) w w') : RA c w' L x := by
  refine h.fr hc hf (fun _ e _ => e) ?_ (fun g hg e => ?_) (fun g hg e => ?_) (fun k g hk hg e => ?_)
  · obtain ⟨z', hz⟩ := h.mbT
    exact fun e => hz.ne hm (by decide) e
  · exact Row.apart_typ h.out hm (by decide) (hg.trans (congrArg some e))
  · rcases h.ca with ⟨q, _⟩ | ⟨cb, q, _, _, zc, hz, _⟩
    · rw [q] at hg; cases hg
    · rw [q] at hg
      injection hg with hg
      injection hg with hg
      subst hg
      exact hz.ne hm (by decide) e
  · obtain ⟨zr, hz⟩ := (h.rg k hk).1.typ hg
    exact hz.ne hm (by decide) e
/-- The machine as it stands, but for d calls in its row. -/
structure RM (c : RC) (w : World) (L : RL) (x : RSt) (fu : Int) (d : Nat) : Prop where
  m : Bx w c.M (c.mz L x fu d) 55
  r : RA c w L x
theorem RM.fr0 (hc : c.ok) {fu : Int} {d : Nat} (h : RM c w L x fu d) (hf : Fr (fun _ => False) w w') : RM c w' L x fu d := ⟨h.m.fr hf id, h.r.fr0 hc hf⟩
/-- Registers of a call that stands, written anew. -/
theorem RA.regs (hc : c.ok) (h : RA c w L x) {k g n q : Nat} (hk : k < x.d) (hv : L.F k 0 = .slice (some ⟨g, 0, none⟩) n q) (hf : Fr (fun b => b = g) w w') {f : Nat → Int} (hr : RegA w' (L.F k 0) (rPr c.m (x.cl k).n).rg.toNat f) : RA c w' L { x with cl := rupd x.cl k { x.cl k with rg := f } } := by
  have hkc : k < L.cc := Nat.lt_of_lt_of_le hk h.dc
  have hg : (L.F k 0).ownBlock = some g := by rw [hv]; rfl
  obtain ⟨zr, hz⟩ := (h.rg k hkc).1.typ hg
  have hge := (h.rg k hkc).2 g hg
  have hw1 := hc.f01.size
  refine ⟨h.f0.trans' hf (fun b hb e => by omega), h.f1.trans' hf (fun b hb e => by omega), ?_, h.out.fr hf (fun b hb e => h.no k g hkc hg (e ▸ hb)), ?_, fun j hj => ⟨?_, (h.rg j hj).2⟩, fun j hj => ?_, h.dc, h.ne, h.no⟩
  · obtain ⟨z, h1, h2, h3⟩ := h.me
    exact ⟨z, h1.fr hf (h1.ne hz (by decide)), h2, h3⟩
  · rcases h.ca with q | ⟨cb, e, h1, h2⟩
    · exact .inl q
    · refine .inr ⟨cb, e, h1, h2.fr hf ?_⟩
      obtain ⟨_, zc, hzc, _⟩ := h2
      exact hzc.ne hz (by decide)
  · by_cases e : j = k
    · subst e
      exact hr.s
    · exact (h.rg j hj).1.fr hf (fun b hb e2 => e (h.ne j k g hj hkc (e2 ▸ hb) hg))
  · by_cases e : j = k
    · subst e
      have hq : ∀ y : RCl, rupd x.cl j y j = y := fun y => rupd_same _ _ _
      simp only [hq]
      exact ⟨hr, (h.top j hj).2⟩
    · have hq : ∀ y : RCl, rupd x.cl k y j = x.cl j := fun y => rupd_ne _ _ e
      simp only [hq]
      exact ⟨(h.top j hj).1.fr hf (fun b hb e2 => e (h.ne j k g (Nat.lt_of_lt_of_le hj h.dc) hkc (e2 ▸ hb) hg)), (h.top j hj).2⟩
/-- A register of a call that stands: where it lies, what it holds, how it is written. -/
theorem RA.reg (hc : c.ok) (h : RA c w L x) {k r : Nat} (hk : k < x.d) (hr : r < (rPr c.m (x.cl k).n).rg.toNat) : ∃ g q, L.F k 0 = .slice (some ⟨g, 0, none⟩) (rPr c.m (x.cl k).n).rg.toNat q ∧ c.w1.heap.size ≤ g ∧ w.cell? ⟨g, r, none⟩ = some (.int .u32 ((x.cl k).rg r)) ∧ w.frozen? ⟨g, r, none⟩ = false ∧
    ∀ v, RA c (w.setCell ⟨g, r, none⟩ (.int .u32 v)) L { x with cl := rupd x.cl k { x.cl k with rg := rupd (x.cl k).rg r v } } := by
  have hkc : k < L.cc := Nat.lt_of_lt_of_le hk h.dc
  rcases (h.top k hk).1 with ⟨_, e⟩ | ⟨g, q, z, e, h1, h2, h3, h4, h5⟩
  · omega
  · refine ⟨g, q, e, (h.rg k hkc).2 g (by rw [e]; rfl), h3.cell (h5 r hr), h3.free r, fun v => h.regs hc hk e (Fr.setCell _ _ _ rfl) ?_⟩
    rw [e]
    refine .inr ⟨g, q, _, rfl, h1, h2, h3.set r (.int .u32 v), by simp [h4], fun j hj => ?_⟩
    rw [Array.getElem?_setIfInBounds]
    by_cases ej : r = j
    · subst ej
      rw [if_pos rfl, if_pos (by omega), rupd_same]
    · rw [if_neg ej, rupd_ne _ _ (fun e => ej e.symm)]
      exact h5 j hj
theorem RM.frG (hc : c.ok) {fu : Int} {d g : Nat} (h : RM c w L x fu d) (hg : c.w1.heap.size ≤ g) (hf : Fr (fun b => b = g) w w') : Bx w' c.M (c.mz L x fu d) 55 := h.m.fr hf (fun e => by have := hc.m1; omega)
/-- A byte written. -/
theorem RA.setM (hc : c.ok) (h : RA c w L x) {p : Nat} (hp : p < 65536) (v : Int) : RA c (w.setCell ⟨c.mb, p, none⟩ (.int .u8 v)) L { x with me := rupd x.me p v } := by
  obtain ⟨z, h1, h2, h3⟩ := h.me
  have hf : Fr (fun b => b = c.mb) w (w.setCell ⟨c.mb, p, none⟩ (.int .u8 v)) := Fr.setCell _ _ _ rfl
  have hlt := h1.lt
  refine ⟨h.f0.trans' hf (fun b hb e => by have := hc.b0; omega), h.f1.trans' hf (fun b hb e => .inr e), ⟨_, h1.set p (.int .u8 v), by simp [h2], fun k hk => ?_⟩, h.out.fr hf (fun b hb e => Row.apart_typ h.out h1 (by decide) (hb.trans (congrArg some e))), ?_, fun k hk => ⟨(h.rg k hk).1.fr hf (fun g hg e => ?_), (h.rg k hk).2⟩, fun k hk => ⟨(h.top k hk).1.fr hf (fun g hg e => ?_), (h.top k hk).2⟩, h.dc, h.ne, h.no⟩
  · rw [Array.getElem?_setIfInBounds]
    by_cases ek : p = k
    · subst ek
      rw [if_pos rfl, if_pos (by omega)]
      exact congrArg (fun y => some (Value.int .u8 y)) (rupd_same _ _ _).symm
    · rw [if_neg ek]
      exact (h3 k hk).trans (congrArg (fun y => some (Value.int .u8 y)) (rupd_ne _ _ (fun e => ek e.symm)).symm)
  · rcases h.ca with q | ⟨cb, e, h4, h5⟩
    · exact .inl q
    · refine .inr ⟨cb, e, h4, h5.fr hf ?_⟩
      obtain ⟨_, zc, hzc, _⟩ := h5
      exact hzc.ne h1 (by decide)
  · obtain ⟨zr, hz⟩ := (h.rg k hk).1.typ hg
    exact hz.ne h1 (by decide) e
  · obtain ⟨zr, hz⟩ := (h.rg k (Nat.lt_of_lt_of_le hk h.dc)).1.typ hg
    exact hz.ne h1 (by decide) e
/-- A cell of a call that stands, not its registers. -/
theorem RA.setF (hc : c.ok) (h : RA c w L x) {cb k i p : Nat} (hcb : L.ca = some ⟨cb, 0, none⟩) (hk : k < L.cc) (hi : i < 6) (hi0 : i ≠ 0) (hp : p = k * 6 + i) (v : Value) (x' : RSt) (h1 : x'.me = x.me) (h2 : x'.out = x.out) (h3 : x'.d = x.d)
    (h4 : ∀ j, j < x.d → (x'.cl j).rg = (x.cl j).rg ∧ (x'.cl j).n = (x.cl j).n ∧ fup L.F k i v j 1 = .int .i64 (x'.cl j).n ∧ PtrTo c (x'.cl j).n (x'.cl j).b (fup L.F k i v j 2) ∧ fup L.F k i v j 3 = .int .i64 (x'.cl j).i ∧ fup L.F k i v j 4 = .int .i64 (x'.cl j).lo ∧ fup L.F k i v j 5 = .int .i64 (x'.cl j).rd) :
    RA c (w.setCell ⟨cb, p, none⟩ v) { L with F := fup L.F k i v } x' := by
  have hf : Fr (fun b => b = cb) w (w.setCell ⟨cb, p, none⟩ v) := Fr.setCell _ _ _ rfl
  rcases h.ca with ⟨q, _⟩ | ⟨cb', e, h5, h6⟩
  · rw [q] at hcb; cases hcb
  rw [hcb] at e
  injection e with e
  injection e with e
  subst e
  have hw1 := hc.f01.size
  have e0 : ∀ j, fup L.F k i v j 0 = L.F j 0 := fun j => if_neg (fun q => hi0 q.2.symm)
  obtain ⟨hl, zc, hzc, _⟩ := id h6
  refine ⟨h.f0.trans' hf (fun b hb e => by omega), h.f1.trans' hf (fun b hb e => by omega), ?_, ?_, .inr ⟨cb, hcb, h5, h6.set hk hi hp v⟩, fun j hj => ?_, fun j hj => ?_, by rw [h3]; exact h.dc, fun a b g => ?_, fun a g => ?_⟩
  · obtain ⟨z, m1, m2, m3⟩ := h.me
    exact ⟨z, m1.fr hf (m1.ne hzc (by decide)), m2, by rw [h1]; exact m3⟩
  · rw [h2]
    exact h.out.fr hf (fun b hb e => Row.apart_typ h.out hzc (by decide) (hb.trans (congrArg some e)))
  · show RegS _ (fup L.F k i v j 0) ∧ ∀ g, (fup L.F k i v j 0).ownBlock = some g → _
    rw [e0]
    refine ⟨(h.rg j hj).1.fr hf (fun g hg e => ?_), (h.rg j hj).2⟩
    obtain ⟨zr, hz⟩ := (h.rg j hj).1.typ hg
    exact hz.ne hzc (by decide) e
  · rw [h3] at hj
    have hq := h4 j hj
    have hjc : j < L.cc := Nat.lt_of_lt_of_le hj h.dc
    show RegA _ (fup L.F k i v j 0) _ _ ∧ fup L.F k i v j 1 = _ ∧ PtrTo c _ _ (fup L.F k i v j 2) ∧ fup L.F k i v j 3 = _ ∧ fup L.F k i v j 4 = _ ∧ fup L.F k i v j 5 = _
    rw [e0, hq.1]
    refine ⟨?_, hq.2.2⟩
    rw [hq.2.1]
    refine (h.top j hj).1.fr hf (fun g hg e => ?_)
    obtain ⟨zr, hz⟩ := (h.rg j hjc).1.typ hg
    exact hz.ne hzc (by decide) e
  · show _ → _ → (fup L.F k i v a 0).ownBlock = some g → (fup L.F k i v b 0).ownBlock = some g → a = b
    rw [e0, e0]
    exact h.ne a b g
  · show _ → (fup L.F k i v a 0).ownBlock = some g → _
    rw [e0]
    exact h.no a g
theorem RM.frC (hc : c.ok) {fu : Int} {d cb : Nat} (h : RM c w L x fu d) (hcb : c.w1.heap.size ≤ cb) (hf : Fr (fun b => b = cb) w w') : Bx w' c.M (c.mz L x fu d) 55 := h.m.fr hf (fun e => by have := hc.m1; omega)
theorem RA.cb (h : RA c w L x) (hd : 0 < L.cc) : ∃ cb, L.ca = some ⟨cb, 0, none⟩ ∧ c.w1.heap.size ≤ cb ∧ CA w cb L.cc L.F := by
  rcases h.ca with ⟨_, q⟩ | q
  · omega
  · exact q
end
theorem qa_irrun_machine_8 (w : World) (b o : Nat) : (Instr.fieldAt 55 (.pointer (some ⟨b, o, none⟩)) 8).run Try.prog w = .ok (.pointer (some ⟨b, o + 14, none⟩)) w := by simp [go_sem]
theorem ql_s_irrun_call (w : World) (p : Option Addr) (k l : Nat) (d : Addr) (h : w.cell? d = some (.slice p k l)) : (Instr.loadAt 53 (.pointer (some d))).run Try.prog w = .ok (.slice p k l) w := by simp [go_sem, h]
theorem qn_s_irrun_call (w : World) (a : Option Addr) (k l : Nat) : (Builtin.len_ #[53] 3 #[.slice a k l]).run Try.prog w = .ok (.int .i64 k) w := by simp [go_sem]
theorem qi_s_irrun_call (w : World) (b o n c j : Nat) (hj : j < n) : (Instr.indexAt 53 (.slice (some ⟨b, o, none⟩) n c) (.int .i64 (j : Int))).run Try.prog w = .ok (.pointer (some ⟨b, o + j * 6, none⟩)) w := by
  have h : (j : Int) < (n : Int) := by omega
  simp [go_sem, h, hj]
theorem cv_iu (w : World) (n : Int) : (convert 3 31 (.int .i64 n)).run Try.prog w = .ok (.int .u32 (n % 4294967296)) w := by simp [go_sem, IntKind.wrap, IntKind.bits, IntKind.signed]
theorem cv_ui (w : World) (n : Int) (h0 : 0 ≤ n) (h1 : n ≤ 4294967295) : (convert 31 3 (.int .u32 n)).run Try.prog w = .ok (.int .i64 n) w := by
  have h : IntKind.i64.wrap n = n := IntWalk.i64_in _ (by omega)
  simp [go_sem, h]
theorem cv_u8 (w : World) (n : Int) : (convert 31 5 (.int .u32 n)).run Try.prog w = .ok (.int .u8 (n % 256)) w := by simp [go_sem, IntKind.wrap, IntKind.bits, IntKind.signed]
theorem cv_8u (w : World) (n : Int) (h0 : 0 ≤ n) (h1 : n ≤ 255) : (convert 5 31 (.int .u8 n)).run Try.prog w = .ok (.int .u32 n) w := by
  have h : IntKind.u32.wrap n = n := IntWalk.u32_in _ (by omega)
  simp [go_sem, h]
theorem add_u (w : World) (x y : Operand) (m n : Int) : ((do eqGuard .add 31 x y (.int .u32 m) (.int .u32 n); binOp .add 31 (.int .u32 m) (.int .u32 n) : Sem Value)).run Try.prog w = .ok (.int .u32 ((m + n) % 4294967296)) w := by simp [go_sem, IntKind.wrap, IntKind.bits, IntKind.signed]
theorem sub_u (w : World) (x y : Operand) (m n : Int) : ((do eqGuard .sub 31 x y (.int .u32 m) (.int .u32 n); binOp .sub 31 (.int .u32 m) (.int .u32 n) : Sem Value)).run Try.prog w = .ok (.int .u32 ((m - n) % 4294967296)) w := by simp [go_sem, IntKind.wrap, IntKind.bits, IntKind.signed]
theorem pred_i (w : World) (x y : Operand) (k : Nat) (h : k < 1000000) : ((do eqGuard .sub 3 x y (.int .i64 ((k + 1 : Nat) : Int)) (.int .i64 1); binOp .sub 3 (.int .i64 ((k + 1 : Nat) : Int)) (.int .i64 1) : Sem Value)).run Try.prog w = .ok (.int .i64 (k : Int)) w := by
  have h : IntKind.i64.wrap (((k + 1 : Nat) : Int) - 1) = (k : Int) := by
    rw [show ((k + 1 : Nat) : Int) - 1 = (k : Int) by omega]
    exact IntWalk.i64_in _ (by omega)
  simp [go_sem]
  simpa using h
theorem emod_le' (m n : Int) (hm : 0 ≤ m) (h0 : 0 < n) : 0 ≤ m % n ∧ m % n ≤ m := by
  have h1 := Int.emod_nonneg m (show n ≠ 0 by omega)
  have h2 := Int.mul_ediv_add_emod m n
  have h3 : 0 ≤ n * (m / n) := Int.mul_nonneg (by omega) (Int.ediv_nonneg hm (by omega))
  omega
theorem rem_i (w : World) (x y : Operand) (m n : Int) (hm : 0 ≤ m) (h0 : 0 < n) (h1 : m ≤ 4294967295) : ((do eqGuard .rem 3 x y (.int .i64 m) (.int .i64 n); binOp .rem 3 (.int .i64 m) (.int .i64 n) : Sem Value)).run Try.prog w = .ok (.int .i64 (m % n)) w := by
  have e : m.tmod n = m % n := Int.tmod_eq_emod_of_nonneg hm
  have q := emod_le' m n hm h0
  have h : IntKind.i64.wrap (m % n) = m % n := IntWalk.i64_in _ ⟨by omega, by omega⟩
  simp [go_sem, h, e]
  omega
set_option maxRecDepth 100000 in
theorem t_address (n : Int) (w : World) : Calls Try.prog 34 #[.int .i64 n] w fun e w' => e = .returned (.int .u32 ((268435456 + n) % 4294967296)) ∧ w' = w := by
  refine calls_tw Try.func34 rfl rfl (Nat.le_of_ble_eq_true rfl) ?_
  refine TW.sreg ?_
  refine WL.op rfl rfl rfl (Go.Proofs.Ythdkmjbeemfbbaa.W.quiet_assign rfl rfl) ?_
  refine WL.nil ?_
  refine TW.sreg ?_
  refine WL.op rfl rfl rfl (Go.Proofs.Ythdkmjbeemfbbaa.W.quiet_move rfl rfl) ?_
  refine O.cv rfl rfl rfl rfl rfl (cv_iu _ _) ?_
  refine WL.op rfl rfl rfl (Go.Proofs.Ythdkmjbeemfbbaa.W.quiet_bin rfl rfl rfl (fun W => add_u W _ _ _ _)) ?_
  refine WL.op rfl rfl rfl (Go.Proofs.Ythdkmjbeemfbbaa.W.quiet_assign rfl rfl) ?_
  refine WL.nil ?_
  refine TW.rt ?_
  refine bodyw_ret rfl rfl ?_
  refine ⟨?_, rfl⟩
  rw [show (268435456 + n % 4294967296) % 4294967296 = (268435456 + n) % 4294967296 by omega]
set_option maxRecDepth 100000 in
theorem t_cur {c : RC} {L : RL} {x : RSt} {fu : Int} {k : Nat} (hk : k < 1000000) (cb : Nat) (hcb : L.ca = some ⟨cb, 0, none⟩) (hc : c.ok) (w : World) (h : RM c w L x fu (k + 1)) : Calls Try.prog 17 #[.pointer (some ⟨c.M, 0, none⟩)] w fun e w' => e = .returned (.pointer (some ⟨cb, 0 + k * 6, none⟩)) ∧ Fr (fun _ => False) w w' := by
  obtain ⟨ov, ca, cc, F⟩ := L
  obtain rfl : ca = some ⟨cb, 0, none⟩ := hcb
  obtain ⟨hm0, hr⟩ := id h
  have hm : Bx w c.M #[ov, .int .i64 x.ins, .int .u32 x.ex, .int .i64 x.e, .slice c.ga c.m.gl.length c.gc, .slice c.da c.m.da.length c.dc, .slice c.pa c.m.pr.length c.pc, .int .i64 c.m.mn, .slice c.ia c.inp.length c.ic, .int .i64 fu, .slice (some ⟨c.mb, 0, none⟩) 65536 65536, .slice c.la c.m.gl.length c.lc, .int .i64 (rFlo c.m), .slice c.fa c.m.pr.length c.fc, (.slice (some ⟨cb, 0, none⟩) (k + 1) cc)] 55 := hm0
  clear hm0
  have ff := Fr.refl (fun _ => False) w
  refine calls_tw Try.func17 rfl rfl (Nat.le_of_ble_eq_true rfl) ?_
  refine TW.sreg ?_
  refine WL.op rfl rfl rfl (Go.Proofs.Ythdkmjbeemfbbaa.W.quiet_assign rfl rfl) ?_
  refine WL.nil ?_
  refine Q.sreg (C := fun W => Fr (fun _ => False) w W) (by kernel_rfl) (by kernel_rfl) (fun W h => h.drewN 1) (Fr.refl _ _) ?_
  refine W.op rfl rfl rfl (Go.Proofs.Ythdkmjbeemfbbaa.W.quiet_move rfl rfl) ?_
  refine W.op rfl rfl rfl (Q.nck rfl rfl) ?_
  refine W.op rfl rfl rfl (Go.Proofs.Ythdkmjbeemfbbaa.W.quiet_field rfl rfl (fun W => (qa_irrun_machine_8 W _ _))) ?_
  refine W.op rfl rfl rfl (Go.Proofs.Ythdkmjbeemfbbaa.W.quiet_load rfl rfl (fun W hW => (ql_s_irrun_call _ _ _ _ _ ((hm.fr hW id).cell (j := 14) rfl)))) ?_
  refine W.op rfl rfl rfl (Go.Proofs.Ythdkmjbeemfbbaa.W.quiet_move rfl rfl) ?_
  refine W.op rfl rfl rfl (Q.nck rfl rfl) ?_
  refine W.op rfl rfl rfl (Go.Proofs.Ythdkmjbeemfbbaa.W.quiet_field rfl rfl (fun W => (qa_irrun_machine_8 W _ _))) ?_
  refine W.op rfl rfl rfl (Go.Proofs.Ythdkmjbeemfbbaa.W.quiet_load rfl rfl (fun W hW => (ql_s_irrun_call _ _ _ _ _ ((hm.fr hW id).cell (j := 14) rfl)))) ?_
  refine W.op rfl rfl rfl (Q.len rfl rfl (fun W => (qn_s_irrun_call _ _ _ _))) ?_
  refine W.op rfl rfl rfl (Go.Proofs.Ythdkmjbeemfbbaa.W.quiet_bin rfl rfl rfl (fun W => pred_i W _ _ _ hk)) ?_
  refine W.op rfl rfl rfl (Go.Proofs.Ythdkmjbeemfbbaa.W.quiet_index rfl rfl rfl (fun W => (qi_s_irrun_call _ _ _ _ _ _ (by omega)))) ?_
  refine W.op rfl rfl rfl (Go.Proofs.Ythdkmjbeemfbbaa.W.quiet_assign rfl rfl) ?_
  refine Q.nil (T.tw fun wq1 fq1 => ?_)
  replace hm := hm.fr fq1 id
  replace hr := hr.fr0 hc fq1
  replace ff := ff.trans fq1
  refine TW.rt ?_
  refine bodyw_ret rfl rfl ?_
  exact ⟨rfl, ff⟩
theorem qs_uint8 (w : World) (m : Int) (u : Value) (d : Addr) (h : w.cell? d = some u) (hf : w.frozen? d = false) : (Instr.storeAt 5 (.pointer (some d)) (.int .u8 m)).run Try.prog w = .ok () (w.setCell d (.int .u8 m)) := by simp [go_sem, h, hf]
theorem ql_uint8 (w : World) (m : Int) (d : Addr) (h : w.cell? d = some (.int .u8 m)) : (Instr.loadAt 5 (.pointer (some d))).run Try.prog w = .ok (.int .u8 m) w := by simp [go_sem, h]
theorem qi_s_uint8 (w : World) (b o n c j : Nat) (hj : j < n) : (Instr.indexAt 51 (.slice (some ⟨b, o, none⟩) n c) (.int .i64 (j : Int))).run Try.prog w = .ok (.pointer (some ⟨b, o + j, none⟩)) w := by
  have h : (j : Int) < (n : Int) := by omega
  simp [go_sem, h, hj]
theorem qn_s_uint8 (w : World) (a : Option Addr) (k l : Nat) : (Builtin.len_ #[51] 3 #[.slice a k l]).run Try.prog w = .ok (.int .i64 k) w := by simp [go_sem]
theorem qb_lss_int (w : World) (x y : Operand) (m n : Int) : ((do eqGuard .lss 3 x y (.int .i64 m) (.int .i64 n); binOp .lss 3 (.int .i64 m) (.int .i64 n) : Sem Value)).run Try.prog w = .ok (.bool (decide (m < n))) w := by simp [go_sem]
theorem qb_mul_int (w : World) (x y : Operand) (m n : Int) (h0 : -9223372036854775808 ≤ m * n) (h1 : m * n ≤ 9223372036854775807) : ((do eqGuard .mul 3 x y (.int .i64 m) (.int .i64 n); binOp .mul 3 (.int .i64 m) (.int .i64 n) : Sem Value)).run Try.prog w = .ok (.int .i64 (m * n)) w := by
  have h : IntKind.i64.wrap (m * n) = m * n := IntWalk.i64_in _ (by omega)
  simp [go_sem, h]
theorem qb_add_int (w : World) (x y : Operand) (m n : Int) (h0 : -9223372036854775808 ≤ m + n) (h1 : m + n ≤ 9223372036854775807) : ((do eqGuard .add 3 x y (.int .i64 m) (.int .i64 n); binOp .add 3 (.int .i64 m) (.int .i64 n) : Sem Value)).run Try.prog w = .ok (.int .i64 (m + n)) w := by
  have h : IntKind.i64.wrap (m + n) = m + n := IntWalk.i64_in _ (by omega)
  simp [go_sem, h]
theorem or_lo : ∀ n : Fin 256, bits BinOp.or IntKind.u32 0 (n.val : Int) = n.val := by decide +kernel
theorem or_zero (b : Int) (h0 : 0 ≤ b) (h1 : b ≤ 255) : bits .or .u32 0 b = b := by
  have := or_lo ⟨b.toNat, by omega⟩
  simpa [Int.toNat_of_nonneg h0] using this
theorem or_k (k : Nat) (hk : k < 4) (n b : Int) (hn : 0 ≤ n) (hn1 : n < 256 ^ k) (h0 : 0 ≤ b) (h1 : b ≤ 255) : bits .or .u32 n (b * 256 ^ k) = n + b * 256 ^ k := by
  match k, hk with
  | 0, _ =>
    obtain rfl : n = 0 := by simp at hn1; omega
    simp only [Int.pow_zero, Int.mul_one, Int.zero_add]
    exact or_zero b h0 h1
  | 1, _ => exact Go.u32_or8 _ _ hn (by simpa using hn1) (by omega) (by omega) (by omega)
  | 2, _ =>
    have hn1 : n < 65536 := hn1
    show bits .or .u32 n (b * 65536) = n + b * 65536
    exact Go.u32_or16 _ _ hn hn1 (by omega) (by omega) (by omega)
  | 3, _ =>
    have hn1 : n < 16777216 := hn1
    show bits .or .u32 n (b * 16777216) = n + b * 16777216
    exact Go.u32_or24 _ _ hn hn1 (by omega) (by omega) (by omega)
theorem qor (w : World) (x y : Operand) (m n : Int) : ((do eqGuard .or 31 x y (.int .u32 m) (.int .u32 n); binOp .or 31 (.int .u32 m) (.int .u32 n) : Sem Value)).run Try.prog w = .ok (.int .u32 (bits .or .u32 m n)) w := by simp [go_sem]
theorem qshl (w : World) (x y : Operand) (k : Nat) (hk : k < 4) (b : Int) (h0 : 0 ≤ b) (h1 : b ≤ 255) : (do eqGuard .shl 31 x y (.int .u32 b) (.int .i64 (8 * (k : Int))); binOp .shl 31 (.int .u32 b) (.int .i64 (8 * (k : Int))) : Sem Value).run Try.prog w = .ok (.int .u32 (b * 256 ^ k)) w := by
  have W : ∀ n : Int, 0 ≤ n → n ≤ 4294967295 → IntKind.u32.wrap n = n := fun n a b => IntWalk.u32_in _ (by omega)
  match k, hk with
  | 0, _ => simp [go_sem, Int.shiftLeft_eq, W b h0 (by omega)]
  | 1, _ => simp [go_sem, Int.shiftLeft_eq, W (b * 256) (by omega) (by omega)]
  | 2, _ => simp [go_sem, Int.shiftLeft_eq, W (b * 65536) (by omega) (by omega)]
  | 3, _ => simp [go_sem, Int.shiftLeft_eq, W (b * 16777216) (by omega) (by omega)]
theorem qshr (w : World) (x y : Operand) (k : Nat) (hk : k < 4) (b : Int) (h0 : 0 ≤ b) : (do eqGuard .shr 31 x y (.int .u32 b) (.int .i64 (8 * (k : Int))); binOp .shr 31 (.int .u32 b) (.int .i64 (8 * (k : Int))) : Sem Value).run Try.prog w = .ok (.int .u32 (b / 256 ^ k)) w := by
  match k, hk with
  | 0, _ => simp [go_sem, Int.shiftRight_eq_div_pow]
  | 1, _ => simp [go_sem, Int.shiftRight_eq_div_pow]
  | 2, _ => simp [go_sem, Int.shiftRight_eq_div_pow]
  | 3, _ => simp [go_sem, Int.shiftRight_eq_div_pow]
theorem rPut_succ (me : Nat → Int) (p : Nat) (v : Int) (k : Nat) : rupd (rPut me p v k) (p + k) (v / 256 ^ k % 256) = rPut me p v (k + 1) := by
  funext j
  unfold rupd rPut
  by_cases e : j = p + k
  · subst e
    rw [if_pos rfl, if_pos (by omega), show p + k - p = k by omega]
  · rw [if_neg e]
    by_cases h : p ≤ j ∧ j < p + k
    · rw [if_pos h, if_pos (by omega)]
    · rw [if_neg h, if_neg (by omega)]
theorem rPut_zero (me : Nat → Int) (p : Nat) (v : Int) : rPut me p v 0 = me := by
  funext j
  unfold rPut
  rw [if_neg (by omega)]
theorem RA.byte {c : RC} {w : World} {L : RL} {x : RSt} (h : RA c w L x) {k : Nat} (hk : k < 65536) : w.cell? ⟨c.mb, k, none⟩ = some (.int .u8 (x.me k)) ∧ w.frozen? ⟨c.mb, k, none⟩ = false := by
  obtain ⟨z, h1, h2, h3⟩ := h.me
  exact ⟨h1.cell (h3 k hk), h1.free k⟩
theorem RM.byte {c : RC} {w : World} {L : RL} {x : RSt} {fu : Int} {d p : Nat} (hc : c.ok) (h : RM c w L x fu d) (hp : p < 65536) (v : Int) : ∃ w', (Instr.storeAt 5 (.pointer (some ⟨c.mb, p, none⟩)) (.int .u8 v)).run Try.prog w = .ok () w' ∧ RM c w' L { x with me := rupd x.me p v } fu d := by
  obtain ⟨h1, h2⟩ := h.r.byte hp
  refine ⟨_, qs_uint8 w v _ _ h1 h2, h.m.fr (Fr.setCell (F := fun q => q = c.mb) _ _ _ rfl) (fun e => ?_), h.r.setM hc hp v⟩
  obtain ⟨z, hz⟩ := h.r.mbT
  exact h.m.ne hz (by decide) e
set_option maxRecDepth 100000 in
theorem t_number (me : Nat → Int) (b p n q : Nat) (hn : n ≤ 4) (hin : ∀ k, 0 ≤ me k ∧ me k ≤ 255) (w : World) (hmem : ∀ k, k < n → w.cell? ⟨b, p + k, none⟩ = some (.int .u8 (me (p + k)))) : Calls Try.prog 32 #[(.slice (some ⟨b, p, none⟩) n q)] w fun e w' => e = .returned (.int .u32 (rNum me p n)) ∧ Fr (fun _ => False) w w' := by
  refine calls_tw Try.func32 rfl rfl (Nat.le_of_ble_eq_true rfl) ?_
  refine TW.sreg ?_
  refine WL.op rfl rfl rfl (Go.Proofs.Ythdkmjbeemfbbaa.W.quiet_assign rfl rfl) ?_
  refine WL.nil ?_
  refine TW.sreg ?_
  refine WL.op rfl rfl rfl (Go.Proofs.Ythdkmjbeemfbbaa.W.quiet_assign rfl rfl) ?_
  refine WL.nil ?_
  refine TW.seq ?_
  refine TW.sreg ?_
  refine WL.op rfl rfl rfl (Go.Proofs.Ythdkmjbeemfbbaa.W.quiet_move rfl rfl) ?_
  refine O.len rfl rfl rfl rfl rfl (qn_s_uint8 _ _ _ _) ?_
  refine WL.op rfl rfl rfl (Go.Proofs.Ythdkmjbeemfbbaa.W.quiet_move rfl rfl) ?_
  refine WL.nil ?_
  refine TW.block ?_
  refine O.loopG (n := n) (fun a _ => (intOf (a.tmps.getD 8 undef)).toNat) (fun j a W => Kn Try.f32.ntmps [(6, .slice (some ⟨b, p, none⟩) n q), (3, .int .u32 (rNum me p j)), (7, .int .i64 (n : Int)), (8, .int .i64 (j : Int))] a ∧ Fr (fun _ => False) w W) (fun j a W h => O.slotv h.1 rfl) 0 (Nat.zero_le _) (fun a k => ⟨(by (repeat (refine Kn.cons k rfl ?_)); exact k.base), Fr.refl _ _⟩) ?_
  rintro j a wl hj ⟨k, ff⟩
  refine TW.app (s := [(6, .slice (some ⟨b, p, none⟩) n q), (3, .int .u32 (rNum me p j)), (7, .int .i64 (n : Int)), (8, .int .i64 (j : Int))]) ?_ k
  refine TW.sreg ?_
  refine WL.op rfl rfl rfl (Go.Proofs.Ythdkmjbeemfbbaa.W.quiet_bin rfl rfl rfl (fun W => qb_lss_int W _ _ _ _)) ?_
  refine O.split (fun hb => ?_) (fun hb => ?_)
  · skip
    have hj2 : j < n := by have := of_decide_eq_true hb; omega
    have hcell := ff.cell (hmem j hj2) id
    have hme := hin (p + j)
    obtain ⟨hn0, hn1⟩ := rNum_in hin p j
    refine WL.nil ?_
    refine TW.seq ?_
    refine TW.cond rfl (fun _ => ?_) (fun hb => by cases hb)
    refine TW.skip ?_
    refine TW.seq ?_
    refine TW.block ?_
    refine TW.sreg ?_
    refine WL.op rfl rfl rfl (Go.Proofs.Ythdkmjbeemfbbaa.W.quiet_move rfl rfl) ?_
    refine O.ixa rfl rfl rfl rfl rfl rfl (qi_s_uint8 _ _ _ _ _ _ (by omega)) ?_
    refine WL.ld rfl rfl rfl rfl rfl (ql_uint8 _ _ _ hcell) ?_
    refine WL.op rfl rfl rfl (Go.Proofs.Ythdkmjbeemfbbaa.W.quiet_assign rfl rfl) ?_
    refine WL.op rfl rfl rfl (Go.Proofs.Ythdkmjbeemfbbaa.W.quiet_assign rfl rfl) ?_
    refine WL.nil ?_
    refine TW.reg ?_
    refine WL.op rfl rfl rfl (Go.Proofs.Ythdkmjbeemfbbaa.W.quiet_move rfl rfl) ?_
    refine WL.op rfl rfl rfl (Go.Proofs.Ythdkmjbeemfbbaa.W.quiet_move rfl rfl) ?_
    refine O.cv rfl rfl rfl rfl rfl (cv_8u _ _ hme.1 hme.2) ?_
    refine WL.op rfl rfl rfl (Go.Proofs.Ythdkmjbeemfbbaa.W.quiet_move rfl rfl) ?_
    refine WL.op rfl rfl rfl (Go.Proofs.Ythdkmjbeemfbbaa.W.quiet_bin rfl rfl rfl (fun W => qb_mul_int W _ _ _ _ (by omega) (by omega))) ?_
    refine WL.op rfl rfl rfl (Go.Proofs.Ythdkmjbeemfbbaa.W.quiet_bin rfl rfl rfl (fun W => qshl W _ _ j (by omega) _ hme.1 hme.2)) ?_
    refine WL.op rfl rfl rfl (Go.Proofs.Ythdkmjbeemfbbaa.W.quiet_bin rfl rfl rfl (fun W => (qor W _ _ _ _).trans (by rw [or_k j (by omega) _ _ hn0 hn1 hme.1 hme.2]))) ?_
    refine WL.op rfl rfl rfl (Go.Proofs.Ythdkmjbeemfbbaa.W.quiet_assign rfl rfl) ?_
    refine WL.end ?_
    refine Xw.nblk ?_
    refine Xw.nrm ?_
    refine TW.reg ?_
    refine WL.op rfl rfl rfl (Go.Proofs.Ythdkmjbeemfbbaa.W.quiet_bin rfl rfl rfl (fun W => qb_add_int W _ _ _ _ (by omega) (by omega))) ?_
    refine WL.op rfl rfl rfl (Go.Proofs.Ythdkmjbeemfbbaa.W.quiet_move rfl rfl) ?_
    refine WL.end ?_
    refine Xw.any (fun a k => ?_)
    refine ⟨j + 1, by omega, by omega, by (repeat (refine Kn.cons k rfl ?_)); exact k.base, ff⟩
  · skip
    refine WL.nil ?_
    refine TW.seq ?_
    refine TW.cond rfl (fun hb => by cases hb) (fun _ => ?_)
    refine TW.exit ?_
    refine Xw.thn (by simp) ?_
    refine Xw.thn (by simp) ?_
    refine Xw.hit ?_
    refine Xw.nrm ?_
    refine TW.sreg ?_
    refine WL.op rfl rfl rfl (Go.Proofs.Ythdkmjbeemfbbaa.W.quiet_move rfl rfl) ?_
    refine WL.op rfl rfl rfl (Go.Proofs.Ythdkmjbeemfbbaa.W.quiet_assign rfl rfl) ?_
    refine WL.nil ?_
    refine TW.rt ?_
    refine bodyw_ret rfl rfl ?_
    have hje : j = n := by have := of_decide_eq_false hb; omega
    subst hje
    exact ⟨rfl, ff⟩
set_option maxRecDepth 100000 in
theorem t_put {c : RC} {L : RL} {x : RSt} {fu : Int} {d : Nat} (hc : c.ok) (p n q : Nat) (v : Int) (hn : n ≤ 4) (hp : p + n ≤ 65536) (hv : 0 ≤ v) (w : World) (h : RM c w L x fu d) : Calls Try.prog 33 #[(.slice (some ⟨c.mb, p, none⟩) n q), .int .u32 v] w fun e w' => e = .returned (.tuple #[]) ∧ RM c w' L { x with me := rPut x.me p v n } fu d := by
  refine calls_tw Try.func33 rfl rfl (Nat.le_of_ble_eq_true rfl) ?_
  refine TW.sreg ?_
  refine WL.op rfl rfl rfl (Go.Proofs.Ythdkmjbeemfbbaa.W.quiet_move rfl rfl) ?_
  refine O.len rfl rfl rfl rfl rfl (qn_s_uint8 _ _ _ _) ?_
  refine WL.op rfl rfl rfl (Go.Proofs.Ythdkmjbeemfbbaa.W.quiet_move rfl rfl) ?_
  refine WL.nil ?_
  refine TW.block ?_
  refine O.loopG (n := n) (fun a _ => (intOf (a.tmps.getD 7 undef)).toNat) (fun j a W => Kn Try.f33.ntmps [(0, .slice (some ⟨c.mb, p, none⟩) n q), (1, .int .u32 v), (6, .int .i64 (n : Int)), (7, .int .i64 (j : Int))] a ∧ RM c W L { x with me := rPut x.me p v j } fu d) (fun j a W h => O.slotv h.1 rfl) 0 (Nat.zero_le _) (fun a k => ⟨(by (repeat (refine Kn.cons k rfl ?_)); exact k.base), by rw [rPut_zero]; exact h⟩) ?_
  rintro j a wl hj ⟨k, hx⟩
  refine TW.app (s := [(0, .slice (some ⟨c.mb, p, none⟩) n q), (1, .int .u32 v), (6, .int .i64 (n : Int)), (7, .int .i64 (j : Int))]) ?_ k
  refine TW.sreg ?_
  refine WL.op rfl rfl rfl (Go.Proofs.Ythdkmjbeemfbbaa.W.quiet_bin rfl rfl rfl (fun W => qb_lss_int W _ _ _ _)) ?_
  refine O.split (fun hb => ?_) (fun hb => ?_)
  · skip
    have hj2 : j < n := by have := of_decide_eq_true hb; omega
    refine WL.nil ?_
    refine TW.seq ?_
    refine TW.cond rfl (fun _ => ?_) (fun hb => by cases hb)
    refine TW.skip ?_
    refine TW.seq ?_
    refine TW.block ?_
    refine TW.sreg ?_
    refine WL.op rfl rfl rfl (Go.Proofs.Ythdkmjbeemfbbaa.W.quiet_move rfl rfl) ?_
    refine WL.op rfl rfl rfl (Go.Proofs.Ythdkmjbeemfbbaa.W.quiet_assign rfl rfl) ?_
    refine WL.nil ?_
    refine TW.reg ?_
    refine WL.op rfl rfl rfl (Go.Proofs.Ythdkmjbeemfbbaa.W.quiet_move rfl rfl) ?_
    refine WL.op rfl rfl rfl (Go.Proofs.Ythdkmjbeemfbbaa.W.quiet_move rfl rfl) ?_
    refine WL.op rfl rfl rfl (Go.Proofs.Ythdkmjbeemfbbaa.W.quiet_move rfl rfl) ?_
    refine WL.op rfl rfl rfl (Go.Proofs.Ythdkmjbeemfbbaa.W.quiet_move rfl rfl) ?_
    refine WL.op rfl rfl rfl (Go.Proofs.Ythdkmjbeemfbbaa.W.quiet_bin rfl rfl rfl (fun W => qb_mul_int W _ _ _ _ (by omega) (by omega))) ?_
    refine WL.op rfl rfl rfl (Go.Proofs.Ythdkmjbeemfbbaa.W.quiet_bin rfl rfl rfl (fun W => qshr W _ _ j (by omega) _ hv)) ?_
    refine O.cv rfl rfl rfl rfl rfl (cv_u8 _ _) ?_
    refine O.ixa rfl rfl rfl rfl rfl rfl (qi_s_uint8 _ _ _ _ _ _ (by omega)) ?_
    refine O.storeR rfl rfl rfl rfl rfl (RM.byte hc hx (p := p + j) (by omega) _) ?_
    rintro w2 hx2
    refine WL.end ?_
    refine Xw.nblk ?_
    refine Xw.nrm ?_
    refine TW.reg ?_
    refine WL.op rfl rfl rfl (Go.Proofs.Ythdkmjbeemfbbaa.W.quiet_bin rfl rfl rfl (fun W => qb_add_int W _ _ _ _ (by omega) (by omega))) ?_
    refine WL.op rfl rfl rfl (Go.Proofs.Ythdkmjbeemfbbaa.W.quiet_move rfl rfl) ?_
    refine WL.end ?_
    refine Xw.any (fun a k => ?_)
    refine ⟨j + 1, by omega, by omega, by (repeat (refine Kn.cons k rfl ?_)); exact k.base, ?_⟩
    have hx3 : RM c w2 L { x with me := rupd (rPut x.me p v j) (p + j) (v / 256 ^ j % 256) } fu d := hx2
    rw [rPut_succ] at hx3
    exact hx3
  · skip
    refine WL.nil ?_
    refine TW.seq ?_
    refine TW.cond rfl (fun hb => by cases hb) (fun _ => ?_)
    refine TW.exit ?_
    refine Xw.thn (by simp) ?_
    refine Xw.thn (by simp) ?_
    refine Xw.hit ?_
    refine O.end0 rfl ?_
    have hje : j = n := by have := of_decide_eq_false hb; omega
    subst hje
    exact ⟨rfl, hx⟩
theorem qa_api_Ins_6 (w : World) (b o : Nat) : (Instr.fieldAt 48 (.pointer (some ⟨b, o, none⟩)) 6).run Try.prog w = .ok (.pointer (some ⟨b, o + 6, none⟩)) w := by simp [go_sem]
theorem ql_int (w : World) (m : Int) (d : Addr) (h : w.cell? d = some (.int .i64 m)) : (Instr.loadAt 3 (.pointer (some d))).run Try.prog w = .ok (.int .i64 m) w := by simp [go_sem, h]
theorem qa_api_Ins_7 (w : World) (b o : Nat) : (Instr.fieldAt 48 (.pointer (some ⟨b, o, none⟩)) 7).run Try.prog w = .ok (.pointer (some ⟨b, o + 7, none⟩)) w := by simp [go_sem]
theorem qb_gtr_int (w : World) (x y : Operand) (m n : Int) : ((do eqGuard .gtr 3 x y (.int .i64 m) (.int .i64 n); binOp .gtr 3 (.int .i64 m) (.int .i64 n) : Sem Value)).run Try.prog w = .ok (.bool (decide (n < m))) w := by simp [go_sem]
theorem qa_irrun_machine_0 (w : World) (b o : Nat) : (Instr.fieldAt 55 (.pointer (some ⟨b, o, none⟩)) 0).run Try.prog w = .ok (.pointer (some ⟨b, o, none⟩)) w := by simp [go_sem]
theorem qa_api_Outcome_3 (w : World) (b o : Nat) : (Instr.fieldAt 34 (.pointer (some ⟨b, o, none⟩)) 3).run Try.prog w = .ok (.pointer (some ⟨b, o + 3, none⟩)) w := by simp [go_sem]
theorem qsF_api_Errno (w : World) (g j : Nat) (z : Array Value) (tt : TypeId) (y : Value) (um0 : Int) (h : Bx w g z tt) (hj : z[j]? = some y) : ∃ w', (Instr.storeAt 32 (.pointer (some ⟨g, j, none⟩)) (.int .i64 um0)).run Try.prog w = .ok () w' ∧ (Fr (fun q => q = g) w w' ∧ Bx w' g (z.setIfInBounds j (.int .i64 um0)) tt) := by
  have c0 := h.cell hj
  have e0 := h.free j
  exact ⟨w.setCell ⟨g, j, none⟩ (.int .i64 um0), by simp [go_sem, c0, e0], Fr.setCell _ _ _ rfl, h.set j _⟩
theorem qb_neq_int (w : World) (x y : Operand) (m n : Int) : ((do eqGuard .neq 3 x y (.int .i64 m) (.int .i64 n); binOp .neq 3 (.int .i64 m) (.int .i64 n) : Sem Value)).run Try.prog w = .ok (.bool (m != n)) w := by simp [go_sem]
theorem qa_irrun_machine_4 (w : World) (b o : Nat) : (Instr.fieldAt 55 (.pointer (some ⟨b, o, none⟩)) 4).run Try.prog w = .ok (.pointer (some ⟨b, o + 10, none⟩)) w := by simp [go_sem]
theorem ql_s_uint8 (w : World) (p : Option Addr) (k l : Nat) (d : Addr) (h : w.cell? d = some (.slice p k l)) : (Instr.loadAt 51 (.pointer (some d))).run Try.prog w = .ok (.slice p k l) w := by simp [go_sem, h]
theorem RA.as {c : RC} {w : World} {L : RL} {x : RSt} (h : RA c w L x) (x' : RSt) (h1 : x'.me = x.me) (h2 : x'.cl = x.cl) (h3 : x'.d = x.d) (h4 : x'.out = x.out) : RA c w L x' := by
  obtain ⟨me, cl, d, out, ins, ex, e⟩ := x'
  simp only at h1 h2 h3 h4
  subst h1 h2 h3 h4
  exact ⟨h.f0, h.f1, h.me, h.out, h.ca, h.rg, h.top, h.dc, h.ne, h.no⟩
theorem sz_u8 (w : World) : (Go.sizeOf 5).run Try.prog w = .ok 1 w := by simp [go_sem]
theorem sl_mem (b p n : Nat) (hn : 0 < n) (hp : p + n ≤ 65536) (w : World) : (Instr.slice 51 (.slice (some ⟨b, 0, none⟩) 65536 65536) (some (.int .i64 (p : Int))) (some (.int .i64 ((p : Int) + (n : Int)))) none).run Try.prog w = .ok (.slice (some ⟨b, 0 + p, none⟩) n (65536 - p)) w := by
  have ht' : (Try.prog).underlying 51 = some (.slice ((Try.prog).elem 51)) := by kernel_rfl
  have he : (Try.prog).elem 51 = 5 := by kernel_rfl
  rw [run_slice_lh w 51 _ _ _ ht' .i64 .i64 _ _ (by omega) (by omega) (by omega), he, sz_u8]
  have e1 : ((p : Int) + (n : Int)).toNat = p + n := by omega
  have e2 : ¬ 65536 = p := by omega
  have e3 : p + n - p = n := by omega
  by_cases h0 : p = 0
  · subst h0
    simp [Result.andThen, sliced, Addr.add, e1]
  · simp [Result.andThen, sliced, Addr.add, e1, e2, e3, h0]
set_option maxRecDepth 100000 in
theorem t_bytes {c : RC} {L : RL} {x : RSt} {fu : Int} {d gi oi : Nat} (hc : c.ok) (i : Inn) (hi : InsAt c.w0 gi oi i) (a : Int) (p n : Nat) (hp : rAt a i.x6 = (p : Int)) (hp2 : p < 4294967296) (hn : i.x7 = (n : Int)) (hn0 : 0 < n) (hn4 : n ≤ 4) (w : World) (h : RM c w L x fu d) : Calls Try.prog 31 #[.pointer (some ⟨c.M, 0, none⟩), .int .u32 a, .pointer (some ⟨gi, oi, none⟩)] w fun e w' => (rBad (rAt a i.x6) i.x7 ∧ e = .returned (.slice none 0 0) ∧ RM c w' L { x with e := 12 } fu d) ∨ (¬rBad (rAt a i.x6) i.x7 ∧ e = .returned (.slice (some ⟨c.mb, 0 + p, none⟩) n (65536 - p)) ∧ RM c w' L x fu d) := by
  obtain ⟨hm0, hr⟩ := id h
  have hm : Bx w c.M #[L.ov, .int .i64 x.ins, .int .u32 x.ex, .int .i64 x.e, .slice c.ga c.m.gl.length c.gc, .slice c.da c.m.da.length c.dc, .slice c.pa c.m.pr.length c.pc, .int .i64 c.m.mn, .slice c.ia c.inp.length c.ic, .int .i64 fu, .slice (some ⟨c.mb, 0, none⟩) 65536 65536, .slice c.la c.m.gl.length c.lc, .int .i64 (rFlo c.m), .slice c.fa c.m.pr.length c.fc, (.slice L.ca d L.cc)] 55 := hm0
  clear hm0
  have hI := hi.fr hr.f0
  have hat : ((a + i.x6 % 4294967296) % 4294967296 - 268435456) % 4294967296 = (p : Int) := by rw [← hp]; unfold rAt; omega
  refine calls_tw Try.func31 rfl rfl (Nat.le_of_ble_eq_true rfl) ?_
  refine TW.sreg ?_
  refine WL.op rfl rfl rfl (Go.Proofs.Ythdkmjbeemfbbaa.W.quiet_assign rfl rfl) ?_
  refine WL.nil ?_
  refine TW.sreg ?_
  refine WL.op rfl rfl rfl (Go.Proofs.Ythdkmjbeemfbbaa.W.quiet_move rfl rfl) ?_
  refine WL.op rfl rfl rfl (Go.Proofs.Ythdkmjbeemfbbaa.W.quiet_move rfl rfl) ?_
  refine O.nck rfl rfl rfl rfl rfl ?_
  refine WL.op rfl rfl rfl (Go.Proofs.Ythdkmjbeemfbbaa.W.quiet_field rfl rfl (fun W => (qa_api_Ins_6 W _ _))) ?_
  refine WL.ld rfl rfl rfl rfl rfl (ql_int _ _ _ hI.2.2.2.2.2.2.1) ?_
  refine O.cv rfl rfl rfl rfl rfl (cv_iu _ _) ?_
  refine WL.op rfl rfl rfl (Go.Proofs.Ythdkmjbeemfbbaa.W.quiet_bin rfl rfl rfl (fun W => add_u W _ _ _ _)) ?_
  refine WL.op rfl rfl rfl (Go.Proofs.Ythdkmjbeemfbbaa.W.quiet_bin rfl rfl rfl (fun W => sub_u W _ _ _ _)) ?_
  refine O.cv rfl rfl rfl rfl rfl ((cv_ui _ _ (by omega) (by omega)).trans (by rw [hat])) ?_
  refine WL.op rfl rfl rfl (Go.Proofs.Ythdkmjbeemfbbaa.W.quiet_assign rfl rfl) ?_
  refine WL.nil ?_
  refine TW.seq ?_
  refine TW.sreg ?_
  refine WL.op rfl rfl rfl (Go.Proofs.Ythdkmjbeemfbbaa.W.quiet_move rfl rfl) ?_
  refine WL.op rfl rfl rfl (Go.Proofs.Ythdkmjbeemfbbaa.W.quiet_move rfl rfl) ?_
  refine O.nck rfl rfl rfl rfl rfl ?_
  refine WL.op rfl rfl rfl (Go.Proofs.Ythdkmjbeemfbbaa.W.quiet_field rfl rfl (fun W => (qa_api_Ins_7 W _ _))) ?_
  refine WL.ld rfl rfl rfl rfl rfl ((ql_int _ _ _ hI.2.2.2.2.2.2.2.1).trans (by rw [hn])) ?_
  refine WL.op rfl rfl rfl (Go.Proofs.Ythdkmjbeemfbbaa.W.quiet_bin rfl rfl rfl (fun W => qb_add_int W _ _ _ _ (by omega) (by omega))) ?_
  refine WL.op rfl rfl rfl (Go.Proofs.Ythdkmjbeemfbbaa.W.quiet_bin rfl rfl rfl (fun W => qb_gtr_int W _ _ _ _)) ?_
  refine O.split (fun hb => ?_) (fun hb => ?_)
  · skip
    refine WL.op rfl rfl rfl (Go.Proofs.Ythdkmjbeemfbbaa.W.quiet_move rfl rfl) ?_
    refine WL.skip rfl rfl rfl ?_
    refine WL.skip rfl rfl rfl ?_
    refine WL.skip rfl rfl rfl ?_
    refine WL.skip rfl rfl rfl ?_
    refine WL.skip rfl rfl rfl ?_
    refine WL.skip rfl rfl rfl ?_
    refine WL.skip rfl rfl rfl ?_
    refine WL.op rfl rfl rfl (Go.Proofs.Ythdkmjbeemfbbaa.W.quiet_pick rfl rfl rfl) ?_
    refine WL.nil ?_
    refine TW.cond rfl (fun _ => ?_) (fun hb => by cases hb)
    refine TW.sreg ?_
    refine WL.op rfl rfl rfl (Go.Proofs.Ythdkmjbeemfbbaa.W.quiet_move rfl rfl) ?_
    refine O.nck rfl rfl rfl rfl rfl ?_
    refine WL.op rfl rfl rfl (Go.Proofs.Ythdkmjbeemfbbaa.W.quiet_field rfl rfl (fun W => (qa_irrun_machine_0 W _ _))) ?_
    refine WL.op rfl rfl rfl (Go.Proofs.Ythdkmjbeemfbbaa.W.quiet_field rfl rfl (fun W => (qa_api_Outcome_3 W _ _))) ?_
    refine O.storeR rfl rfl rfl rfl rfl (qsF_api_Errno w _ 3 _ _ _ _ hm rfl) ?_
    rintro wa1 ⟨fa1, hmx⟩
    replace hr := hr.frM hc hm fa1
    replace hI := hi.fr hr.f0
    clear hm
    have hm := hmx
    clear hmx
    refine WL.nil ?_
    refine TW.sreg ?_
    refine WL.op rfl rfl rfl (Go.Proofs.Ythdkmjbeemfbbaa.W.quiet_assign rfl rfl) ?_
    refine WL.nil ?_
    refine TW.rt ?_
    refine Xw.thn (by simp) ?_
    refine bodyw_ret rfl rfl ?_
    refine .inl ⟨?_, rfl, hm, hr.as _ rfl rfl rfl rfl⟩
    rw [hp, hn]
    exact .inl (by simpa using hb)
  · have hb1 := hb
    refine WL.op rfl rfl rfl (Go.Proofs.Ythdkmjbeemfbbaa.W.quiet_move rfl rfl) ?_
    refine WL.op rfl rfl rfl (Go.Proofs.Ythdkmjbeemfbbaa.W.quiet_move rfl rfl) ?_
    refine WL.op rfl rfl rfl (Go.Proofs.Ythdkmjbeemfbbaa.W.quiet_move rfl rfl) ?_
    refine O.nck rfl rfl rfl rfl rfl ?_
    refine WL.op rfl rfl rfl (Go.Proofs.Ythdkmjbeemfbbaa.W.quiet_field rfl rfl (fun W => (qa_api_Ins_7 W _ _))) ?_
    refine WL.ld rfl rfl rfl rfl rfl ((ql_int _ _ _ hI.2.2.2.2.2.2.2.1).trans (by rw [hn])) ?_
    refine WL.op rfl rfl rfl (Go.Proofs.Ythdkmjbeemfbbaa.W.quiet_bin rfl rfl rfl (fun W => rem_i W _ _ _ _ (by omega) (by omega) (by omega))) ?_
    refine WL.op rfl rfl rfl (Go.Proofs.Ythdkmjbeemfbbaa.W.quiet_bin rfl rfl rfl (fun W => qb_neq_int W _ _ _ _)) ?_
    refine O.split (fun hb => ?_) (fun hb => ?_)
    · skip
      refine WL.op rfl rfl rfl (Go.Proofs.Ythdkmjbeemfbbaa.W.quiet_pick rfl rfl rfl) ?_
      refine WL.nil ?_
      refine TW.cond rfl (fun _ => ?_) (fun hb => by cases hb)
      refine TW.sreg ?_
      refine WL.op rfl rfl rfl (Go.Proofs.Ythdkmjbeemfbbaa.W.quiet_move rfl rfl) ?_
      refine O.nck rfl rfl rfl rfl rfl ?_
      refine WL.op rfl rfl rfl (Go.Proofs.Ythdkmjbeemfbbaa.W.quiet_field rfl rfl (fun W => (qa_irrun_machine_0 W _ _))) ?_
      refine WL.op rfl rfl rfl (Go.Proofs.Ythdkmjbeemfbbaa.W.quiet_field rfl rfl (fun W => (qa_api_Outcome_3 W _ _))) ?_
      refine O.storeR rfl rfl rfl rfl rfl (qsF_api_Errno w _ 3 _ _ _ _ hm rfl) ?_
      rintro wa2 ⟨fa2, hmx⟩
      replace hr := hr.frM hc hm fa2
      replace hI := hi.fr hr.f0
      clear hm
      have hm := hmx
      clear hmx
      refine WL.nil ?_
      refine TW.sreg ?_
      refine WL.op rfl rfl rfl (Go.Proofs.Ythdkmjbeemfbbaa.W.quiet_assign rfl rfl) ?_
      refine WL.nil ?_
      refine TW.rt ?_
      refine Xw.thn (by simp) ?_
      refine bodyw_ret rfl rfl ?_
      refine .inl ⟨?_, rfl, hm, hr.as _ rfl rfl rfl rfl⟩
      rw [hp, hn]
      exact .inr (by simpa using hb)
    · skip
      refine WL.op rfl rfl rfl (Go.Proofs.Ythdkmjbeemfbbaa.W.quiet_pick rfl rfl rfl) ?_
      refine WL.nil ?_
      refine TW.cond rfl (fun hb => by cases hb) (fun _ => ?_)
      refine TW.skip ?_
      refine Q.sreg (C := fun W => Fr (fun _ => False) w W) (by kernel_rfl) (by kernel_rfl) (fun W h => h.drewN 1) (Fr.refl _ _) ?_
      refine W.op rfl rfl rfl (Go.Proofs.Ythdkmjbeemfbbaa.W.quiet_move rfl rfl) ?_
      refine W.op rfl rfl rfl (Q.nck rfl rfl) ?_
      refine W.op rfl rfl rfl (Go.Proofs.Ythdkmjbeemfbbaa.W.quiet_field rfl rfl (fun W => (qa_irrun_machine_4 W _ _))) ?_
      refine W.op rfl rfl rfl (Go.Proofs.Ythdkmjbeemfbbaa.W.quiet_load rfl rfl (fun W hW => (ql_s_uint8 _ _ _ _ _ ((hm.fr hW id).cell (j := 10) rfl)))) ?_
      refine W.op rfl rfl rfl (Go.Proofs.Ythdkmjbeemfbbaa.W.quiet_move rfl rfl) ?_
      refine W.op rfl rfl rfl (Go.Proofs.Ythdkmjbeemfbbaa.W.quiet_move rfl rfl) ?_
      refine W.op rfl rfl rfl (Go.Proofs.Ythdkmjbeemfbbaa.W.quiet_move rfl rfl) ?_
      refine W.op rfl rfl rfl (Q.nck rfl rfl) ?_
      refine W.op rfl rfl rfl (Go.Proofs.Ythdkmjbeemfbbaa.W.quiet_field rfl rfl (fun W => (qa_api_Ins_7 W _ _))) ?_
      refine W.op rfl rfl rfl (Go.Proofs.Ythdkmjbeemfbbaa.W.quiet_load rfl rfl (fun W hW => ((ql_int _ _ _ (hW.cell hI.2.2.2.2.2.2.2.1 id)).trans (by rw [hn])))) ?_
      refine W.op rfl rfl rfl (Go.Proofs.Ythdkmjbeemfbbaa.W.quiet_bin rfl rfl rfl (fun W => qb_add_int W _ _ _ _ (by omega) (by omega))) ?_
      refine W.op rfl rfl rfl (Q.sl12 rfl rfl rfl rfl (fun W hW => (sl_mem _ _ _ (by omega) (by have := of_decide_eq_false hb1; omega) _))) ?_
      refine W.op rfl rfl rfl (Go.Proofs.Ythdkmjbeemfbbaa.W.quiet_assign rfl rfl) ?_
      refine Q.nil (T.tw fun wq1 fq1 => ?_)
      replace hm := hm.fr fq1 id
      replace hr := hr.fr0 hc fq1
      replace hI := hi.fr hr.f0
      refine TW.rt ?_
      refine bodyw_ret rfl rfl ?_
      refine .inr ⟨?_, rfl, hm, hr⟩
      rw [hp, hn]
      rintro (q | q)
      · have := of_decide_eq_false hb1; omega
      · simp at hb; exact q hb
theorem O.cap {P : Program} {ops : Array Oper} {N : Nat} {Q : Exit → Act → World → Prop} {s : List (Nat × Value)} {l : List Oper} {o : Oper} {d : Nat} {w : World} {x : Operand} {u v : Value} {t : TypeId} (hop : o.op = .call ⟨.builtin .cap, #[x], #[t]⟩) (hd : o.dst = some d) (hN : Nat.blt d N = true) (hg : gd ops s o = some true) (hu : ev s x = some u) (hr : (Builtin.cap_ #[t] o.type #[u]).run P w = .ok v w) (h : WL P ops N Q ((d, v) :: s) l w) : WL P ops N Q s (o :: l) w :=
  WL.run hd hN hg (fun a k => by
    have h1 := k.eval hu
    unfold execOp
    rw [hop]
    generalize a.eval = e at *
    simp [go_sem, h1, hr]) h
theorem Q.cap {P : Program} {C : World → Prop} {N : Nat} {s : List (Nat × Value)} {o : Oper} {x : Operand} {t : TypeId} {u v : Value} (hop : o.op = .call ⟨.builtin .cap, #[x], #[t]⟩) (hu : ev s x = some u) (hr : ∀ w, (Builtin.cap_ #[t] o.type #[u]).run P w = .ok v w) : ∀ a, Kn N s a → ∀ w, C w → o.quietAt P a C w v := fun a k w hw => by
  have h1 := k.eval hu
  refine quietAt_of ?_
  unfold execOp
  rw [hop]
  generalize a.eval = e at *
  simp [go_sem, h1, hr]
theorem cap_r (w : World) (ty : TypeId) (a : Option Addr) (k l : Nat) : (Builtin.cap_ #[64] ty #[.slice a k l]).run Try.prog w = .ok (.int .i64 l) w := by simp [go_sem, Builtin.cap_]
theorem cap_c (w : World) (ty : TypeId) (a : Option Addr) (k l : Nat) : (Builtin.cap_ #[53] ty #[.slice a k l]).run Try.prog w = .ok (.int .i64 l) w := by simp [go_sem, Builtin.cap_]
theorem info_u32 : (Try.prog.info? 31).map (fun i => (i.zero, i.size, i.bytes)) = some (some (.int .u32 0), 1, 4) := by kernel_rfl
theorem mk_r (n : Nat) (hn : n ≤ 1000000) (w : World) : (Instr.makeSlice 64 (.int .i64 (n : Int)) (.int .i64 (n : Int))).run Try.prog w = .ok (.slice (some ⟨w.heap.size, 0, none⟩) n n) (w.alloc (.cells (madeCells #[.int .u32 0] n) 31)) :=
  run_make_row' 64 31 (.int .u32 0) 4 Try.underlying64 info_u32 rfl .i64 .i64 n (by omega) (by omega) w
theorem made_get (z : Value) (n j : Nat) (hj : j < n) : (madeCells #[z] n)[j]? = some z := by
  have h := toList_madeCells_one z n
  rw [← Array.getElem?_toList, h, List.getElem?_replicate, if_pos hj]
theorem run_clear0 {P : Program} {w : World} (t ty : TypeId) (e : TypeId) (i : TypeInfo) (z : Value) (ht : P.underlying t = some (.slice e)) (hi : P.info? e = some i) (hz : i.zero = some z) (hzs : z.cells = #[z]) (hz1 : z.oneCell' = true)
    (g n c : Nat) (cur : Array Value) (hg : w.heap[g]? = some (.cells cur e (0, 0))) (hfit : n ≤ cur.size) :
    ∃ w' cur', (Builtin.clear_ #[t] ty #[.slice (some ⟨g, 0, none⟩) n c]).run P w = .ok (.tuple #[]) w' ∧ w'.heap[g]? = some (.cells cur' e (0, 0)) ∧ cur'.size = cur.size ∧ (∀ j, j < n → cur'[j]? = some z) ∧ Fr (fun k => k = g) w w' := by
  by_cases hn : n = 0
  · subst hn
    exact ⟨w, cur, by simp [Builtin.clear_, run_underlying ht], hg, rfl, fun _ h => absurd h (Nat.not_lt_zero _), Fr.refl _ _⟩
  · have hsz : (Builtin.zeroCells #[z] n).toList.length = n := by
      rw [Array.length_toList, size_zeroCells]; simp
    have h1 : ∀ v ∈ (Builtin.zeroCells #[z] n).toList, v = z := by
      intro v hv
      simp [Builtin.zeroCells] at hv
      obtain ⟨j, hj, rfl⟩ := hv
      simp [Nat.mod_one]
    have hst := run_storeCells_at P g 0 e (Builtin.zeroCells #[z] n).toList 0 cur w hg (by rw [hsz]; simpa using hfit) (fun v hv => by rw [h1 v hv]; exact hz1)
    have hr : (Builtin.clear_ #[t] ty #[.slice (some ⟨g, 0, none⟩) n c]).run P w = .ok (.tuple #[]) (w.setRow g (cur.toList.take (0 + 0) ++ (Builtin.zeroCells #[z] n).toList ++ cur.toList.drop (0 + 0 + (Builtin.zeroCells #[z] n).toList.length)).toArray) := by
      cases n with
      | zero => exact absurd rfl hn
      | succ n => simp [Builtin.clear_, run_underlying ht, zeroValue, typeInfo, hi, hz, hzs] ; simp at hst; rw [hst]; rfl
    refine ⟨_, _, hr, setRow_heap w g cur _ e _ hg, ?_, ?_, ⟨rfl, rfl, by simp, fun k hk hn => setRow_other w g k _ hn⟩⟩
    · rw [List.size_toArray, List.length_append, List.length_append, hsz, List.length_take, List.length_drop, Array.length_toList]
      omega
    · intro j hj
      rw [List.getElem?_toArray, Nat.add_zero, List.take_zero, List.nil_append, List.getElem?_append_left (by omega)]
      have hjl : j < (Builtin.zeroCells #[z] n).toList.length := by omega
      rw [List.getElem?_eq_getElem hjl]
      exact congrArg some (h1 _ (List.getElem_mem hjl))
theorem sl_r0 (w : World) : (Instr.slice 64 (.slice none 0 0) none (some (.int .i64 ((0 : Nat) : Int))) none).run Try.prog w = .ok (.slice none 0 0) w := by simp [go_sem, sliced]
theorem sl_rn (g m k n : Nat) (hn : n ≤ k) (w : World) : (Instr.slice 64 (.slice (some ⟨g, 0, none⟩) m k) none (some (.int .i64 (n : Int))) none).run Try.prog w = .ok (.slice (some ⟨g, 0, none⟩) n k) w := by
  have ht' : (Try.prog).underlying 64 = some (.slice ((Try.prog).elem 64)) := by kernel_rfl
  have he : (Try.prog).elem 64 = 31 := by kernel_rfl
  have hs : (Go.sizeOf 31).run Try.prog w = .ok 1 w := by simp [go_sem]
  rw [run_slice_h w 64 _ _ _ ht' .i64 _ (by omega) (by omega), he, hs]
  by_cases h0 : k = 0
  · subst h0
    obtain rfl : n = 0 := by omega
    simp [Result.andThen, sliced, Addr.add]
  · simp [Result.andThen, sliced, Addr.add, h0]
theorem clr_nil (ty : TypeId) (w : World) : ∃ w', (Builtin.clear_ #[64] ty #[.slice none 0 0]).run Try.prog w = .ok (.tuple #[]) w' ∧ w' = w := ⟨w, by simp [Builtin.clear_, go_sem], rfl⟩
theorem clr_r (ty : TypeId) (w : World) (g n k : Nat) (z : Array Value) (hz : Bx w g z 31) (hk : z.size = k) (hn : n ≤ k) (hm : k ≤ maxLen) : ∃ w', (Builtin.clear_ #[64] ty #[.slice (some ⟨g, 0, none⟩) n k]).run Try.prog w = .ok (.tuple #[]) w' ∧ (RegA w' (.slice (some ⟨g, 0, none⟩) n k) n (fun _ => 0) ∧ Fr (fun q => q = g) w w') := by
  obtain ⟨i0, hi, hz0, _, _⟩ := info_row info_u32
  obtain ⟨w', z', h1, h2, h3, h4, h5⟩ := run_clear0 (P := Try.prog) 64 ty 31 i0 (.int .u32 0) Try.underlying64 hi hz0 rfl rfl g n k z hz (by omega)
  exact ⟨w', h1, .inr ⟨g, k, z', rfl, hn, hm, h2, by omega, h4⟩, h5⟩
def ClearP (v : Value) (n : Nat) (w : World) (e : Ending) (w' : World) : Prop := ∃ v', e = .returned v' ∧ RegA w' v' n (fun _ => 0) ∧ Fr (fun q => v.ownBlock = some q) w w' ∧ (∀ g, v'.ownBlock = some g → v.ownBlock = some g ∨ w.heap.size ≤ g) ∧ RegS w' v
set_option maxRecDepth 100000 in
theorem t_cleared (v : Value) (n : Nat) (hn : n ≤ 100000) (w : World) (hv : RegS w v) : Calls Try.prog 19 #[v, .int .i64 (n : Int)] w (ClearP v n w) := by
  refine calls_tw Try.func19 rfl rfl (Nat.le_of_ble_eq_true rfl) ?_
  rcases hv with rfl | ⟨g, m, k, z, rfl, h1, h2, h3, h4⟩
  · skip
    refine TW.sreg ?_
    refine WL.op rfl rfl rfl (Go.Proofs.Ythdkmjbeemfbbaa.W.quiet_assign rfl rfl) ?_
    refine WL.nil ?_
    refine TW.seq ?_
    refine TW.sreg ?_
    refine WL.op rfl rfl rfl (Go.Proofs.Ythdkmjbeemfbbaa.W.quiet_move rfl rfl) ?_
    refine O.cap rfl rfl rfl rfl rfl (cap_r _ _ _ _ _) ?_
    refine WL.op rfl rfl rfl (Go.Proofs.Ythdkmjbeemfbbaa.W.quiet_move rfl rfl) ?_
    refine WL.op rfl rfl rfl (Go.Proofs.Ythdkmjbeemfbbaa.W.quiet_bin rfl rfl rfl (fun W => qb_lss_int W _ _ _ _)) ?_
    refine O.split (fun hb => ?_) (fun hb => ?_)
    · skip
      refine WL.nil ?_
      refine TW.cond rfl (fun _ => ?_) (fun hb => by cases hb)
      refine TW.sreg ?_
      refine WL.op rfl rfl rfl (Go.Proofs.Ythdkmjbeemfbbaa.W.quiet_move rfl rfl) ?_
      refine O.mkR rfl rfl rfl rfl rfl rfl (mk_r n (by omega) _) ?_
      rintro wa1 ⟨fa1, bx1⟩
      refine WL.op rfl rfl rfl (Go.Proofs.Ythdkmjbeemfbbaa.W.quiet_assign rfl rfl) ?_
      refine WL.nil ?_
      refine TW.rt ?_
      refine Xw.thn (by simp) ?_
      refine bodyw_ret rfl rfl ?_
      exact ⟨_, rfl, .inr ⟨_, n, _, rfl, Nat.le_refl _, by unfold maxLen; omega, bx1, by rw [size_madeCells], fun j hj => made_get _ _ _ hj⟩, fa1.mono (fun _ _ e => e.elim), fun g hg => by cases hg; exact .inr (Nat.le_refl _), .inl rfl⟩
    · skip
      obtain rfl : n = 0 := by have := of_decide_eq_false hb; omega
      refine WL.nil ?_
      refine TW.cond rfl (fun hb => by cases hb) (fun _ => ?_)
      refine TW.skip ?_
      refine TW.sreg ?_
      refine WL.op rfl rfl rfl (Go.Proofs.Ythdkmjbeemfbbaa.W.quiet_move rfl rfl) ?_
      refine WL.op rfl rfl rfl (Go.Proofs.Ythdkmjbeemfbbaa.W.quiet_move rfl rfl) ?_
      refine O.sl2 rfl rfl rfl rfl rfl rfl (sl_r0 _) ?_
      refine WL.op rfl rfl rfl (Go.Proofs.Ythdkmjbeemfbbaa.W.quiet_assign rfl rfl) ?_
      refine WL.nil ?_
      refine TW.sreg ?_
      refine WL.op rfl rfl rfl (Go.Proofs.Ythdkmjbeemfbbaa.W.quiet_move rfl rfl) ?_
      refine O.clr rfl rfl rfl rfl (clr_nil _ _) ?_
      rintro w5 rfl
      refine WL.nil ?_
      refine TW.sreg ?_
      refine WL.op rfl rfl rfl (Go.Proofs.Ythdkmjbeemfbbaa.W.quiet_move rfl rfl) ?_
      refine WL.op rfl rfl rfl (Go.Proofs.Ythdkmjbeemfbbaa.W.quiet_assign rfl rfl) ?_
      refine WL.nil ?_
      refine TW.rt ?_
      refine bodyw_ret rfl rfl ?_
      exact ⟨_, rfl, .inl ⟨rfl, rfl⟩, Fr.refl _ _, fun g hg => (by cases hg), .inl rfl⟩
  · skip
    refine TW.sreg ?_
    refine WL.op rfl rfl rfl (Go.Proofs.Ythdkmjbeemfbbaa.W.quiet_assign rfl rfl) ?_
    refine WL.nil ?_
    refine TW.seq ?_
    refine TW.sreg ?_
    refine WL.op rfl rfl rfl (Go.Proofs.Ythdkmjbeemfbbaa.W.quiet_move rfl rfl) ?_
    refine O.cap rfl rfl rfl rfl rfl (cap_r _ _ _ _ _) ?_
    refine WL.op rfl rfl rfl (Go.Proofs.Ythdkmjbeemfbbaa.W.quiet_move rfl rfl) ?_
    refine WL.op rfl rfl rfl (Go.Proofs.Ythdkmjbeemfbbaa.W.quiet_bin rfl rfl rfl (fun W => qb_lss_int W _ _ _ _)) ?_
    refine O.split (fun hb => ?_) (fun hb => ?_)
    · skip
      refine WL.nil ?_
      refine TW.cond rfl (fun _ => ?_) (fun hb => by cases hb)
      refine TW.sreg ?_
      refine WL.op rfl rfl rfl (Go.Proofs.Ythdkmjbeemfbbaa.W.quiet_move rfl rfl) ?_
      refine O.mkR rfl rfl rfl rfl rfl rfl (mk_r n (by omega) _) ?_
      rintro wa2 ⟨fa2, bx2⟩
      refine WL.op rfl rfl rfl (Go.Proofs.Ythdkmjbeemfbbaa.W.quiet_assign rfl rfl) ?_
      refine WL.nil ?_
      refine TW.rt ?_
      refine Xw.thn (by simp) ?_
      refine bodyw_ret rfl rfl ?_
      exact ⟨_, rfl, .inr ⟨_, n, _, rfl, Nat.le_refl _, by unfold maxLen; omega, bx2, by rw [size_madeCells], fun j hj => made_get _ _ _ hj⟩, fa2.mono (fun _ _ e => e.elim), fun g hg => by cases hg; exact .inr (Nat.le_refl _), .inr ⟨g, m, k, z, rfl, h1, h2, h3.fr fa2 id, h4⟩⟩
    · skip
      have hnk : n ≤ k := by have := of_decide_eq_false hb; omega
      refine WL.nil ?_
      refine TW.cond rfl (fun hb => by cases hb) (fun _ => ?_)
      refine TW.skip ?_
      refine TW.sreg ?_
      refine WL.op rfl rfl rfl (Go.Proofs.Ythdkmjbeemfbbaa.W.quiet_move rfl rfl) ?_
      refine WL.op rfl rfl rfl (Go.Proofs.Ythdkmjbeemfbbaa.W.quiet_move rfl rfl) ?_
      refine O.sl2 rfl rfl rfl rfl rfl rfl (sl_rn _ _ _ _ hnk _) ?_
      refine WL.op rfl rfl rfl (Go.Proofs.Ythdkmjbeemfbbaa.W.quiet_assign rfl rfl) ?_
      refine WL.nil ?_
      refine TW.sreg ?_
      refine WL.op rfl rfl rfl (Go.Proofs.Ythdkmjbeemfbbaa.W.quiet_move rfl rfl) ?_
      refine O.clr rfl rfl rfl rfl (clr_r _ _ _ _ _ z h3 h4 hnk h2) ?_
      rintro w5 ⟨hR5, hF5⟩
      -- world w5
      refine WL.nil ?_
      refine TW.sreg ?_
      refine WL.op rfl rfl rfl (Go.Proofs.Ythdkmjbeemfbbaa.W.quiet_move rfl rfl) ?_
      refine WL.op rfl rfl rfl (Go.Proofs.Ythdkmjbeemfbbaa.W.quiet_assign rfl rfl) ?_
      refine WL.nil ?_
      refine TW.rt ?_
      refine bodyw_ret rfl rfl ?_
      have hS5 : RegS w5 (.slice (some ⟨g, 0, none⟩) m k) := by
        rcases id hR5 with ⟨e, _⟩ | ⟨g2, k2, z2, e, _, _, b, b2, _⟩
        · cases e
        · injection e with e1 _ e3
          injection e1 with e1
          injection e1 with e1
          subst e1 e3
          exact .inr ⟨g, m, k, z2, rfl, h1, h2, b, b2⟩
      exact ⟨_, rfl, hR5, hF5.mono (fun q _ e => congrArg some e.symm), fun g hg => .inl hg, hS5⟩
end Go.Proofs.Ythdkmjbeemfbbaa
