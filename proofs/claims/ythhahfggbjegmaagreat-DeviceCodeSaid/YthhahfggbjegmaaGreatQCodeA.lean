/-
  Rows of the call's own that are written over beside a machine (layer 3), for the law that code and inputs are never written.
-/
import Derived.Test.YthhahfggbjegmaaGreatQRunsB
import Derived.Maps.AppendAt
namespace Go.Proofs.YthhahfggbjegmaaGreat
open Go.RowKit
set_option linter.unusedVariables false
set_option linter.unusedSimpArgs false
theorem app_nil {P : Program} (w : World) (t ty e : TypeId) (i : TypeInfo) (ht : P.underlying t = some (.slice e)) (hi : P.info? e = some i) (c : Nat) : (Builtin.append_ #[t, t] ty #[.slice none 0 0, .slice none 0 c]).run P w = .ok (.slice none 0 0) w := by
  simp [Builtin.append_, run_underlying ht, sizeOf, typeInfo, hi, Builtin.lenOf, Builtin.firstCells]
/-- What was nil gets a copy of a slice. -/
theorem wpl_app0 {P : Program} {w : World} {ops : Array Oper} {rest : List Oper} {o : Oper} {a : Act} {Q : Exit → Act → World → Prop} (hgd : o.guard = none) (s x : Operand) (t : TypeId)
    (ho : o.op = .call { callee := .builtin .append, args := #[s, x], argTypes := #[t, t] })
    (e : TypeId) (i : TypeInfo) (z : Value) (bytes : Nat) (ht : P.underlying t = some (.slice e)) (hi : P.info? e = some i) (hz : i.zero = some z)
    (hsize : i.size = 1) (hby : i.bytes = bytes) (hzs : z.cells.size = 1) (hs : a.eval s = .slice none 0 0)
    (k : IntKind) (A : Option Addr) (m c : Nat) (l : List Int) (hx : a.eval x = .slice A m c) (hl : l.length = m) (hL : ListAt k w (.slice A m c) l) (h63 : m ≤ maxLen) (hbytes : m * bytes ≤ 140737488355328)
    (h : ∀ v' w', w'.ownsRow w.heap.size e 1 v' m (l.map (Value.int k)) → Fr (fun _ => False) w w' → wpList P ops Q rest (a.put o.dst v') w') :
    wpList P ops Q (o :: rest) a w := by
  cases A with
  | none =>
    rcases hL with ⟨e1, e2⟩ | ⟨ad, c', e1, _⟩
    · simp only [Value.slice.injEq] at e1
      obtain ⟨_, rfl, rfl⟩ := e1
      subst e2
      refine wpList_plain hgd fun K hK => ?_
      unfold Oper.wp execOp
      simp only [ho, resolve, invoke, builtin, Sem.run_bind, Sem.run_pure, Result.andThen_ok, List.map_toArray, List.map_cons, List.map_nil, hs, hx, app_nil w t o.type e i ht hi 0]
      exact hK _ _ (h _ _ (World.ownsRow_nil _ _ _ _) (Fr.refl _ _))
    · simp at e1
  | some ad =>
    have hnews : ∀ j u, (l.map (Value.int k))[j]? = some u → w.cell? (ad.add j) = some u := by
      rcases hL with ⟨e1, e2⟩ | ⟨ad', c', e1, hc⟩
      · simp at e1
      · simp only [Value.slice.injEq, Option.some.injEq] at e1
        obtain ⟨rfl, _, rfl⟩ := e1
        exact list_news hc
    refine wpList_append_own_at w hgd s x t ho w.heap.size e i z 1 bytes ht hi hz hsize hby hzs (by decide) (.slice none 0 0) 0 [] hs (World.ownsRow_nil _ _ _ _) ad m c (l.map (Value.int k)) hx (by simp [hl]) hnews ones (by omega) (by rw [Nat.zero_add]; exact hbytes) (Nat.le_refl _) ?_
    intro v' w' h1 h2 _ _
    rw [Nat.zero_add, List.nil_append] at h1
    exact h v' w' h1 (Fr.of_by0 h2)
def RowOf (k : IntKind) (mx : Int) (w : World) (a : Option Addr) (n : Nat) : Prop :=
  ∀ j, j < n → ∃ g x, a = some ⟨g, 0, none⟩ ∧ 0 ≤ x ∧ x ≤ mx ∧ w.cell? ⟨g, j, none⟩ = some (.int k x) ∧ w.frozen? ⟨g, j, none⟩ = false
def Blk (a : Option Addr) (k : Nat) : Prop := ∃ ad, a = some ad ∧ ad.block = k
theorem RowOf.kept {k : IntKind} {mx : Int} {w w' : World} {a : Option Addr} {n : Nat} {F : Nat → Prop} (h : RowOf k mx w a n) (hf : Fr F w w') (hn : ∀ x, Blk a x → ¬ F x) : RowOf k mx w' a n := by
  intro j hj
  obtain ⟨g, x, e, x0, x1, hc, hz⟩ := h j hj
  exact ⟨g, x, e, x0, x1, hf.cell hc (hn g ⟨_, e, rfl⟩), (hf.frozen hc (hn g ⟨_, e, rfl⟩)).trans hz⟩
theorem RowOf.set {k : IntKind} {mx : Int} {w : World} {g : Nat} {n j : Nat} {v : Int} (h : RowOf k mx w (some ⟨g, 0, none⟩) n) (hj : j < n) (v0 : 0 ≤ v) (v1 : v ≤ mx) : RowOf k mx (w.setCell ⟨g, j, none⟩ (.int k v)) (some ⟨g, 0, none⟩) n := by
  intro q hq
  obtain ⟨g', x, e, x0, x1, hc, hz⟩ := h q hq
  simp only [Option.some.injEq, Addr.mk.injEq, and_true] at e
  subst e
  by_cases hqj : q = j
  · subst hqj
    exact ⟨g, v, rfl, v0, v1, World.cell?_setCell_same _ _ _ hc, (World.frozen?_setCell _ _ _ _).trans hz⟩
  · exact ⟨g, x, rfl, x0, x1, (World.cell?_setCell_other _ _ _ _ (fun e => hqj (by injection e with _ q; exact q.symm))).trans hc, (World.frozen?_setCell _ _ _ _).trans hz⟩
theorem own_row {k : IntKind} {w : World} {base e n : Nat} {v : Value} {l : List Int} {mx : Int} (h : w.ownsRow base e 1 v n (l.map (Value.int k))) (hl : l.length = n) (hb : ∀ i, i < l.length → 0 ≤ l.getD i 0 ∧ l.getD i 0 ≤ mx) :
    ∃ a c, v = .slice a n c ∧ RowOf k mx w a n ∧ ListAt k w (.slice a n c) l ∧ ∀ x, Blk a x → base ≤ x ∧ x < w.heap.size := by
  by_cases hv : v = .slice none 0 0
  · have h0 : n = 0 := by
      rcases h.2 with ⟨_, e⟩ | ⟨g, c, cur, e, _⟩
      · exact e
      · rw [hv] at e; cases e
    subst h0
    exact ⟨none, 0, hv, fun j hj => by omega, .inl ⟨rfl, List.length_eq_zero_iff.1 hl⟩, fun x ⟨ad, e, _⟩ => by cases e⟩
  · obtain ⟨g, c, rfl, h1, h2⟩ := own_form h hv
    have hcell : ∀ j, j < n → w.cell? ⟨g, j, none⟩ = some (.int k (l.getD j 0)) := fun j hj => by
      rw [h.cellAt j (by omega)]
      simp [show j < l.length by omega, List.getD_eq_getElem?_getD]
    refine ⟨some ⟨g, 0, none⟩, c, rfl, fun j hj => ⟨g, l.getD j 0, rfl, (hb j (by omega)).1, (hb j (by omega)).2, hcell j hj, h.frozenAt j⟩, .inr ⟨⟨g, 0, none⟩, c, by rw [hl], fun j hj => ⟨rfl, ?_⟩⟩, fun x ⟨ad, e, e2⟩ => by cases e; subst e2; exact ⟨h1, h2⟩⟩
    show w.cell? ⟨g, 0 + j, none⟩ = _
    rw [Nat.zero_add]
    exact hcell j (by omega)
def ScrF (a1 a2 a3 : Option Addr) (x : Nat) : Prop := Blk a1 x ∨ Blk a2 x ∨ Blk a3 x
structure Scr (wa : World) (a1 a2 a3 : Option Addr) (n m i : Nat) (wr : World) : Prop where
  fr : Fr (ScrF a1 a2 a3) wa wr
  r1 : RowOf .u32 4294967295 wr a1 n
  r2 : RowOf .u8 255 wr a2 m
  r3 : RowOf .u32 4294967295 wr a3 i
structure Apart (a1 a2 a3 : Option Addr) : Prop where
  d12 : ∀ x, Blk a1 x → ¬ Blk a2 x
  d13 : ∀ x, Blk a1 x → ¬ Blk a3 x
  d23 : ∀ x, Blk a2 x → ¬ Blk a3 x
theorem Scr.set1 {wa wr : World} {a2 a3 : Option Addr} {g n m i j : Nat} {v : Int} (h : Scr wa (some ⟨g, 0, none⟩) a2 a3 n m i wr) (hd : Apart (some ⟨g, 0, none⟩) a2 a3) (hj : j < n) (v0 : 0 ≤ v) (v1 : v ≤ 4294967295) : Scr wa (some ⟨g, 0, none⟩) a2 a3 n m i (wr.setCell ⟨g, j, none⟩ (.int .u32 v)) := by
  have hF := Fr.setCell (F := fun k => k = g) wr ⟨g, j, none⟩ (.int .u32 v) rfl
  refine ⟨h.fr.trans (Fr.setCell _ _ _ (.inl ⟨_, rfl, rfl⟩)), h.r1.set hj v0 v1, h.r2.kept hF (fun x hx e => ?_), h.r3.kept hF (fun x hx e => ?_)⟩
  · subst e; exact hd.d12 _ ⟨_, rfl, rfl⟩ hx
  · subst e; exact hd.d13 _ ⟨_, rfl, rfl⟩ hx
theorem Scr.set2 {wa wr : World} {a1 a3 : Option Addr} {g n m i j : Nat} {v : Int} (h : Scr wa a1 (some ⟨g, 0, none⟩) a3 n m i wr) (hd : Apart a1 (some ⟨g, 0, none⟩) a3) (hj : j < m) (v0 : 0 ≤ v) (v1 : v ≤ 255) : Scr wa a1 (some ⟨g, 0, none⟩) a3 n m i (wr.setCell ⟨g, j, none⟩ (.int .u8 v)) := by
  have hF := Fr.setCell (F := fun k => k = g) wr ⟨g, j, none⟩ (.int .u8 v) rfl
  refine ⟨h.fr.trans (Fr.setCell _ _ _ (.inr (.inl ⟨_, rfl, rfl⟩))), h.r1.kept hF (fun x hx e => ?_), h.r2.set hj v0 v1, h.r3.kept hF (fun x hx e => ?_)⟩
  · subst e; exact hd.d12 _ hx ⟨_, rfl, rfl⟩
  · subst e; exact hd.d23 _ ⟨_, rfl, rfl⟩ hx
theorem Scr.set3 {wa wr : World} {a1 a2 : Option Addr} {g n m i j : Nat} {v : Int} (h : Scr wa a1 a2 (some ⟨g, 0, none⟩) n m i wr) (hd : Apart a1 a2 (some ⟨g, 0, none⟩)) (hj : j < i) (v0 : 0 ≤ v) (v1 : v ≤ 4294967295) : Scr wa a1 a2 (some ⟨g, 0, none⟩) n m i (wr.setCell ⟨g, j, none⟩ (.int .u32 v)) := by
  have hF := Fr.setCell (F := fun k => k = g) wr ⟨g, j, none⟩ (.int .u32 v) rfl
  refine ⟨h.fr.trans (Fr.setCell _ _ _ (.inr (.inr ⟨_, rfl, rfl⟩))), h.r1.kept hF (fun x hx e => ?_), h.r2.kept hF (fun x hx e => ?_), h.r3.set hj v0 v1⟩
  · subst e; exact hd.d13 _ hx ⟨_, rfl, rfl⟩
  · subst e; exact hd.d23 _ hx ⟨_, rfl, rfl⟩
theorem MPair.start2 {w0 wx wb : World} {a0 a2 : Option Addr} {ws ds ins : List Int} {c0 c2 ba : Nat} {L : Lay} {R : RLay} {gb : Nat} (f0 : Fr (fun _ => False) w0 wx) (A : At ba wx L (.slice none 0 0) (initM ds)) (WA : Wf ba L (.slice none 0 0))
    (s1 : w0.heap.size ≤ L.b) (s2 : w0.heap.size ≤ L.db) (hc : L.code = ws.map decM) (hd : L.dn = ds.length) (hi : L.ins = ins) (L0 : ListAt .u32 w0 (.slice a0 ws.length c0) ws) (L2 : ListAt .u32 w0 (.slice a2 ins.length c2) ins)
    (e1 : R.ca = a0) (e2 : R.ia = a2) (e3 : R.ws = ws) (e4 : R.ins = ins) (e5 : R.dn = ds.length) (B : RAt wx.heap.size wb R gb (.slice none 0 0) (initM ds)) (WB : RWf wx.heap.size R gb (.slice none 0 0)) (Fb : Fr (fun _ => False) wx wb)
    (r1 : wx.heap.size ≤ R.rb) (r2 : wx.heap.size ≤ R.db) (r3 : wx.heap.size ≤ gb) :
    MPair w0 wb ba wx.heap.size L (.slice none 0 0) (initM ds) R gb (.slice none 0 0) (initM ds) := by
  obtain ⟨a1, a2', a3, a4⟩ := A.lts WA
  have z0 := f0.size
  have hge : ∀ k, RFoot R gb (.slice none 0 0) k → wx.heap.size ≤ k := by
    rintro k (e | e | e | e)
    · omega
    · omega
    · omega
    · cases e
  have hwn := WB.wn
  refine ⟨A.grown0 Fb, WA, B, WB, f0.trans Fb, new_start (by omega) (by omega), fun k hk q => ?_, fun k hf q => ?_, fun q => ?_, fun x e q => ?_, fun x e => ?_, fun p x e => ?_, by rw [hc, lay_code, e3], by rw [hi, e4], by rw [hd, e5]⟩
  · have := hge k q; omega
  · have := foot_lt A WA hf
    have := hge k q; omega
  · have := hge _ q; omega
  · have := hge _ q
    have := A.ilt x e; omega
  · rw [e1] at e
    obtain ⟨b, o, e', hc'⟩ := words_of L0 0 (by rw [e3] at hwn; omega)
    rw [e] at e'
    obtain rfl := Option.some.inj e'
    exact World.block_lt_of_cell? w0 _ hc'
  · rw [e2] at e
    obtain ⟨b, o, e', hc'⟩ := words_of L2 0 (by rw [e4] at p; exact p)
    rw [e] at e'
    obtain rfl := Option.some.inj e'
    exact World.block_lt_of_cell? w0 _ hc'
theorem own_kept {base : Nat} {w w' : World} {L : Lay} {s : MSt} {F : Nat → Prop} (h : At base w L (.slice none 0 0) s) (hw : Wf base L (.slice none 0 0)) (hf : Fr F w w') (b1 : base ≤ L.b) (b2 : base ≤ L.db) (b3 : base ≤ L.cb) (b4 : ∀ a, L.ia = some a → base ≤ a.block) (hF : ∀ x, F x → x < base ∨ w.heap.size ≤ x) : At base w' L (.slice none 0 0) s := by
  obtain ⟨h1, h2, h3, h4⟩ := h.lts hw
  refine h.kept hf (fun q => ?_) (fun q => ?_) (fun k e => by cases e) (fun q => ?_) (fun a e q => ?_)
  · have := hF _ q; omega
  · have := hF _ q; omega
  · have := hF _ q; omega
  · have := hF _ q
    have := b4 a e
    have := h.ilt a e
    omega
end Go.Proofs.YthhahfggbjegmaaGreat
