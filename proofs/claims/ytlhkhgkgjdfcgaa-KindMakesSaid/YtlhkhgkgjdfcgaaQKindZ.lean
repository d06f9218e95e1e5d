/-
  Tables of types (layer 8): a table with its fields, from its making on.
-/
import Derived.Test.YtlhkhgkgjdfcgaaQKindY
import Derived.Outline
namespace Go.Proofs.Ytlhkhgkgjdfcgaa
open Go.RowKit
set_option linter.unusedVariables false
set_option linter.unusedSimpArgs false
/-- In w, which came from w0, block tb holds a table with these derived types; the i-th has the fields fss i. -/
structure Tab (w0 w : World) (tb : Nat) (es : List Ent) (fss : Nat → List Fld) : Prop where
  ex : ∃ v, TabAt w0.heap.size w tb v es ∧ ∀ i, i < es.length → FldAt w (es.getD i ent0).fa (es.getD i ent0).fn (fss i) ∧ ∀ g o, (es.getD i ent0).fa = some ⟨g, o, none⟩ → (fss i).length ≠ 0 → w0.heap.size ≤ g ∧ g < w.heap.size ∧ g ≠ tb ∧ v.ownBlock ≠ some g
  fr : Fr (fun _ => False) w0 w
  ge : w0.heap.size ≤ tb
  ok : EsOk es
  out : ∀ i, es.length ≤ i → fss i = []
  few : ∀ i, (fss i).length ≤ 1000
theorem Tab.quiet {w0 w w' : World} {tb : Nat} {es : List Ent} {fss : Nat → List Fld} (h : Tab w0 w tb es fss) (hf : Fr (fun _ => False) w w') : Tab w0 w' tb es fss := by
  obtain ⟨v, ht, hfl⟩ := h.ex
  exact ⟨⟨v, ht.kept hf id (fun _ _ => id), fun i hi => ⟨(hfl i hi).1.quiet hf, fun g o a b => by obtain ⟨x1, x2, x3, x4⟩ := (hfl i hi).2 g o a b; exact ⟨x1, Nat.lt_of_lt_of_le x2 hf.size, x3, x4⟩⟩⟩, h.fr.trans hf, h.ge, h.ok, h.out, h.few⟩
/-- One type more, without fields, or none. -/
theorem Tab.next {w0 w w' : World} {tb : Nat} {es es' : List Ent} {fss : Nat → List Fld} (h : Tab w0 w tb es fss) (hx : es' = es ∨ ∃ x, es' = es ++ [x] ∧ x.fn = 0 ∧ EntOk x) {v : Value} (hv : TabAt w0.heap.size w tb v es) (hk : TOk w0.heap.size tb v w w' es') : Tab w0 w' tb es' fss := by
  obtain ⟨v0, ht, hfl⟩ := h.ex
  have ev : v0 = v := by have a := ht.cell; rw [hv.cell] at a; injection a with a; exact a.symm
  subst ev
  obtain ⟨v', h1, h2, h3⟩ := hk
  have key : ∀ i, i < es.length → FldAt w' (es.getD i ent0).fa (es.getD i ent0).fn (fss i) ∧ ∀ g o, (es.getD i ent0).fa = some ⟨g, o, none⟩ → (fss i).length ≠ 0 → w0.heap.size ≤ g ∧ g < w'.heap.size ∧ g ≠ tb ∧ v'.ownBlock ≠ some g := fun i hi => by
    obtain ⟨a, b⟩ := hfl i hi
    refine ⟨a.kept h2 (fun g o e hne hh => ?_), fun g o e hne => ?_⟩
    · obtain ⟨x1, x2, x3, x4⟩ := b g o e hne
      rcases hh with hh | hh
      · exact x3 hh
      · exact x4 hh
    · obtain ⟨x1, x2, x3, x4⟩ := b g o e hne
      refine ⟨x1, Nat.lt_of_lt_of_le x2 h2.size, x3, fun hh => ?_⟩
      rcases h3 g hh with hh | hh
      · exact x4 hh
      · omega
  have hfr : Fr (fun _ => False) w0 w' := h.fr.trans' h2 (fun j hj e => by
    rcases e with e | e
    · have := h.ge; omega
    · have := (ht.own.lt j e).1; omega)
  rcases hx with rfl | ⟨x, rfl, hx0, hxo⟩
  · exact ⟨⟨v', h1, key⟩, hfr, h.ge, h.ok, h.out, h.few⟩
  · refine ⟨⟨v', h1, fun i hi => ?_⟩, hfr, h.ge, ?_, fun i hi => h.out i (by simp at hi; omega), h.few⟩
    · by_cases hlt : i < es.length
      · have e : (es ++ [x]).getD i ent0 = es.getD i ent0 := by rw [List.getD_eq_getElem?_getD, List.getElem?_append_left hlt, ← List.getD_eq_getElem?_getD]
        rw [e]; exact key i hlt
      · have hi' : i = es.length := by simp at hi; omega
        subst hi'
        have e : (es ++ [x]).getD es.length ent0 = x := by rw [List.getD_eq_getElem?_getD]; simp
        rw [e, h.out _ (Nat.le_refl _)]
        exact ⟨⟨hx0, fun k hk => by simp at hk⟩, fun g o _ hh => absurd rfl hh⟩
    · intro e he
      rcases List.mem_append.1 he with he | he
      · exact h.ok e he
      · simp at he; subst he; exact hxo
theorem addL_or (es : List Ent) (x : Ent) : addL es x = es ∨ addL es x = es ++ [x] := by unfold addL; split; exact .inl rfl; exact .inr rfl
theorem makeL_or (es : List Ent) (x : Ent) : makeL es x = es ∨ makeL es x = es ++ [x] := by
  unfold makeL; split
  · exact .inl rfl
  · split; exact .inl rfl; exact .inr rfl
theorem ptrE_ok (n : Int) : EntOk (ptrE n) := by refine ⟨?_, ?_, ?_⟩ <;> simp [ptrE]
theorem openE_ok (nm : ByteArray) : EntOk (openE nm) := by refine ⟨?_, ?_, ?_⟩ <;> simp [openE]
theorem arrE_ok {es : List Ent} (h : EsOk es) {n long : Int} (hx : arrX es n long = 0) : EntOk (arrE n long (entF es n)) := by
  obtain ⟨⟨a0, a1⟩, ⟨b0, b1⟩, c⟩ := entF_ok h n
  unfold arrX at hx
  generalize entF es n = e at *
  by_cases h0 : entE es n ≠ 0
  · rw [if_pos h0] at hx; exact absurd hx h0
  · rw [if_neg h0] at hx
    by_cases h1 : e.size = 0
    · rw [if_pos h1] at hx; cases hx
    · rw [if_neg h1] at hx
      by_cases h2 : long < 1
      · rw [if_pos h2] at hx; cases hx
      · rw [if_neg h2] at hx
        by_cases h3 : 32768 / e.size < long
        · rw [if_pos h3] at hx; cases hx
        · have h4 : long * e.size ≤ 32768 / e.size * e.size := Int.mul_le_mul_of_nonneg_right (by omega) a0
          have h5 : 32768 / e.size * e.size ≤ 32768 := Int.ediv_mul_le _ h1
          have h6 : 0 ≤ long * e.size := Int.mul_nonneg (by omega) a0
          refine ⟨⟨h6, by show long * e.size ≤ 32768; omega⟩, ⟨b0, b1⟩, fun _ => c h1⟩
/-- Block b is none of the table's. -/
def Off (w : World) (tb b : Nat) : Prop := b ≠ tb ∧ ∀ v, w.cell? ⟨tb, 0, none⟩ = some v → v.ownBlock ≠ some b
/-- What a call on a table leaves of all that is not the table's. -/
def Turn (w w' : World) (tb : Nat) : Prop := w.heap.size ≤ w'.heap.size ∧ ∀ b, b < w.heap.size → Off w tb b → w'.heap[b]? = w.heap[b]? ∧ Off w' tb b
theorem Turn.trans {a b c : World} {tb : Nat} (h : Turn a b tb) (k : Turn b c tb) : Turn a c tb :=
  ⟨Nat.le_trans h.1 k.1, fun i hi ho => by
    obtain ⟨x, y⟩ := h.2 i hi ho
    obtain ⟨x2, y2⟩ := k.2 i (Nat.lt_of_lt_of_le hi h.1) y
    exact ⟨x2.trans x, y2⟩⟩
theorem Turn.cell {w w' : World} {tb : Nat} (h : Turn w w' tb) {a : Addr} {v : Value} (hc : w.cell? a = some v) (ho : Off w tb a.block) : w'.cell? a = some v :=
  (World.cell?_of_block (h.2 a.block (World.block_lt_of_cell? w a hc) ho).1).trans hc
theorem Turn.frozen {w w' : World} {tb : Nat} (h : Turn w w' tb) {a : Addr} {v : Value} (hc : w.cell? a = some v) (ho : Off w tb a.block) : w'.frozen? a = w.frozen? a :=
  World.frozen?_of_block (h.2 a.block (World.block_lt_of_cell? w a hc) ho).1
theorem Turn.of_fr {base : Nat} {w w' : World} {tb : Nat} {v : Value} {es : List Ent} (ht : TabAt base w tb v es) (h2 : Fr (fun k => k = tb ∨ v.ownBlock = some k) w w') (h3 : ∀ v', w'.cell? ⟨tb, 0, none⟩ = some v' → ∀ g, v'.ownBlock = some g → v.ownBlock = some g ∨ w.heap.size ≤ g) : Turn w w' tb :=
  ⟨h2.size, fun b hb ho => ⟨h2.block b hb (fun e => by
      rcases e with e | e
      · exact ho.1 e
      · exact ho.2 v ht.cell e), ho.1, fun v' hc e => by
      rcases h3 v' hc b e with e | e
      · exact ho.2 v ht.cell e
      · omega⟩⟩
theorem Turn.of_tok {base : Nat} {w w' : World} {tb : Nat} {v : Value} {es es' : List Ent} (ht : TabAt base w tb v es) (hk : TOk base tb v w w' es') : Turn w w' tb := by
  obtain ⟨v', h1, h2, h3⟩ := hk
  exact Turn.of_fr ht h2 (fun v2 hc g e => by
    have := h1.cell
    rw [hc] at this
    injection this with this
    subst this
    exact h3 g e)
theorem Turn.quiet {w0 w w' : World} {tb : Nat} {es : List Ent} {fss : Nat → List Fld} (h : Tab w0 w tb es fss) (hf : Fr (fun _ => False) w w') : Turn w w' tb := by
  obtain ⟨v, ht, _⟩ := h.ex
  exact Turn.of_fr ht (hf.mono (fun _ _ f => f.elim)) (fun v' hc g e => by
    have := hf.cell ht.cell id
    rw [hc] at this
    injection this with this
    subst this
    exact .inl e)
/-- A block that is made now is none of the table's. -/
theorem Tab.off {w0 w : World} {tb : Nat} {es : List Ent} {fss : Nat → List Fld} (h : Tab w0 w tb es fss) (o : Obj) : Off (w.alloc o) tb w.heap.size := by
  obtain ⟨v, ht, _⟩ := h.ex
  have lt : tb < w.heap.size := World.block_lt_of_cell? w _ ht.cell
  refine ⟨by omega, fun v' hc e => ?_⟩
  have := (fr_al (Fr.refl (fun _ => False) w) o).cell ht.cell id
  rw [hc] at this
  injection this with this
  subst this
  have := (ht.own.lt _ e).2
  omega
theorem ptr_tab {w0 w : World} {tb : Nat} {es : List Ent} {fss : Nat → List Fld} (h : Tab w0 w tb es fss) (n : Int) :
    Calls Try.prog 25 #[.pointer (some ⟨tb, 0, none⟩), .int .i64 n] w fun r w' => r = .returned (.tuple #[.int .i64 (ptrA es n), .int .i64 (ptrB es n)]) ∧ (Tab w0 w' tb (ptrL es n) fss ∧ Turn w w' tb) := by
  obtain ⟨v, ht, _⟩ := h.ex
  refine (ptr_of ht n).mono fun r w' ⟨a, b⟩ => ⟨a, h.next ?_ ht b, Turn.of_tok ht b⟩
  unfold ptrL
  split
  · rcases makeL_or es (ptrE n) with e | e
    · exact .inl e
    · exact .inr ⟨_, e, rfl, ptrE_ok n⟩
  · exact .inl rfl
theorem array_tab {w0 w : World} {tb : Nat} {es : List Ent} {fss : Nat → List Fld} (h : Tab w0 w tb es fss) (n long : Int) :
    Calls Try.prog 26 #[.pointer (some ⟨tb, 0, none⟩), .int .i64 n, .int .i64 long] w fun r w' => r = .returned (.tuple #[.int .i64 (arrA es n long), .int .i64 (arrB es n long)]) ∧ (Tab w0 w' tb (arrL es n long) fss ∧ Turn w w' tb) := by
  obtain ⟨v, ht, _⟩ := h.ex
  refine (array_at ht n long (entF_ok h.ok n).1).mono fun r w' ⟨a, b⟩ => ⟨a, h.next ?_ ht b, Turn.of_tok ht b⟩
  unfold arrL
  split
  · rename_i hx
    rcases makeL_or es (arrE n long (entF es n)) with e | e
    · exact .inl e
    · exact .inr ⟨_, e, rfl, arrE_ok h.ok hx⟩
  · exact .inl rfl
theorem open_tab {w0 w : World} {tb : Nat} {es : List Ent} {fss : Nat → List Fld} (h : Tab w0 w tb es fss) (nm : ByteArray) :
    Calls Try.prog 27 #[.pointer (some ⟨tb, 0, none⟩), .string nm] w fun r w' => r = .returned (.tuple #[.int .i64 (openA es nm), .int .i64 (openB es nm)]) ∧ (Tab w0 w' tb (openL es nm) fss ∧ Turn w w' tb) := by
  obtain ⟨v, ht, _⟩ := h.ex
  refine (open_of ht nm).mono fun r w' ⟨a, b⟩ => ⟨a, h.next ?_ ht b, Turn.of_tok ht b⟩
  unfold openL
  split
  · rcases addL_or es (openE nm) with e | e
    · exact .inl e
    · exact .inr ⟨_, e, rfl, openE_ok nm⟩
  · exact .inl rfl
def setFs (fss : Nat → List Fld) (k : Nat) (fs : List Fld) : Nat → List Fld := fun i => if i = k then fs else fss i
/-- What Struct leaves. -/
def StructT (w0 w : World) (tb : Nat) (es : List Ent) (fss : Nat → List Fld) (nm : ByteArray) (fs : List Fld) (r : Ending) (w' : World) : Prop :=
  (structX es nm fs ≠ 0 ∧ r = .returned (.tuple #[.int .i64 0, .int .i64 (structX es nm fs)]) ∧ Tab w0 w' tb es fss ∧ Turn w w' tb) ∨
  (structX es nm fs = 0 ∧ r = .returned (.tuple #[.int .i64 (3 + (findK es nm : Int)), .int .i64 0]) ∧ ∃ g c, Tab w0 w' tb (es.set (findK es nm) (laidE es nm fs g c)) (setFs fss (findK es nm) (layS es fs fs.length).2.2) ∧ Turn w w' tb ∧ w.heap.size ≤ g)
theorem structX_zero {es : List Ent} {nm : ByteArray} {fs : List Fld} (h : structX es nm fs = 0) : findK es nm < es.length ∧ (es.getD (findK es nm) ent0).fn = 0 ∧ chk es fs = 0 ∧ upI (layS es fs fs.length).1 (layS es fs fs.length).2.1 ≤ 32768 := by
  unfold structX at h
  by_cases h0 : findK es nm < es.length
  · rw [if_neg (fun hh => hh h0)] at h
    by_cases h1 : (es.getD (findK es nm) ent0).fn = 0
    · rw [if_neg (fun hh => hh h1)] at h
      by_cases h2 : chk es fs = 0
      · rw [if_neg (fun hh => hh h2)] at h
        by_cases h3 : 32768 < upI (layS es fs fs.length).1 (layS es fs fs.length).2.1
        · rw [if_pos h3] at h; cases h
        · exact ⟨h0, h1, h2, by omega⟩
      · rw [if_pos h2] at h; exact absurd h h2
    · rw [if_pos h1] at h; cases h
  · rw [if_pos h0] at h; cases h
theorem laidE_ok {es : List Ent} (h : EsOk es) {nm : ByteArray} {fs : List Fld} (hx : structX es nm fs = 0) (g c : Nat) : EntOk (laidE es nm fs g c) := by
  obtain ⟨_, _, h2, h3⟩ := structX_zero hx
  have hs := sized_of h h2
  have h1 := (chk_zero h2).1
  obtain ⟨b0, b1, b2, b3, b4, b5⟩ := layS_bound hs fs.length (Nat.le_refl _)
  have b4' := b4 (by omega)
  have u := upI_ge (n := (layS es fs fs.length).1) b4'
  exact ⟨⟨by show 0 ≤ upI _ _; omega, h3⟩, ⟨b2, b3⟩, fun _ => b4'⟩
theorem struct_tab {w0 w : World} {tb : Nat} {es : List Ent} {fss : Nat → List Fld} (h : Tab w0 w tb es fss) (nm : ByteArray) (a : Option Addr) (n c : Nat) (fs : List Fld) (hfs : FldAt w a n fs) (hlen : fs.length ≤ 1000) (hnm : ∀ f ∈ fs, f.name.size ≤ maxLen) :
    Calls Try.prog 28 #[.pointer (some ⟨tb, 0, none⟩), .string nm, .slice a n c] w (StructT w0 w tb es fss nm fs) := by
  obtain ⟨v, ht, hfl⟩ := h.ex
  refine (struct_of ht h.ok nm a n c fs hfs hlen hnm).mono fun r w' hr => ?_
  rcases hr with ⟨h1, h2, h3⟩ | ⟨h1, h2, g, c, hg1, hg2, h3, h4, h5⟩
  · exact .inl ⟨h1, h2, h.quiet h3, Turn.quiet h h3⟩
  · refine .inr ⟨h1, h2, g, c, ⟨⟨v, h3, fun i hi => ?_⟩, ?_, h.ge, ?_, fun i hi => ?_, fun i => ?_⟩, Turn.of_fr ht (h5.mono (fun _ _ e => .inr e)) (fun v' hc g' e => by
      have := h3.cell
      rw [hc] at this
      injection this with this
      subst this
      exact .inl e), hg1⟩
    · rw [List.length_set] at hi
      have hge := h.fr.size
      have hlt : tb < w.heap.size := World.block_lt_of_cell? w _ ht.cell
      by_cases hik : i = findK es nm
      · subst hik
        have e : (es.set (findK es nm) (laidE es nm fs g c)).getD (findK es nm) ent0 = laidE es nm fs g c := by rw [List.getD_eq_getElem?_getD, List.getElem?_set_self hi]; rfl
        have e2 : setFs fss (findK es nm) (layS es fs fs.length).2.2 (findK es nm) = (layS es fs fs.length).2.2 := by unfold setFs; rw [if_pos rfl]
        rw [e, e2]
        refine ⟨h4, fun g' o e3 _ => ?_⟩
        have e4 : (laidE es nm fs g c).fa = some ⟨g, 0, none⟩ := rfl
        rw [e4] at e3
        injection e3 with e3
        injection e3 with e3
        subst e3
        exact ⟨by omega, hg2, by omega, fun hh => by have := (ht.own.lt g hh).2; omega⟩
      · have e : (es.set (findK es nm) (laidE es nm fs g c)).getD i ent0 = es.getD i ent0 := by rw [List.getD_eq_getElem?_getD, List.getElem?_set_ne (fun q => hik q.symm), ← List.getD_eq_getElem?_getD]
        have e2 : setFs fss (findK es nm) (layS es fs fs.length).2.2 i = fss i := by unfold setFs; rw [if_neg hik]
        rw [e, e2]
        obtain ⟨x, y⟩ := hfl i hi
        exact ⟨x.kept h5 (fun g o e hne hh => (y g o e hne).2.2.2 hh), fun g o e hne => by obtain ⟨y1, y2, y3, y4⟩ := y g o e hne; exact ⟨y1, Nat.lt_of_lt_of_le y2 h5.size, y3, y4⟩⟩
    · exact h.fr.trans' h5 (fun j hj e => by have := (ht.own.lt j e).1; omega)
    · intro e he
      rcases List.mem_or_eq_of_mem_set he with he | he
      · exact h.ok e he
      · subst he; exact laidE_ok h.ok h1 g c
    · rw [List.length_set] at hi
      have := (structX_zero h1).1
      unfold setFs
      rw [if_neg (by omega)]
      exact h.out i hi
    · unfold setFs
      split
      · obtain ⟨_, _, h2, _⟩ := structX_zero h1
        rw [(layS_bound (sized_of h.ok h2) fs.length (Nat.le_refl _)).2.2.2.2.2]; exact hlen
      · exact h.few i
theorem new_tab (w : World) : Calls Try.prog 10 #[] w fun r w' => r = .returned (.pointer (some ⟨w.heap.size, 0, none⟩)) ∧ Tab w w' w.heap.size [] (fun _ => []) := by
  have key : Tab w (w.alloc (.cells #[.slice none 0 0] 66)) w.heap.size [] (fun _ => []) :=
    ⟨⟨.slice none 0 0, ⟨fcell w _ _ 0 _ rfl, World.frozen?_alloc_new _ _ _ _, World.ownsRow_nil _ _ _ _, by decide, by simp, by simp [Value.ownBlock]⟩, fun i hi => by simp at hi⟩, fr_al (Fr.refl _ _) _, Nat.le_refl _, fun e he => (by cases he), fun _ _ => rfl, fun _ => by simp⟩
  have HK := Lib.hid key
  clear key
  go_enter Try.func10, Try.ntmps10
  go_wp2
  go_ret
  exact ⟨rfl, HK.out⟩
/-- What Field answers: a field and an error. -/
def fieldA (es : List Ent) (fss : Nat → List Fld) (n : Int) (nm : ByteArray) : Fld :=
  if entE es n ≠ 0 then fld0 else if (entF es n).kind ≠ 5 then fld0 else fldV (fss (n - 3).toNat) nm
def fieldB (es : List Ent) (fss : Nat → List Fld) (n : Int) (nm : ByteArray) : Int :=
  if entE es n ≠ 0 then entE es n else if (entF es n).kind ≠ 5 then 5 else fldE (fss (n - 3).toNat) nm
theorem struct_in {es : List Ent} {n : Int} (h : entE es n = 0) (hk : (entF es n).kind = 5) : 3 ≤ n ∧ (n - 3).toNat < es.length ∧ entF es n = es.getD (n - 3).toNat ent0 := by
  unfold entE at h
  unfold entF at hk ⊢
  by_cases h0 : n < 0 ∨ 3 + (es.length : Int) ≤ n
  · rw [if_pos h0] at h; cases h
  · rw [if_neg h0] at hk ⊢
    by_cases h1 : n < 3
    · rw [if_pos h1] at hk
      unfold firstEnt at hk
      exfalso
      revert hk
      split
      · intro q; cases q
      · split
        · intro q; cases q
        · intro q; cases q
    · rw [if_neg h1]
      exact ⟨by omega, by omega, rfl⟩
theorem field_tab {w0 w : World} {tb : Nat} {es : List Ent} {fss : Nat → List Fld} (h : Tab w0 w tb es fss) (n : Int) (nm : ByteArray) :
    Calls Try.prog 23 #[.pointer (some ⟨tb, 0, none⟩), .int .i64 n, .string nm] w fun r w' => r = .returned (.tuple #[.agg #[.string (fieldA es fss n nm).name, .int .i64 (fieldA es fss n nm).type, .int .i64 (fieldA es fss n nm).off], .int .i64 (fieldB es fss n nm)]) ∧ Fr (fun _ => False) w w' := by
  obtain ⟨v, ht, hfl⟩ := h.ex
  have H : EntH w (.pointer (some ⟨tb, 0, none⟩)) n (entE es n) (entF es n) := entry_ent ht n _ rfl
  by_cases h0 : entE es n = 0
  · rw [h0] at H
    by_cases h1 : (entF es n).kind = 5
    · have ea : fieldA es fss n nm = fldV (fss (n - 3).toNat) nm := by unfold fieldA; rw [h0, h1]; rfl
      have eb : fieldB es fss n nm = fldE (fss (n - 3).toNat) nm := by unfold fieldB; rw [h0, h1]; rfl
      rw [ea, eb]
      obtain ⟨_, hi, he⟩ := struct_in h0 h1
      have hF := (hfl _ hi).1
      rw [← he] at hF
      exact field_loop _ n _ nm _ w H h1 hF (by have := h.few (n - 3).toNat; omega)
    · have ea : fieldA es fss n nm = fld0 := by unfold fieldA; rw [h0, if_neg (by simp), if_pos h1]
      have eb : fieldB es fss n nm = 5 := by unfold fieldB; rw [h0, if_neg (by simp), if_pos h1]
      rw [ea, eb]
      exact field_kind _ n _ nm w H h1
  · have ea : fieldA es fss n nm = fld0 := by unfold fieldA; rw [if_pos h0]
    have eb : fieldB es fss n nm = entE es n := by unfold fieldB; rw [if_pos h0]
    rw [ea, eb]
    exact field_err _ n _ _ nm w H h0
theorem size_tab {w0 w : World} {tb : Nat} {es : List Ent} {fss : Nat → List Fld} (h : Tab w0 w tb es fss) (n : Int) : Calls Try.prog 14 #[.pointer (some ⟨tb, 0, none⟩), .int .i64 n] w fun r w' => r = .returned (.int .i64 (entF es n).size) ∧ Fr (fun _ => False) w w' := by
  obtain ⟨v, ht, hfl⟩ := h.ex
  exact size_at ht n
theorem align_tab {w0 w : World} {tb : Nat} {es : List Ent} {fss : Nat → List Fld} (h : Tab w0 w tb es fss) (n : Int) : Calls Try.prog 16 #[.pointer (some ⟨tb, 0, none⟩), .int .i64 n] w fun r w' => r = .returned (.int .i64 (entF es n).align) ∧ Fr (fun _ => False) w w' := by
  obtain ⟨v, ht, hfl⟩ := h.ex
  exact align_at ht n
theorem scalar_tab {w0 w : World} {tb : Nat} {es : List Ent} {fss : Nat → List Fld} (h : Tab w0 w tb es fss) (n : Int) : Calls Try.prog 19 #[.pointer (some ⟨tb, 0, none⟩), .int .i64 n] w fun r w' => r = .returned (.bool (scalarB (entF es n).kind)) ∧ Fr (fun _ => False) w w' := by
  obtain ⟨v, ht, hfl⟩ := h.ex
  exact scalar_at ht n
theorem count_tab {w0 w : World} {tb : Nat} {es : List Ent} {fss : Nat → List Fld} (h : Tab w0 w tb es fss) : Calls Try.prog 20 #[.pointer (some ⟨tb, 0, none⟩)] w fun r w' => r = .returned (.int .i64 (3 + es.length)) ∧ w = w' := by
  obtain ⟨v, ht, hfl⟩ := h.ex
  obtain ⟨a, c, hv, _⟩ := ht.form
  have hc := ht.cell
  have hf := ht.few
  rw [hv] at hc
  exact count_at tb es.length c a (by omega) w hc
theorem find_tab {w0 w : World} {tb : Nat} {es : List Ent} {fss : Nat → List Fld} (h : Tab w0 w tb es fss) (nm : ByteArray) : Calls Try.prog 21 #[.pointer (some ⟨tb, 0, none⟩), .string nm] w (FindP es nm w) := by
  obtain ⟨v, ht, hfl⟩ := h.ex
  exact find_of ht nm
end Go.Proofs.Ytlhkhgkgjdfcgaa
