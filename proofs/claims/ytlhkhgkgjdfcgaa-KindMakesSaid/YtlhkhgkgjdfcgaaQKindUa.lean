/-
  Tables of types (layer 8): how types lie, kept by every act.
-/
import Derived.Test.YtlhkhgkgjdfcgaaQKindTa
import Derived.Test.YtlhkhgkgjdfcgaaQKindQa
import Derived.Outline
namespace Go.Proofs.Ytlhkhgkgjdfcgaa
open Go.RowKit
set_option linter.unusedVariables false
set_option linter.unusedSimpArgs false
theorem findK_is {es : List Ent} {nm : ByteArray} (h : findK es nm < es.length) : (es.getD (findK es nm) ent0).kind = 5 := by
  have h1 := List.findIdx_getElem (p := isName nm) (w := h)
  have h2 : es.getD (findK es nm) ent0 = es[findK es nm] := by rw [List.getD_eq_getElem?_getD, List.getElem?_eq_getElem h]; rfl
  rw [h2]
  have h3 : isName nm es[findK es nm] = true := h1
  unfold isName at h3
  simp only [Bool.and_eq_true, beq_iff_eq] at h3
  exact h3.1
theorem Lie.struct {es : List Ent} {fss : Nat → List Fld} (h : Lie es fss) (hok : EsOk es) (hfn : ∀ i, i < es.length → (es.getD i ent0).fn = (fss i).length) {nm : ByteArray} {fs : List Fld} (hx : structX es nm fs = 0) (g c : Nat) :
    Lie (es.set (findK es nm) (laidE es nm fs g c)) (setFs fss (findK es nm) (layS es fs fs.length).2.2) := by
  obtain ⟨k0, k1, k2, k3⟩ := structX_zero hx
  have hs := sized_of hok k2
  have hl := (chk_zero k2).1
  obtain ⟨b0, b1, b2, b3, b4, b5⟩ := layS_bound hs fs.length (Nat.le_refl _)
  obtain ⟨l1, l2, l3⟩ := lay_lie h hs fs.length (Nat.le_refl _)
  have b4' := b4 (by omega)
  have hopn : (es.getD (findK es nm) ent0).align = 0 := ((h _ k0).opn (findK_is k0) (List.eq_nil_of_length_eq_zero (by rw [← hfn _ k0]; exact k1))).2
  have ha : Agree es (es.set (findK es nm) (laidE es nm fs g c)) := by
    intro n hn
    unfold entF at hn ⊢
    rw [List.length_set]
    by_cases q0 : n < 0 ∨ 3 + (es.length : Int) ≤ n
    · rw [if_pos q0, if_pos q0]
    · rw [if_neg q0, if_neg q0]
      rw [if_neg q0] at hn
      by_cases q1 : n < 3
      · rw [if_pos q1, if_pos q1]
      · rw [if_neg q1] at hn
        rw [if_neg q1, if_neg q1]
        by_cases q2 : (n - 3).toNat = findK es nm
        · rw [q2] at hn; omega
        · rw [List.getD_eq_getElem?_getD, List.getElem?_set_ne (fun q => q2 q.symm), ← List.getD_eq_getElem?_getD]
  intro i hi
  rw [List.length_set] at hi
  by_cases hik : i = findK es nm
  · subst hik
    have e : (es.set (findK es nm) (laidE es nm fs g c)).getD (findK es nm) ent0 = laidE es nm fs g c := by rw [List.getD_eq_getElem?_getD, List.getElem?_set_self hi]; rfl
    have e2 : setFs fss (findK es nm) (layS es fs fs.length).2.2 (findK es nm) = (layS es fs fs.length).2.2 := by unfold setFs; rw [if_pos rfl]
    rw [e, e2]
    refine LieE.mono (es := es) ?_ ha
    have hal : (laidE es nm fs g c).align = (layS es fs fs.length).2.1 := rfl
    have hsz : (laidE es nm fs g c).size = upI (layS es fs fs.length).1 (layS es fs fs.length).2.1 := rfl
    refine ⟨fun _ => ?_, by rw [hal]; exact l2, fun e => ?_, fun _ e => ?_, fun k hk => ?_, ?_⟩
    · rw [hal, hsz]; unfold upI; exact Int.mul_emod_left _ _
    · rw [e] at b5; simp at b5; omega
    · rw [e] at b5; simp at b5; omega
    · rw [b5] at hk
      obtain ⟨j1, j2, j3, j4⟩ := l3 k hk
      refine ⟨j1, by rcases j2 with j2 | j2 <;> omega, j3, ?_⟩
      rw [hal]
      rcases j2 with j2 | j2
      · rw [j2]; exact Int.emod_one _
      · rw [j2] at j4 ⊢
        rcases l2 with l2 | l2 | l2
        · omega
        · omega
        · rw [l2]; decide
    · rw [b5, l1, hsz]
      exact upI_ge b4'
  · have e : (es.set (findK es nm) (laidE es nm fs g c)).getD i ent0 = es.getD i ent0 := by rw [List.getD_eq_getElem?_getD, List.getElem?_set_ne (fun q => hik q.symm), ← List.getD_eq_getElem?_getD]
    have e2 : setFs fss (findK es nm) (layS es fs fs.length).2.2 i = fss i := by unfold setFs; rw [if_neg hik]
    rw [e, e2]
    exact (h i hi).mono ha
theorem Tab.fn_is {w0 w : World} {tb : Nat} {es : List Ent} {fss : Nat → List Fld} (h : Tab w0 w tb es fss) : ∀ i, i < es.length → (es.getD i ent0).fn = (fss i).length := fun i hi => by
  obtain ⟨v, _, hfl⟩ := h.ex
  exact (hfl i hi).1.1
/-- An act on a table keeps how its types lie. -/
theorem done_lie {w0 w : World} {tb : Nat} {es : List Ent} {fss : Nat → List Fld} (ht : (tabFace w0 tb es fss).P w) (hlie : Lie es fss) (y : ActV) (fs : List Fld) (hfs : FldAt w y.fa y.fn fs) (hfo : (tabFace w0 tb es fss).offA w y.fa fs.length) (hfew : fs.length ≤ 1000) (hnm : ∀ f ∈ fs, f.name.size ≤ maxLen) {b c : Nat} (hr : RAt w (some ⟨b, 0, none⟩) 3 begin3) (hb : b < w.heap.size) (hbo : (tabFace w0 tb es fss).off w b) :
    Calls Try.prog 12 #[y.val, .pointer (some ⟨tb, 0, none⟩), .slice (some ⟨b, 0, none⟩) 3 c] w fun r w' => ∃ A B N E a n c es' fss', r = .returned (.tuple #[.int .i64 A, .int .i64 B, .agg #[.int .i64 N, .slice a n c, .int .i64 E]]) ∧ (tabFace w0 tb es' fss').P w' ∧ Lie es' fss' := by
  have hoa : (tabFace w0 tb es fss).offA w (some ⟨b, 0, none⟩) begin3.length := fun g o e _ => by injection e with e; injection e with e; subst e; exact ⟨hbo, hb⟩
  have fin : ∀ {A B N E : Int} {rs : List RT} {r : Ending} {w' : World} {es' : List Ent} {fss' : Nat → List Fld}, Lie es' fss' → DoneP (tabFace w0 tb es fss) (tabFace w0 tb es' fss') w A B N E rs r w' → ∃ A B N E a n c es' fss', r = .returned (.tuple #[.int .i64 A, .int .i64 B, .agg #[.int .i64 N, .slice a n c, .int .i64 E]]) ∧ (tabFace w0 tb es' fss').P w' ∧ Lie es' fss' := fun {A B N E rs r w' es' fss'} hl h => by
    obtain ⟨a, n, c, e, h1, h2, _⟩ := h
    exact ⟨A, B, N, E, a, n, c, es', fss', e, h1, hl⟩
  obtain ⟨kd, m, long, nm, fa, fn, fc⟩ := y
  by_cases h0 : kd = 0
  · subst h0
    exact (done_ptr (G := tabFace w0 tb (ptrL es m) fss) ht rfl (.pointer (some ⟨tb, 0, none⟩)) m long nm fa fn fc hr hoa (Lib.hid fun W hW => ptr_face hW m) (Lib.hid fun W hW => rptr_of hW (by decide) m)).mono fun r w' h => fin (hlie.ptr ht.out m) h
  · by_cases h1 : kd = 1
    · subst h1
      exact (done_array (G := tabFace w0 tb (arrL es m long) fss) ht rfl (.pointer (some ⟨tb, 0, none⟩)) m long nm fa fn fc hr hoa (Lib.hid fun W hW => array_face hW m long) (Lib.hid fun W hW => rarray_of hW (by decide) m long (sizeB m) (sizeB_in m) (Lib.hid fun W2 hW2 => (rsize_begin (hW.quiet hW2) m).mono fun r w' ⟨e, e2⟩ => ⟨e, e2 ▸ Fr.refl _ _⟩))).mono fun r w' h => fin (hlie.arr ht.ok ht.out m long) h
    · by_cases h2 : kd = 2
      · subst h2
        exact (done_open (G := tabFace w0 tb (openL es nm) fss) ht rfl (.pointer (some ⟨tb, 0, none⟩)) m long nm fa fn fc hr hoa (Lib.hid fun W hW => open_face hW nm) (Lib.hid fun W hW => ropen_of hW (by decide) nm)).mono fun r w' h => fin (hlie.open ht.out nm) h
      · refine (done_struct ht (.pointer (some ⟨tb, 0, none⟩)) kd m long h0 h1 h2 nm fa fn fc (N := 0) (E := 4) (rs' := begin3) hr hoa fs hfs hfo hfew (fun A B G => ∃ es' fss', G = tabFace w0 tb es' fss' ∧ Lie es' fss') (Lib.hid fun W hW hF => (struct_face hW nm fa fn fc fs hF hfew hnm).mono fun r w' hs => ?_) (Lib.hid fun W av cv hW _ => rstruct_none hW (by decide) nm _ (no_begin nm))).mono fun r w' h => ?_
        · obtain ⟨es', fss', hd, hp, ht2⟩ := hs
          rcases hd with ⟨_, e, rfl, rfl⟩ | ⟨hx, e, rfl, g, c, rfl⟩
          · exact ⟨_, _, _, e, ⟨_, _, rfl, hlie⟩, rfl, hp, ht2⟩
          · exact ⟨_, _, _, e, ⟨_, _, rfl, hlie.struct ht.ok (Tab.fn_is ht) hx g c⟩, rfl, hp, ht2⟩
        · obtain ⟨A, B, G, ⟨es', fss', rfl, hl⟩, hd⟩ := h
          exact fin hl hd
end Go.Proofs.Ytlhkhgkgjdfcgaa
