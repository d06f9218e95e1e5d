/-
  Tables of types (layer 8): any act, beside the document's first table; on no table, and on one.
-/
import Derived.Test.YtlhkhgkgjdfcgaaQKindLa
import Derived.Outline
namespace Go.Proofs.Ytlhkhgkgjdfcgaa
open Go.RowKit
set_option linter.unusedVariables false
set_option linter.unusedSimpArgs false
theorem no_begin (nm : ByteArray) : ¬ rfind begin3 nm < begin3.length := by
  have h : rfind begin3 nm = 3 := by
    unfold rfind begin3
    simp [List.findIdx_cons, isRName, rt0, rt1, rt2]
  rw [h]; decide
theorem sizeB_in (m : Int) : 0 ≤ sizeB m ∧ sizeB m ≤ 32768 := by
  unfold sizeB
  split
  · decide
  · split <;> decide
/-- An act's value. -/
def ActV.val (y : ActV) : Value := .agg #[.int .i64 y.kind, .int .i64 y.n, .int .i64 y.long, .string y.name, .slice y.fa y.fn y.fc]
/-- An act on no table: nothing is made. -/
theorem done_nil {w0 w : World} (hw : Fr (fun _ => False) w0 w) (y : ActV) (fs : List Fld) (hfs : FldAt w y.fa y.fn fs)  (hfew : fs.length ≤ 1000) {b c : Nat} (hr : RAt w (some ⟨b, 0, none⟩) 3 begin3) (hb : b < w.heap.size) :
    Calls Try.prog 12 #[y.val, .pointer none, .slice (some ⟨b, 0, none⟩) 3 c] w fun r w' => ∃ N E a n c, r = .returned (.tuple #[.int .i64 0, .int .i64 1, .agg #[.int .i64 N, .slice a n c, .int .i64 E]]) ∧ Fr (fun _ => False) w0 w' ∧ Fr (fun _ => False) w w' := by
  have hp : (nilFace w).P w := Fr.refl _ _
  have hoa' : (nilFace w).offA w (some ⟨b, 0, none⟩) begin3.length := fun g o e _ => by injection e with e; injection e with e; exact ⟨trivial, by omega⟩
  have hfo' : (nilFace w).offA w y.fa fs.length := fun g o e hn => ⟨trivial, fld_lt hfs g o e hn⟩
  have fin : ∀ {N E : Int} {rs : List RT} {r : Ending} {w' : World}, DoneP (nilFace w) (nilFace w) w 0 1 N E rs r w' → ∃ N E a n c, r = .returned (.tuple #[.int .i64 0, .int .i64 1, .agg #[.int .i64 N, .slice a n c, .int .i64 E]]) ∧ Fr (fun _ => False) w0 w' ∧ Fr (fun _ => False) w w' := fun {N E rs r w'} h => by
    obtain ⟨a, n, c, e, h1, _⟩ := h
    exact ⟨N, E, a, n, c, e, hw.trans h1, h1⟩
  obtain ⟨kd, m, long, nm, fa, fn, fc⟩ := y
  by_cases h0 : kd = 0
  · subst h0
    exact (done_ptr hp rfl (.pointer none) m long nm fa fn fc hr hoa' (Lib.hid fun W hW => (ptr_nil m W).mono fun r w' ⟨e, hf⟩ => ⟨e, Fr.trans hW hf, Trn.quiet hW hf⟩) (Lib.hid fun W hW => rptr_of hW (by decide) m)).mono fun r w' h => fin h
  · by_cases h1 : kd = 1
    · subst h1
      exact (done_array hp rfl (.pointer none) m long nm fa fn fc hr hoa' (Lib.hid fun W hW => (array_nil m long W).mono fun r w' ⟨e, hf⟩ => ⟨e, Fr.trans hW hf, Trn.quiet hW hf⟩) (Lib.hid fun W hW => rarray_of hW (by decide) m long (sizeB m) (sizeB_in m) (Lib.hid fun W2 hW2 => (rsize_begin (hW.quiet hW2) m).mono fun r w' ⟨e, e2⟩ => ⟨e, e2 ▸ Fr.refl _ _⟩))).mono fun r w' h => fin h
    · by_cases h2 : kd = 2
      · subst h2
        exact (done_open hp rfl (.pointer none) m long nm fa fn fc hr hoa' (Lib.hid fun W hW => (open_nil nm W).mono fun r w' ⟨e, e2⟩ => ⟨e, e2 ▸ hW, e2 ▸ Trn.quiet hW (Fr.refl _ _)⟩) (Lib.hid fun W hW => ropen_of hW (by decide) nm)).mono fun r w' h => fin h
      · refine (done_struct hp (.pointer none) kd m long h0 h1 h2 nm fa fn fc (N := 0) (E := 4) (rs' := begin3) hr hoa' fs hfs hfo' hfew (fun A B G => A = 0 ∧ B = 1 ∧ G = nilFace w) (Lib.hid fun W hW _ => (struct_nil nm _ W).mono fun r w' ⟨e, e2⟩ => ⟨0, 1, nilFace w, e, ⟨rfl, rfl, rfl⟩, rfl, e2 ▸ hW, e2 ▸ Trn.quiet hW (Fr.refl _ _)⟩) (Lib.hid fun W av cv hW _ => rstruct_none hW (by decide) nm _ (no_begin nm))).mono fun r w' h => ?_
        obtain ⟨A, B, G, ⟨rfl, rfl, rfl⟩, hd⟩ := h
        exact fin hd
/-- An act on a table. -/
theorem done_tab {w0 w : World} {tb : Nat} {es : List Ent} {fss : Nat → List Fld} (ht : (tabFace w0 tb es fss).P w) (y : ActV) (fs : List Fld) (hfs : FldAt w y.fa y.fn fs) (hfo : (tabFace w0 tb es fss).offA w y.fa fs.length) (hfew : fs.length ≤ 1000) (hnm : ∀ f ∈ fs, f.name.size ≤ maxLen) {b c : Nat} (hr : RAt w (some ⟨b, 0, none⟩) 3 begin3) (hb : b < w.heap.size) (hbo : (tabFace w0 tb es fss).off w b) :
    Calls Try.prog 12 #[y.val, .pointer (some ⟨tb, 0, none⟩), .slice (some ⟨b, 0, none⟩) 3 c] w fun r w' => ∃ A B N E a n c es' fss', r = .returned (.tuple #[.int .i64 A, .int .i64 B, .agg #[.int .i64 N, .slice a n c, .int .i64 E]]) ∧ (tabFace w0 tb es' fss').P w' ∧ Trn (tabFace w0 tb es fss) (tabFace w0 tb es' fss') w w' := by
  have hoa : (tabFace w0 tb es fss).offA w (some ⟨b, 0, none⟩) begin3.length := fun g o e _ => by injection e with e; injection e with e; subst e; exact ⟨hbo, hb⟩
  have fin : ∀ {A B N E : Int} {rs : List RT} {r : Ending} {w' : World} {es' : List Ent} {fss' : Nat → List Fld}, DoneP (tabFace w0 tb es fss) (tabFace w0 tb es' fss') w A B N E rs r w' → ∃ A B N E a n c es' fss', r = .returned (.tuple #[.int .i64 A, .int .i64 B, .agg #[.int .i64 N, .slice a n c, .int .i64 E]]) ∧ (tabFace w0 tb es' fss').P w' ∧ Trn (tabFace w0 tb es fss) (tabFace w0 tb es' fss') w w' := fun {A B N E rs r w' es' fss'} h => by
    obtain ⟨a, n, c, e, h1, h2, _⟩ := h
    exact ⟨A, B, N, E, a, n, c, es', fss', e, h1, h2⟩
  obtain ⟨kd, m, long, nm, fa, fn, fc⟩ := y
  by_cases h0 : kd = 0
  · subst h0
    exact (done_ptr (G := tabFace w0 tb (ptrL es m) fss) ht rfl (.pointer (some ⟨tb, 0, none⟩)) m long nm fa fn fc hr hoa (Lib.hid fun W hW => ptr_face hW m) (Lib.hid fun W hW => rptr_of hW (by decide) m)).mono fun r w' h => fin h
  · by_cases h1 : kd = 1
    · subst h1
      exact (done_array (G := tabFace w0 tb (arrL es m long) fss) ht rfl (.pointer (some ⟨tb, 0, none⟩)) m long nm fa fn fc hr hoa (Lib.hid fun W hW => array_face hW m long) (Lib.hid fun W hW => rarray_of hW (by decide) m long (sizeB m) (sizeB_in m) (Lib.hid fun W2 hW2 => (rsize_begin (hW.quiet hW2) m).mono fun r w' ⟨e, e2⟩ => ⟨e, e2 ▸ Fr.refl _ _⟩))).mono fun r w' h => fin h
    · by_cases h2 : kd = 2
      · subst h2
        exact (done_open (G := tabFace w0 tb (openL es nm) fss) ht rfl (.pointer (some ⟨tb, 0, none⟩)) m long nm fa fn fc hr hoa (Lib.hid fun W hW => open_face hW nm) (Lib.hid fun W hW => ropen_of hW (by decide) nm)).mono fun r w' h => fin h
      · refine (done_struct ht (.pointer (some ⟨tb, 0, none⟩)) kd m long h0 h1 h2 nm fa fn fc (N := 0) (E := 4) (rs' := begin3) hr hoa fs hfs hfo hfew (fun A B G => ∃ es' fss', G = tabFace w0 tb es' fss') (Lib.hid fun W hW hF => (struct_face hW nm fa fn fc fs hF hfew hnm).mono fun r w' hs => ?_) (Lib.hid fun W av cv hW _ => rstruct_none hW (by decide) nm _ (no_begin nm))).mono fun r w' h => ?_
        · obtain ⟨es', fss', hd, hp, ht2⟩ := hs
          rcases hd with ⟨_, e, _, _⟩ | ⟨_, e, _, _⟩
          · exact ⟨_, _, _, e, ⟨es', fss', rfl⟩, rfl, hp, ht2⟩
          · exact ⟨_, _, _, e, ⟨es', fss', rfl⟩, rfl, hp, ht2⟩
        · obtain ⟨A, B, G, ⟨es', fss', rfl⟩, hd⟩ := h
          exact fin hd
end Go.Proofs.Ytlhkhgkgjdfcgaa
