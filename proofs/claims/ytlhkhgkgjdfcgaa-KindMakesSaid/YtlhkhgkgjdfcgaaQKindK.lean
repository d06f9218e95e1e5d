/-
  Tables of types (layer 8): Open; what is told of no table.
-/
import Derived.Test.YtlhkhgkgjdfcgaaQKindJ
import Derived.Outline
namespace Go.Proofs.Ytlhkhgkgjdfcgaa
open Go.RowKit
set_option linter.unusedVariables false
set_option linter.unusedSimpArgs false
/-- The error of an opening, or 0. -/
def openX (es : List Ent) (nm : ByteArray) : Int := if nm.toList.isEmpty then 1 else if findK es nm < es.length then 6 else 0
def openA (es : List Ent) (nm : ByteArray) : Int := if openX es nm = 0 then addA es else 0
def openB (es : List Ent) (nm : ByteArray) : Int := if openX es nm = 0 then addB es else openX es nm
def addL (es : List Ent) (x : Ent) : List Ent := if es.length = 397 then es else es ++ [x]
def openL (es : List Ent) (nm : ByteArray) : List Ent := if openX es nm = 0 then addL es (openE nm) else es
set_option maxHeartbeats 4000000 in
theorem open_of {base : Nat} {w : World} {tb : Nat} {v : Value} {es : List Ent} (h : TabAt base w tb v es) (nm : ByteArray) :
    Calls Try.prog 27 #[.pointer (some ⟨tb, 0, none⟩), .string nm] w fun r w' => r = .returned (.tuple #[.int .i64 (openA es nm), .int .i64 (openB es nm)]) ∧ TOk base tb v w w' (openL es nm) := by
  unfold openA openB openL
  have hx : openX es nm = if nm.toList.isEmpty then 1 else if findK es nm < es.length then 6 else 0 := rfl
  have HF := Lib.hid (Fr.refl (fun _ => False) w)
  have HQ := Lib.hid (fun W (hW : Fr (fun _ => False) w W) => TOk.quiet h hW)
  have HFIND := Lib.hid (find_of h nm)
  have HADD : Hid (∀ W, Fr (fun _ => False) w W → Calls Try.prog 39 #[.pointer (some ⟨tb, 0, none⟩), .agg #[.int .i64 5, .int .i64 0, .int .i64 0, .string nm, .slice none 0 0, .int .i64 0, .int .i64 0]] W fun r w' => r = .returned (.tuple #[.int .i64 (addA es), .int .i64 (addB es)]) ∧ TOk base tb v w w' (addL es (openE nm))) :=
    Lib.hid (fun W hW => (add_of (h.kept hW id (fun _ _ => id)) (openE nm)).mono fun r w' ⟨a, b⟩ => ⟨by rw [← addV_is]; exact a, TOk.before hW b⟩)
  clear h
  cases he : nm.toList.isEmpty with
  | true =>
    rw [he, if_pos rfl] at hx
    rw [hx, if_neg (by decide), if_neg (by decide), if_neg (by decide)]
    have hb1 : (nm.toList == []) = true := by cases hl : nm.toList with | nil => rfl | cons a t => rw [hl] at he; cases he
    have hb2 : nm.toList = [] := by simpa using hb1
    clear hx
    go_enter Try.func27, Try.ntmps27
    go_wp2
    go_ret2
    exact ⟨rfl, HQ.out _ HF.out⟩
  | false =>
    rw [he, if_neg (by decide)] at hx
    by_cases hk : findK es nm < es.length
    · rw [if_pos hk] at hx
      rw [hx, if_neg (by decide), if_neg (by decide), if_neg (by decide)]
      have HFI : Hid (Calls Try.prog 21 #[.pointer (some ⟨tb, 0, none⟩), .string nm] w fun r w' => r = .returned (.tuple #[.int .i64 (3 + (findK es nm : Int)), .int .i64 0]) ∧ Fr (fun _ => False) w w') :=
        Lib.hid (HFIND.out.mono fun r w' h => by unfold FindP at h; rw [if_pos hk, if_pos hk] at h; exact h)
      clear hx hk HFIND
      go_enter Try.func27, Try.ntmps27
      go_wp2_with (go_at_call 21; (with_reducible refine HFI.out.mono ?_); rintro r w2 ⟨rfl, hf⟩; have HV := Lib.hid hf; clear hf)
      go_ret2
      exact ⟨rfl, HQ.out _ HV.out⟩
    · rw [if_neg hk] at hx
      rw [hx, if_pos rfl, if_pos rfl, if_pos rfl]
      have HFI : Hid (Calls Try.prog 21 #[.pointer (some ⟨tb, 0, none⟩), .string nm] w fun r w' => r = .returned (.tuple #[.int .i64 0, .int .i64 4]) ∧ Fr (fun _ => False) w w') :=
        Lib.hid (HFIND.out.mono fun r w' h => by unfold FindP at h; rw [if_neg hk, if_neg hk] at h; exact h)
      clear hx hk HFIND
      go_enter Try.func27, Try.ntmps27
      go_wp2_with (first
        | (go_at_call 21; (with_reducible refine HFI.out.mono ?_); rintro r w2 ⟨rfl, hf⟩; have HV := Lib.hid hf; clear hf)
        | (go_at_call 39; (with_reducible refine (HADD.out _ HV.out).mono ?_); rintro r w3 ⟨rfl, hk⟩; have HK := Lib.hid hk; clear hk))
      go_ret2
      exact ⟨rfl, HK.out⟩
theorem set5 {w : World} {g : Nat} {x0 x1 x2 x3 x4 : Value} (b0 : w.cell? ⟨g, 0, none⟩ = some x0) (b1 : w.cell? ⟨g, 1, none⟩ = some x1) (b2 : w.cell? ⟨g, 2, none⟩ = some x2) (b3 : w.cell? ⟨g, 3, none⟩ = some x3) (b4 : w.cell? ⟨g, 4, none⟩ = some x4) (v0 v1 v2 v3 v4 : Value) (o : Obj) :
    ((((((w.setCell ⟨g, 0, none⟩ v0).setCell ⟨g, 1, none⟩ v1).setCell ⟨g, 2, none⟩ v2).setCell ⟨g, 3, none⟩ v3).setCell ⟨g, 4, none⟩ v4).alloc o).cell? ⟨g, 0, none⟩ = some v0 ∧
    ((((((w.setCell ⟨g, 0, none⟩ v0).setCell ⟨g, 1, none⟩ v1).setCell ⟨g, 2, none⟩ v2).setCell ⟨g, 3, none⟩ v3).setCell ⟨g, 4, none⟩ v4).alloc o).cell? ⟨g, 1, none⟩ = some v1 ∧
    ((((((w.setCell ⟨g, 0, none⟩ v0).setCell ⟨g, 1, none⟩ v1).setCell ⟨g, 2, none⟩ v2).setCell ⟨g, 3, none⟩ v3).setCell ⟨g, 4, none⟩ v4).alloc o).cell? ⟨g, 2, none⟩ = some v2 ∧
    ((((((w.setCell ⟨g, 0, none⟩ v0).setCell ⟨g, 1, none⟩ v1).setCell ⟨g, 2, none⟩ v2).setCell ⟨g, 3, none⟩ v3).setCell ⟨g, 4, none⟩ v4).alloc o).cell? ⟨g, 3, none⟩ = some v3 ∧
    ((((((w.setCell ⟨g, 0, none⟩ v0).setCell ⟨g, 1, none⟩ v1).setCell ⟨g, 2, none⟩ v2).setCell ⟨g, 3, none⟩ v3).setCell ⟨g, 4, none⟩ v4).alloc o).cell? ⟨g, 4, none⟩ = some v4 := by
  have hA : ∀ {W : World} {a : Addr} {x : Value}, W.cell? a = some x → (W.alloc o).cell? a = some x := fun h => (World.grownBy_alloc _ o none).cell h (by simp)
  refine ⟨hA ?_, hA ?_, hA ?_, hA ?_, hA ?_⟩
  · exact set_keep (set_keep (set_keep (set_keep (World.cell?_setCell_same _ _ _ b0) (by decide)) (by decide)) (by decide)) (by decide)
  · exact set_keep (set_keep (set_keep (World.cell?_setCell_same _ _ _ (set_keep b1 (by decide))) (by decide)) (by decide)) (by decide)
  · exact set_keep (set_keep (World.cell?_setCell_same _ _ _ (set_keep (set_keep b2 (by decide)) (by decide))) (by decide)) (by decide)
  · exact set_keep (World.cell?_setCell_same _ _ _ (set_keep (set_keep (set_keep b3 (by decide)) (by decide)) (by decide))) (by decide)
  · exact World.cell?_setCell_same _ _ _ (set_keep (set_keep (set_keep (set_keep b4 (by decide)) (by decide)) (by decide)) (by decide))
theorem type_nil (n : Int) (w : World) : Calls Try.prog 13 #[.pointer none, .int .i64 n] w fun r w' => r = .returned (.tuple #[.agg #[.int .i64 0, .int .i64 0, .int .i64 0, .string ⟨#[]⟩, .slice none 0 0], .int .i64 1]) ∧ Fr (fun _ => False) w w' := by
  have H := entry_nil' n
  have hsz : Hid (w.heap.size < (w.alloc (.cells #[.int .i64 0, .int .i64 0, .int .i64 0, .string ⟨#[]⟩, .slice none 0 0] 38)).heap.size) := Lib.hid (by simp)
  have HB : Hid (∀ W, Fr (fun _ => False) (w.alloc (.cells #[.int .i64 0, .int .i64 0, .int .i64 0, .string ⟨#[]⟩, .slice none 0 0] 38)) W → Fr (fun _ => False) w W ∧ ∀ j, j < 5 → (∃ x, W.cell? ⟨w.heap.size, j, none⟩ = some x) ∧ W.frozen? ⟨w.heap.size, j, none⟩ = false) := Lib.hid (fun W hW => by
    refine ⟨(fr_al (Fr.refl _ _) _).trans hW, fun j hj => ?_⟩
    have h0 : ∃ x, (w.alloc (.cells #[.int .i64 0, .int .i64 0, .int .i64 0, .string ⟨#[]⟩, .slice none 0 0] 38)).cell? ⟨w.heap.size, j, none⟩ = some x := ⟨_, fcell w _ _ j _ (Array.getElem?_eq_getElem (by simpa using hj))⟩
    obtain ⟨x, h0⟩ := h0
    exact ⟨⟨x, hW.cell h0 id⟩, (hW.frozen h0 id).trans (World.frozen?_alloc_new _ _ _ _)⟩)
  go_enter Try.func13, Try.ntmps13
  go_wp2_with (go_at_call 33; (with_reducible refine (H.out _).mono ?_); rintro r w2 ⟨rfl, hf⟩; obtain ⟨hv, hb⟩ := HB.out _ hf; have HV := Lib.hid hv; obtain ⟨⟨b0, k0⟩, f0⟩ := hb 0 (by decide); obtain ⟨⟨b1, k1⟩, f1⟩ := hb 1 (by decide); obtain ⟨⟨b2, k2⟩, f2⟩ := hb 2 (by decide); obtain ⟨⟨b3, k3⟩, f3⟩ := hb 3 (by decide); obtain ⟨⟨b4, k4⟩, f4⟩ := hb 4 (by decide); have lw : w.heap.size < w2.heap.size := Nat.lt_of_lt_of_le hsz.out hf.size; clear hb hv hf)
  exact bodyPost_ret (v := .tuple #[.agg #[.int .i64 0, .int .i64 0, .int .i64 0, .string ⟨#[]⟩, .slice none 0 0], .int .i64 1]) (by simp [results, Try.results13, go_sem, set5 k0 k1 k2 k3 k4]) rfl ⟨rfl, fr_al (fr_set (fr_set (fr_set (fr_set (fr_set HV.out (Nat.le_refl _) _ _) (Nat.le_refl _) _ _) (Nat.le_refl _) _ _) (Nat.le_refl _) _ _) (Nat.le_refl _) _ _) _⟩
theorem struct_nil (nm : ByteArray) (fv : Value) (w : World) : Calls Try.prog 28 #[.pointer none, .string nm, fv] w fun r w' => r = .returned (.tuple #[.int .i64 0, .int .i64 1]) ∧ w = w' := by
  go_enter Try.func28, Try.ntmps28
  go_wp2_with (go_at_call 21; (with_reducible refine (find_nil nm _).mono ?_); rintro r w2 ⟨rfl, rfl⟩)
  go_ret2
  exact ⟨rfl, rfl⟩
end Go.Proofs.Ytlhkhgkgjdfcgaa
