/-
  The document's own tables of types (layer 8): Struct where it answers an error ahead of laying.
-/
import Derived.Test.YtlhkhgkgjdfcgaaQKindAb
import Derived.LoopTactic
import Derived.Outline
namespace Go.Proofs.Ytlhkhgkgjdfcgaa
open Go.RowKit
set_option linter.unusedVariables false
set_option linter.unusedSimpArgs false
/-- The result's box while a struct is made. -/
structure BoxM (w W : World) : Prop where
  fr : Fr (fun _ => False) w W
  sz : w.heap.size + 1 ≤ W.heap.size
  r : ∀ j, j < 3 → (∃ y, W.cell? ⟨w.heap.size, j, none⟩ = some y) ∧ W.frozen? ⟨w.heap.size, j, none⟩ = false
theorem BoxM.grow {w W W' : World} (h : BoxM w W) {F : Nat → Prop} (hf : Fr F W W') (hn : ∀ j, j < w.heap.size + 1 → ¬ F j) : BoxM w W' :=
  ⟨h.fr.trans' hf (fun j hj e => hn j (by omega) e), Nat.le_trans h.sz hf.size, fun j hj => ⟨(h.r j hj).1.elim fun y hy => ⟨y, hf.cell hy (hn _ (by simp))⟩, (h.r j hj).1.elim fun y hy => (hf.frozen hy (hn _ (by simp))).trans (h.r j hj).2⟩⟩
theorem BoxM.quiet {w W W' : World} (h : BoxM w W) (hf : Fr (fun _ => False) W W') : BoxM w W' := h.grow hf (fun _ _ => id)
theorem BoxM.start (w : World) : BoxM w (w.alloc (.cells #[.int .i64 0, .slice none 0 0, .int .i64 0] 31)) :=
  ⟨fr_al (Fr.refl _ _) _, by simp, fun j hj => ⟨⟨_, fcell w _ _ j _ (Array.getElem?_eq_getElem (by simpa using hj))⟩, World.frozen?_alloc_new _ _ _ _⟩⟩
theorem rfindP_found {rs : List RT} {nm : ByteArray} {w w' : World} {r : Ending} (h : RFindP rs nm w r w') (hk : rfind rs nm < rs.length) : r = .returned (.int .i64 (rfind rs nm : Int)) ∧ Fr (fun _ => False) w w' := by
  unfold RFindP at h
  have hk' : rs.findIdx (isRName nm) < rs.length := hk
  rw [if_pos hk'] at h
  exact h
set_option maxHeartbeats 1000000 in
/-- Found, but with fields already. -/
theorem rstruct_shut {w : World} {a : Option Addr} {c : Nat} {rs : List RT} (h : RAt w a rs.length rs) (hfew : rs.length ≤ 1000) (nm : ByteArray) (fv : Value) (hk : rfind rs nm < rs.length) (ho : (rs.getD (rfind rs nm) rt0).opn = false) :
    Calls Try.prog 32 #[.slice a rs.length c, .string nm, fv] w (MadeP w a rs 0 4 rs) := by
  have HB := Lib.hid (BoxM.start w)
  have HH := Lib.hid h
  have hfa : Fr (fun _ => False) w (w.alloc (.cells #[.int .i64 0, .slice none 0 0, .int .i64 0] 31)) := fr_al (Fr.refl _ _) _
  have HFI : Hid (Calls Try.prog 22 #[.slice a rs.length c, .string nm] (w.alloc (.cells #[.int .i64 0, .slice none 0 0, .int .i64 0] 31)) fun r w' => r = .returned (.int .i64 (rfind rs nm : Int)) ∧ BoxM w w') :=
    Lib.hid ((rfind_of (h.quiet hfa) hfew nm).mono fun r w' hr => by
      obtain ⟨e1, e2⟩ := rfindP_found hr hk
      exact ⟨e1, (BoxM.start w).quiet e2⟩)
  obtain ⟨g, rfl, hcell⟩ := h.2 _ hk
  have HC : Hid (∀ W, Fr (fun _ => False) w W → W.cell? ⟨g, rfind rs nm * 6 + 5, none⟩ = some (.bool false)) := Lib.hid (fun W hW => by
    have := hcell 5 (by decide)
    have e : (rs.getD (rfind rs nm) rt0).vals[5]? = some (.bool (rs.getD (rfind rs nm) rt0).opn) := rfl
    rw [e, ho] at this
    exact hW.cell this id)
  generalize rfind rs nm = k at *
  have hkk : (k : Int) < rs.length := by omega
  generalize rs.length = L at *
  have t0 : (0 : Int) ≤ k := by omega
  have d0 : decide ((k : Int) < 0) = false := decide_eq_false (by omega)
  clear h hfa hcell hk ho
  go_enter Try.func32, Try.ntmps32
  go_wp2_with (go_at_call 22; (with_reducible refine HFI.out.mono ?_); rintro r w1 ⟨rfl, hb⟩; have HB1 := Lib.hid hb; have q5 := HC.out w1 hb.fr; obtain ⟨⟨b0, k0⟩, f0⟩ := hb.r 0 (by decide); obtain ⟨⟨b1, k1⟩, f1⟩ := hb.r 1 (by decide); obtain ⟨⟨b2, k2⟩, f2⟩ := hb.r 2 (by decide); have lw1 := hb.sz; clear hb)
  exact bodyPost_ret (v := .agg #[.int .i64 0, .slice (some ⟨g, 0, none⟩) L c, .int .i64 4]) (by simp [results, Try.results32, go_sem, set3' k0 k1 k2]) rfl (made_same HH.out (fr_set (fr_set (fr_set HB1.out.fr (Nat.le_refl _) _ _) (Nat.le_refl _) _ _) (Nat.le_refl _) _ _))
set_option maxHeartbeats 1000000 in
/-- The fields have an error. -/
theorem rstruct_may {w : World} {a : Option Addr} {c : Nat} {rs : List RT} (h : RAt w a rs.length rs) (hfew : rs.length ≤ 1000) (nm : ByteArray) (fv : Value) (hk : rfind rs nm < rs.length) (ho : (rs.getD (rfind rs nm) rt0).opn = true) (E : Int) (hE : E ≠ 0)
    (HM : Hid (∀ W, Fr (fun _ => False) w W → Calls Try.prog 44 #[.slice a rs.length c, fv] W fun r w' => r = .returned (.int .i64 E) ∧ Fr (fun _ => False) W w')) :
    Calls Try.prog 32 #[.slice a rs.length c, .string nm, fv] w (MadeP w a rs 0 E rs) := by
  have HB := Lib.hid (BoxM.start w)
  have HH := Lib.hid h
  have hfa : Fr (fun _ => False) w (w.alloc (.cells #[.int .i64 0, .slice none 0 0, .int .i64 0] 31)) := fr_al (Fr.refl _ _) _
  have HFI : Hid (Calls Try.prog 22 #[.slice a rs.length c, .string nm] (w.alloc (.cells #[.int .i64 0, .slice none 0 0, .int .i64 0] 31)) fun r w' => r = .returned (.int .i64 (rfind rs nm : Int)) ∧ BoxM w w') :=
    Lib.hid ((rfind_of (h.quiet hfa) hfew nm).mono fun r w' hr => by
      obtain ⟨e1, e2⟩ := rfindP_found hr hk
      exact ⟨e1, (BoxM.start w).quiet e2⟩)
  obtain ⟨g, rfl, hcell⟩ := h.2 _ hk
  have HC : Hid (∀ W, Fr (fun _ => False) w W → W.cell? ⟨g, rfind rs nm * 6 + 5, none⟩ = some (.bool true)) := Lib.hid (fun W hW => by
    have := hcell 5 (by decide)
    have e : (rs.getD (rfind rs nm) rt0).vals[5]? = some (.bool (rs.getD (rfind rs nm) rt0).opn) := rfl
    rw [e, ho] at this
    exact hW.cell this id)
  have HM2 : Hid (∀ W, BoxM w W → Calls Try.prog 44 #[.slice (some ⟨g, 0, none⟩) rs.length c, fv] W fun r w' => r = .returned (.int .i64 E) ∧ BoxM w w') := Lib.hid (fun W hW => (HM.out W hW.fr).mono fun r w' hr => ⟨hr.1, hW.quiet hr.2⟩)
  generalize rfind rs nm = k at *
  have hkk : (k : Int) < rs.length := by omega
  generalize rs.length = L at *
  have t0 : (0 : Int) ≤ k := by omega
  have d0 : decide ((k : Int) < 0) = false := decide_eq_false (by omega)
  have hEb : (E != 0) = true := by rw [bne_iff_ne]; exact hE
  clear h hfa hcell hk ho HM hE
  go_enter Try.func32, Try.ntmps32
  go_wp2_with (first
    | (go_at_call 22; (with_reducible refine HFI.out.mono ?_); rintro r w1 ⟨rfl, hb⟩; have HB1 := Lib.hid hb; have q5 := HC.out w1 hb.fr; clear hb)
    | (go_at_call 44; (with_reducible refine (HM2.out w1 HB1.out).mono ?_); rintro r w2 ⟨rfl, hb⟩; have HB2 := Lib.hid hb; clear hb)
    | (go_at_call 44; (with_reducible refine (HM2.out w2 HB2.out).mono ?_); rintro r w3 ⟨rfl, hb⟩; have HB3 := Lib.hid hb; obtain ⟨⟨b0, k0⟩, f0⟩ := hb.r 0 (by decide); obtain ⟨⟨b1, k1⟩, f1⟩ := hb.r 1 (by decide); obtain ⟨⟨b2, k2⟩, f2⟩ := hb.r 2 (by decide); have lw1 := hb.sz; clear hb))
  exact bodyPost_ret (v := .agg #[.int .i64 0, .slice (some ⟨g, 0, none⟩) L c, .int .i64 E]) (by simp [results, Try.results32, go_sem, set3' k0 k1 k2]) rfl (made_same HH.out (fr_set (fr_set (fr_set HB3.out.fr (Nat.le_refl _) _ _) (Nat.le_refl _) _ _) (Nat.le_refl _) _ _))
end Go.Proofs.Ytlhkhgkgjdfcgaa
