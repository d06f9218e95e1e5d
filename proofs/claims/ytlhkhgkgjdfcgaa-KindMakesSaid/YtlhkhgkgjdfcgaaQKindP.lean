/-
  Tables of types (layer 8): Field at a table.
-/
import Derived.Test.YtlhkhgkgjdfcgaaQKindO
import Derived.LoopTactic
import Derived.Outline
namespace Go.Proofs.Ytlhkhgkgjdfcgaa
open Go.RowKit
set_option linter.unusedVariables false
set_option linter.unusedSimpArgs false
theorem field_box (w : World) : Hid (∀ W, Fr (fun _ => False) (w.alloc (.cells #[.string ⟨#[]⟩, .int .i64 0, .int .i64 0] 53)) W → Fr (fun _ => False) w W ∧ w.heap.size < W.heap.size ∧ ∀ j, j < 3 → (∃ x, W.cell? ⟨w.heap.size, j, none⟩ = some x) ∧ W.frozen? ⟨w.heap.size, j, none⟩ = false) := Lib.hid (fun W hW => by
    refine ⟨(fr_al (Fr.refl _ _) _).trans hW, by have := hW.size; simp at this; omega, fun j hj => ?_⟩
    have h0 : ∃ x, (w.alloc (.cells #[.string ⟨#[]⟩, .int .i64 0, .int .i64 0] 53)).cell? ⟨w.heap.size, j, none⟩ = some x := ⟨_, fcell w _ _ j _ (Array.getElem?_eq_getElem (by simpa using hj))⟩
    obtain ⟨x, h0⟩ := h0
    exact ⟨⟨x, hW.cell h0 id⟩, (hW.frozen h0 id).trans (World.frozen?_alloc_new _ _ _ _)⟩)
def EntH (w : World) (p : Value) (n er : Int) (e : Ent) : Prop := Hid (∀ W, Fr (fun _ => False) w W → Calls Try.prog 33 #[p, .int .i64 n] W fun r w' => r = .returned (.tuple #[.agg #[.int .i64 e.kind, .int .i64 e.elem, .int .i64 e.len, .string e.name, .slice e.fa e.fn e.fc, .int .i64 e.size, .int .i64 e.align], .int .i64 er]) ∧ Fr (fun _ => False) W w')
theorem field_err (p : Value) (n er : Int) (e : Ent) (nm : ByteArray) (w : World) (H : EntH w p n er e) (he : er ≠ 0) :
    Calls Try.prog 23 #[p, .int .i64 n, .string nm] w fun r w' => r = .returned (.tuple #[.agg #[.string ⟨#[]⟩, .int .i64 0, .int .i64 0], .int .i64 er]) ∧ Fr (fun _ => False) w w' := by
  have HB := field_box w
  have HF := Lib.hid (fr_al (Fr.refl (fun _ => False) w) (.cells #[.string ⟨#[]⟩, .int .i64 0, .int .i64 0] 53))
  have hb : (er != 0) = true := by rw [bne_iff_ne]; exact he
  unfold EntH at H
  clear he
  go_enter Try.func23, Try.ntmps23
  go_wp2_with (go_at_call 33; (with_reducible refine (H.out _ HF.out).mono ?_); rintro r w2 ⟨rfl, hf⟩; obtain ⟨hv, lw, hb2⟩ := HB.out _ hf; have HV := Lib.hid hv; obtain ⟨⟨b0, k0⟩, f0⟩ := hb2 0 (by decide); obtain ⟨⟨b1, k1⟩, f1⟩ := hb2 1 (by decide); obtain ⟨⟨b2, k2⟩, f2⟩ := hb2 2 (by decide); clear hb2 hv hf)
  exact bodyPost_ret (v := .tuple #[.agg #[.string ⟨#[]⟩, .int .i64 0, .int .i64 0], .int .i64 er]) (by simp [results, Try.results23, go_sem, set3 k0 k1 k2]) rfl ⟨rfl, fr_al (fr_set (fr_set (fr_set HV.out (Nat.le_refl _) _ _) (Nat.le_refl _) _ _) (Nat.le_refl _) _ _) _⟩
theorem field_kind (p : Value) (n : Int) (e : Ent) (nm : ByteArray) (w : World) (H : EntH w p n 0 e) (he : e.kind ≠ 5) :
    Calls Try.prog 23 #[p, .int .i64 n, .string nm] w fun r w' => r = .returned (.tuple #[.agg #[.string ⟨#[]⟩, .int .i64 0, .int .i64 0], .int .i64 5]) ∧ Fr (fun _ => False) w w' := by
  have HB := field_box w
  have HF := Lib.hid (fr_al (Fr.refl (fun _ => False) w) (.cells #[.string ⟨#[]⟩, .int .i64 0, .int .i64 0] 53))
  have hb : (e.kind != 5) = true := by rw [bne_iff_ne]; exact he
  unfold EntH at H
  clear he
  go_enter Try.func23, Try.ntmps23
  go_wp2_with (go_at_call 33; (with_reducible refine (H.out _ HF.out).mono ?_); rintro r w2 ⟨rfl, hf⟩; obtain ⟨hv, lw, hb2⟩ := HB.out _ hf; have HV := Lib.hid hv; obtain ⟨⟨b0, k0⟩, f0⟩ := hb2 0 (by decide); obtain ⟨⟨b1, k1⟩, f1⟩ := hb2 1 (by decide); obtain ⟨⟨b2, k2⟩, f2⟩ := hb2 2 (by decide); clear hb2 hv hf)
  exact bodyPost_ret (v := .tuple #[.agg #[.string ⟨#[]⟩, .int .i64 0, .int .i64 0], .int .i64 5]) (by simp [results, Try.results23, go_sem, set3 k0 k1 k2]) rfl ⟨rfl, fr_al (fr_set (fr_set (fr_set HV.out (Nat.le_refl _) _ _) (Nat.le_refl _) _ _) (Nat.le_refl _) _ _) _⟩
theorem set3' {w : World} {g : Nat} {x0 x1 x2 : Value} (b0 : w.cell? ⟨g, 0, none⟩ = some x0) (b1 : w.cell? ⟨g, 1, none⟩ = some x1) (b2 : w.cell? ⟨g, 2, none⟩ = some x2) (v0 v1 v2 : Value) :
    (((w.setCell ⟨g, 0, none⟩ v0).setCell ⟨g, 1, none⟩ v1).setCell ⟨g, 2, none⟩ v2).cell? ⟨g, 0, none⟩ = some v0 ∧
    (((w.setCell ⟨g, 0, none⟩ v0).setCell ⟨g, 1, none⟩ v1).setCell ⟨g, 2, none⟩ v2).cell? ⟨g, 1, none⟩ = some v1 ∧
    (((w.setCell ⟨g, 0, none⟩ v0).setCell ⟨g, 1, none⟩ v1).setCell ⟨g, 2, none⟩ v2).cell? ⟨g, 2, none⟩ = some v2 := by
  refine ⟨?_, ?_, ?_⟩
  · exact set_keep (set_keep (World.cell?_setCell_same _ _ _ b0) (by decide)) (by decide)
  · exact set_keep (World.cell?_setCell_same _ _ _ (set_keep b1 (by decide))) (by decide)
  · exact World.cell?_setCell_same _ _ _ (set_keep (set_keep b2 (by decide)) (by decide))
set_option maxRecDepth 100000 in
set_option maxHeartbeats 4000000 in
theorem field_loop (p : Value) (n : Int) (e : Ent) (nm : ByteArray) (fs : List Fld) (w : World) (H : EntH w p n 0 e) (he : e.kind = 5) (hfs : FldAt w e.fa e.fn fs) (hfew : fs.length ≤ 100000) :
    Calls Try.prog 23 #[p, .int .i64 n, .string nm] w (FieldP fs nm w) := by
  have HB := field_box w
  have HF := Lib.hid (fr_al (Fr.refl (fun _ => False) w) (.cells #[.string ⟨#[]⟩, .int .i64 0, .int .i64 0] 53))
  have hb : (e.kind != 5) = false := by rw [he]; rfl
  unfold EntH at H
  have HC := Lib.hid hfs
  have HY := Lib.hid (fun (k : Nat) (f : Fld) (w' : World) => @fieldP_yes fs nm w w' k f)
  have HNO := Lib.hid (fun (w' : World) => @fieldP_no fs nm w w')
  obtain ⟨m, hm⟩ : ∃ m, e.fn = m := ⟨_, rfl⟩
  have hml : m = fs.length := by rw [← hm]; exact hfs.1
  rw [hm] at H
  have hme : m ≤ 100000 := by omega
  have HN := Lib.hid hml
  clear he hfs hm hfew hml
  go_enter Try.func23, Try.ntmps23
  go_wp2_with (go_at_call 33; (with_reducible refine (H.out _ HF.out).mono ?_); rintro r w2 ⟨rfl, hf⟩; have HV2 := Lib.hid hf; clear hf)
  go_loopw [31] (fun q wr => ∃ k : Nat, q = .int .i64 k ∧ k ≤ m ∧ Hid ((∀ j, j < k → isFld nm (fs.getD j fld0) = false) ∧ Fr (fun _ => False) w2 wr)) (fun q _ => m - (intOf q).toNat)
  case atStart => exact ⟨0, rfl, Nat.zero_le _, Lib.hid ⟨fun j hj => by omega, fr_al (Fr.refl _ _) _⟩⟩
  case round =>
    obtain ⟨k, rfl, hk, HW⟩ := hrel
    obtain ⟨hv, lw, hb2⟩ := HB.out _ (HV2.out.trans HW.out.2)
    have HV := Lib.hid hv
    obtain ⟨⟨b0, k0⟩, f0⟩ := hb2 0 (by decide)
    obtain ⟨⟨b1, k1⟩, f1⟩ := hb2 1 (by decide)
    obtain ⟨⟨b2, k2⟩, f2⟩ := hb2 2 (by decide)
    clear hb2 hv
    by_cases hlt : k < m
    · obtain ⟨g, o, ha, hcell⟩ := HC.out.2 k (by have := HN.out; omega)
      obtain ⟨f, hf⟩ : ∃ f, fs.getD k fld0 = f := ⟨_, rfl⟩
      rw [hf] at hcell
      have HE := Lib.hid hf
      have HJ0 : Hid (∀ j, j < 3 → wr.cell? ⟨g, o + (k * 3 + j), none⟩ = f.vals[j]?) := Lib.hid (fun j hj => by
        have h1 : ∃ x, f.vals[j]? = some x := ⟨_, List.getElem?_eq_getElem (by simpa [Fld.vals] using hj)⟩
        obtain ⟨x, h1⟩ := h1
        rw [h1]
        exact HV.out.cell ((hcell j hj).trans h1) id)
      have q0 : wr.cell? ⟨g, o + k * 3, none⟩ = some (.string f.name) := HJ0.out 0 (by decide)
      have q1 : wr.cell? ⟨g, o + k * 3 + 1, none⟩ = some (.int .i64 f.type) := HJ0.out 1 (by decide)
      have q2 : wr.cell? ⟨g, o + k * 3 + 2, none⟩ = some (.int .i64 f.off) := HJ0.out 2 (by decide)
      have t0 : (0 : Int) ≤ k := by omega
      have t1 : (k : Int) < m := by omega
      have HA := Lib.hid ha
      clear hcell hf
      by_cases h5 : (f.name.toList == nm.toList) = true
      · have HI : Hid (isFld nm f = true) := Lib.hid h5
        rw [ha]
        go_wp2
        exact bodyPost_ret (v := .tuple #[.agg #[.string f.name, .int .i64 f.type, .int .i64 f.off], .int .i64 0]) (by simp [results, Try.results23, go_sem, set3 k0 k1 k2]) rfl (HY.out k f _ (by have := HN.out; omega) HE.out HI.out HW.out.1 (fr_al (fr_set (fr_set (fr_set HV.out (Nat.le_refl _) _ _) (Nat.le_refl _) _ _) (Nat.le_refl _) _ _) _))
      · have hnb : (f.name.toList == nm.toList) = false := by simpa using h5
        have HI : Hid (isFld nm (fs.getD k fld0) = false) := Lib.hid (by rw [HE.out]; exact hnb)
        rw [ha]
        go_wp2
        go_roundw
        case rel => exact ⟨k + 1, by go_num, by omega, Lib.hid ⟨fun j hj => by
          by_cases hjk : j < k
          · exact HW.out.1 j hjk
          · obtain rfl : j = k := by omega
            exact HI.out, fr_al HW.out.2 _⟩⟩
        case measure => simp [intOf]; omega
    · obtain rfl : m = k := by omega
      go_wp2
      exact bodyPost_ret (v := .tuple #[.agg #[.string ⟨#[]⟩, .int .i64 0, .int .i64 0], .int .i64 4]) (by simp [results, Try.results23, go_sem, set3' k0 k1 k2]) rfl (HNO.out _ (by rw [← HN.out]; exact HW.out.1) (fr_set (fr_set (fr_set HV.out (Nat.le_refl _) _ _) (Nat.le_refl _) _ _) (Nat.le_refl _) _ _))
end Go.Proofs.Ytlhkhgkgjdfcgaa
