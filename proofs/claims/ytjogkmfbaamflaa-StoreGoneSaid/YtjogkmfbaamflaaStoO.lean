/-
  Memories (layer 11): Unset, Drop; Put and Move on a dead object; Part.
-/
import Derived.Test.YtjogkmfbaamflaaStoK
import Derived.Outline
namespace Go.Proofs.Ytjogkmfbaamflaa
open Go.RowKit
set_option linter.unusedVariables false
set_option linter.unusedSimpArgs false
set_option maxHeartbeats 1000000 in
theorem unset_of {w : World} {sb ob : Nat} {C : Option Ch} {bs : List BC} (h : MAt w sb ob C false bs) (hpos : 0 < bs.length) :
    Calls Try.prog 14 #[.pointer (some ⟨sb, 0, none⟩), .int .i64 1] w fun r w' => r = .returned (.int .i64 0) ∧ MAt w' sb ob none false (List.replicate bs.length bc0) ∧ Fr (fun j => j = ob) w w' := by
  have HL := Lib.hid (living_one h.s)
  have o0 := h.s.o0
  have o1 := h.s.o1
  have o2 := h.s.o2
  have f0 := h.s.of 0 (by decide)
  have f1 := h.s.of 1 (by decide)
  have f2 := h.s.of 2 (by decide)
  obtain ⟨n, hn⟩ : ∃ n, bs.length = n := ⟨_, rfl⟩
  rw [hn] at o0 ⊢
  have HE : Hid (MAt (((w.setCell ⟨ob, 0, none⟩ (.int .i64 n)).setCell ⟨ob, 1, none⟩ (.slice none 0 0)).setCell ⟨ob, 2, none⟩ (.map none)) sb ob none false (List.replicate n bc0) ∧ Fr (fun j => j = ob) w (((w.setCell ⟨ob, 0, none⟩ (.int .i64 n)).setCell ⟨ob, 1, none⟩ (.slice none 0 0)).setCell ⟨ob, 2, none⟩ (.map none))) := Lib.hid (by
    have hq : (fun j => j = ob) ob := rfl
    have hf : Fr (fun j => j = ob) w (((w.setCell ⟨ob, 0, none⟩ (.int .i64 n)).setCell ⟨ob, 1, none⟩ (.slice none 0 0)).setCell ⟨ob, 2, none⟩ (.map none)) := fr_setF (fr_setF (fr_setF (Fr.refl (fun j => j = ob) w) hq _ _) hq _ _) hq _ _
    obtain ⟨e0, e1, e2⟩ : (((w.setCell ⟨ob, 0, none⟩ (.int .i64 n)).setCell ⟨ob, 1, none⟩ (.slice none 0 0)).setCell ⟨ob, 2, none⟩ (.map none)).cell? ⟨ob, 0, none⟩ = some (.int .i64 n) ∧ (((w.setCell ⟨ob, 0, none⟩ (.int .i64 n)).setCell ⟨ob, 1, none⟩ (.slice none 0 0)).setCell ⟨ob, 2, none⟩ (.map none)).cell? ⟨ob, 1, none⟩ = some (.slice none 0 0) ∧ (((w.setCell ⟨ob, 0, none⟩ (.int .i64 n)).setCell ⟨ob, 1, none⟩ (.slice none 0 0)).setCell ⟨ob, 2, none⟩ (.map none)).cell? ⟨ob, 2, none⟩ = some (.map none) :=
      ⟨set_keep (set_keep (World.cell?_setCell_same _ _ _ o0) (by decide)) (by decide), set_keep (World.cell?_setCell_same _ _ _ (set_keep o1 (by decide))) (by decide), World.cell?_setCell_same _ _ _ (set_keep (set_keep o2 (by decide)) (by decide))⟩
    obtain ⟨cap, hs⟩ := h.s.s
    refine ⟨⟨⟨⟨cap, hf.cell hs h.s.ne⟩, by rw [List.length_replicate]; exact e0, e1, e2, set_keep (set_keep (set_keep h.s.o3 (by decide)) (by decide)) (by decide), (hf.frozen hs h.s.ne).trans h.s.sf, fun j hj => ?_, h.s.ne⟩, fun i hi => ?_, fun b hb => ?_⟩, hf⟩
    · rw [World.frozen?_setCell, World.frozen?_setCell, World.frozen?_setCell]; exact h.s.of j hj
    · rw [List.getD_eq_getElem?_getD, List.getElem?_eq_getElem hi, List.getElem_replicate]; rfl
    · obtain ⟨D, e, _⟩ := hb; cases e)
  clear h hn
  go_enter Try.func14, Try.ntmps14
  go_wp2_with (go_at_call 25; (with_reducible refine HL.out.mono ?_); rintro r w1 ⟨rfl, rfl⟩)
  go_ret
  exact ⟨rfl, HE.out⟩
set_option maxHeartbeats 1000000 in
theorem drop_of {w : World} {sb ob : Nat} {sz : Int} {ch : Value} (h : SAt w sb ob sz ch (.map none) false) :
    Calls Try.prog 15 #[.pointer (some ⟨sb, 0, none⟩), .int .i64 1] w fun r w' => r = .returned (.int .i64 0) ∧ SAt w' sb ob 0 (.slice none 0 0) (.map none) true ∧ Fr (fun j => j = ob) w w' := by
  have HL := Lib.hid (living_one h)
  have o0 := h.o0
  have o1 := h.o1
  have o2 := h.o2
  have o3 := h.o3
  have f0 := h.of 0 (by decide)
  have f1 := h.of 1 (by decide)
  have f2 := h.of 2 (by decide)
  have f3 := h.of 3 (by decide)
  obtain ⟨W, hW⟩ : ∃ W, W = ((((w.setCell ⟨ob, 0, none⟩ (.int .i64 0)).setCell ⟨ob, 1, none⟩ (.slice none 0 0)).setCell ⟨ob, 2, none⟩ (.map none)).setCell ⟨ob, 3, none⟩ (.bool true)) := ⟨_, rfl⟩
  have HE : Hid (SAt W sb ob 0 (.slice none 0 0) (.map none) true ∧ Fr (fun j => j = ob) w W) := Lib.hid (by
    have hq : (fun j => j = ob) ob := rfl
    have hf : Fr (fun j => j = ob) w W := by rw [hW]; exact fr_setF (fr_setF (fr_setF (fr_setF (Fr.refl (fun j => j = ob) w) hq _ _) hq _ _) hq _ _) hq _ _
    obtain ⟨e0, e1, e2, e3⟩ := set4' o0 o1 o2 o3 (.int .i64 0) (.slice none 0 0) (.map none) (.bool true)
    rw [← hW] at e0 e1 e2 e3
    obtain ⟨cap, hs⟩ := h.s
    refine ⟨⟨⟨cap, hf.cell hs h.ne⟩, e0, e1, e2, e3, (hf.frozen hs h.ne).trans h.sf, fun j hj => ?_, h.ne⟩, hf⟩
    rw [hW, World.frozen?_setCell, World.frozen?_setCell, World.frozen?_setCell, World.frozen?_setCell]; exact h.of j hj)
  rw [hW] at HE
  clear h hW
  go_enter Try.func15, Try.ntmps15
  go_wp2_with (go_at_call 25; (with_reducible refine HL.out.mono ?_); rintro r w1 ⟨rfl, rfl⟩)
  go_ret
  exact ⟨rfl, HE.out⟩
theorem drop_dead {w : World} {sb ob : Nat} {sz : Int} {ch mp : Value} (h : SAt w sb ob sz ch mp true) :
    Calls Try.prog 15 #[.pointer (some ⟨sb, 0, none⟩), .int .i64 1] w fun r w' => r = .returned (.int .i64 4) ∧ w = w' := by
  have HL := Lib.hid (living_one h)
  clear h
  go_enter Try.func15, Try.ntmps15
  go_wp2_with (go_at_call 25; (with_reducible refine HL.out.mono ?_); rintro r w1 ⟨rfl, rfl⟩)
  go_ret
  exact ⟨rfl, rfl⟩
set_option maxHeartbeats 1000000 in
theorem put_err {w : World} (sb : Nat) (a lo hi off n er u x0 x1 x2 x3 : Int) (he : er ≠ 0) (hst : (n == 4 || (n == 1 && !false)) = true)
    (HR : Hid (∀ W, Fr (fun _ => False) w W → Calls Try.prog 20 #[.pointer (some ⟨sb, 0, none⟩), .agg #[.int .i64 a, .int .i64 lo, .int .i64 hi, .int .i64 off], .int .i64 n] W fun r w' => r = .returned (.tuple #[.pointer none, .int .i64 er]) ∧ Fr (fun _ => False) W w')) :
    Calls Try.prog 10 #[.pointer (some ⟨sb, 0, none⟩), .agg #[.int .i64 a, .int .i64 lo, .int .i64 hi, .int .i64 off], .int .i64 n, .agg #[.int .u32 u, .int .i64 x0, .int .i64 x1, .int .i64 x2, .int .i64 x3, .bool false]] w fun r w' => r = .returned (.int .i64 er) ∧ Fr (fun _ => False) w w' := by
  have HF0 := Lib.hid (fr_al (fr_al (Fr.refl (fun _ => False) w) (.cells #[.int .i64 a, .int .i64 lo, .int .i64 hi, .int .i64 off] 24)) (.cells #[.int .u32 u, .int .i64 x0, .int .i64 x1, .int .i64 x2, .int .i64 x3, .bool false] 26))
  have HS : Hid (∀ W, Calls Try.prog 19 #[.int .i64 n, .bool false] W fun r w' => r = .returned (.bool true) ∧ W = w') := Lib.hid (fun W => by have := storable_of n false W; rw [hst] at this; exact this)
  have hb : (er != 0) = true := by rw [bne_iff_ne]; exact he
  clear hst he
  go_enter Try.func10, Try.ntmps10
  go_wp2_with (first
    | (go_at_call 19; (with_reducible refine (HS.out _).mono ?_); rintro r w1 ⟨rfl, rfl⟩)
    | (go_at_call 20; (with_reducible refine (HR.out _ HF0.out).mono ?_); rintro r w2 ⟨rfl, hf2⟩; have HF := Lib.hid (HF0.out.trans hf2); clear hf2))
  go_ret
  exact ⟨rfl, HF.out⟩
set_option maxHeartbeats 1000000 in
theorem move_dead {w : World} {sb ob : Nat} {sz : Int} {ch mp : Value} (h : SAt w sb ob sz ch mp true) (b c d n : Int) : Calls Try.prog 9 #[.pointer (some ⟨sb, 0, none⟩), .agg #[.int .i64 1, .int .i64 b, .int .i64 c, .int .i64 d], .int .i64 n] w fun r w' => r = .returned (.tuple #[.agg #[.int .i64 0, .int .i64 0, .int .i64 0, .int .i64 0], .int .i64 15]) ∧ Fr (fun _ => False) w w' := by
  have HB := boxes2 w #[.int .i64 1, .int .i64 b, .int .i64 c, .int .i64 d] #[.int .i64 0, .int .i64 0, .int .i64 0, .int .i64 0] 24 24
  have HP := Lib.hid (pointee_one (h.quiet (HB.out _ (Fr.refl _ _)).1) b c d)
  clear h
  go_enter Try.func9, Try.ntmps9
  go_wp2_with (go_at_call 18; (with_reducible refine HP.out.mono ?_); rintro r w1 ⟨rfl, hf⟩; have hb := HB.out _ hf; have HF := Lib.hid hb.1; obtain ⟨⟨x0, k0⟩, f0⟩ := hb.2.2.2 0 (by decide); obtain ⟨⟨x1, k1⟩, f1⟩ := hb.2.2.2 1 (by decide); obtain ⟨⟨x2, k2⟩, f2⟩ := hb.2.2.2 2 (by decide); obtain ⟨⟨x3, k3⟩, f3⟩ := hb.2.2.2 3 (by decide); clear hf hb)
  exact bodyPost_ret (v := .tuple #[.agg #[.int .i64 0, .int .i64 0, .int .i64 0, .int .i64 0], .int .i64 15]) (by simp [results, Try.results9, go_sem, set4' k0 k1 k2 k3]) rfl ⟨rfl, fr_set (fr_set (fr_set (fr_set HF.out (by omega) _ _) (by omega) _ _) (by omega) _ _) (by omega) _ _⟩
set_option maxHeartbeats 2000000 in
theorem part_ok {w : World} {sb ob : Nat} {sz : Int} {ch mp : Value} (h : SAt w sb ob sz ch mp false) (lo hi off at_ size : Int) (h0 : 0 ≤ off ∧ off ≤ hi ∧ hi ≤ 100000) (h1 : 0 ≤ at_ ∧ 1 ≤ size) (h2 : at_ + size ≤ hi - off) :
    Calls Try.prog 13 #[.pointer (some ⟨sb, 0, none⟩), .agg #[.int .i64 1, .int .i64 lo, .int .i64 hi, .int .i64 off], .int .i64 at_, .int .i64 size] w fun r w' => r = .returned (.tuple #[.agg #[.int .i64 1, .int .i64 (off + at_), .int .i64 (off + at_ + size), .int .i64 (off + at_)], .int .i64 0]) ∧ Fr (fun _ => False) w w' := by
  have HB := boxes2 w #[.int .i64 1, .int .i64 lo, .int .i64 hi, .int .i64 off] #[.int .i64 0, .int .i64 0, .int .i64 0, .int .i64 0] 24 24
  have HP := Lib.hid (pointee_one (h.quiet (HB.out _ (Fr.refl _ _)).1) lo hi off)
  have d0 : decide (at_ < 0) = false := decide_eq_false (by omega)
  have d1 : decide (size < 1) = false := decide_eq_false (by omega)
  have d2 : decide (hi < off) = false := decide_eq_false (by omega)
  have d3 : decide (hi - off < at_ + size) = false := decide_eq_false (by omega)
  clear h
  go_enter Try.func13, Try.ntmps13
  go_wp2_with (go_at_call 18; (with_reducible refine HP.out.mono ?_); rintro r w1 ⟨rfl, hf⟩; have hb := HB.out _ hf; have HF := Lib.hid hb.1; have p0 := hb.2.2.1 0 _ rfl; have p1 := hb.2.2.1 1 _ rfl; have p2 := hb.2.2.1 2 _ rfl; have p3 := hb.2.2.1 3 _ rfl; obtain ⟨⟨x0, k0⟩, f0⟩ := hb.2.2.2 0 (by decide); obtain ⟨⟨x1, k1⟩, f1⟩ := hb.2.2.2 1 (by decide); obtain ⟨⟨x2, k2⟩, f2⟩ := hb.2.2.2 2 (by decide); obtain ⟨⟨x3, k3⟩, f3⟩ := hb.2.2.2 3 (by decide); clear hf hb)
  exact bodyPost_ret (v := .tuple #[.agg #[.int .i64 1, .int .i64 (off + at_), .int .i64 (off + at_ + size), .int .i64 (off + at_)], .int .i64 0]) (by simp [results, Try.results13, go_sem, set4' k0 k1 k2 k3]) rfl ⟨rfl, fr_set (fr_set (fr_set (fr_set HF.out (by omega) _ _) (by omega) _ _) (by omega) _ _) (by omega) _ _⟩
end Go.Proofs.Ytjogkmfbaamflaa
