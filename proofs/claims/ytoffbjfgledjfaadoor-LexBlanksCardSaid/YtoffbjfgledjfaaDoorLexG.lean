/-
  Tokens (layer 7): what the page's examples begin with.
-/
import Derived.Test.YtoffbjfgledjfaaDoorLexF
namespace Go.Proofs.YtoffbjfgledjfaaDoor
open Go.RowKit
set_option linter.unusedVariables false
set_option linter.unusedSimpArgs false
theorem set5' {w : World} {g : Nat} {x0 x1 x2 x3 x4 : Value} (b0 : w.cell? ⟨g, 0, none⟩ = some x0) (b1 : w.cell? ⟨g, 1, none⟩ = some x1) (b2 : w.cell? ⟨g, 2, none⟩ = some x2) (b3 : w.cell? ⟨g, 3, none⟩ = some x3) (b4 : w.cell? ⟨g, 4, none⟩ = some x4) (v0 v1 v2 v3 v4 : Value) :
    (((((w.setCell ⟨g, 0, none⟩ v0).setCell ⟨g, 1, none⟩ v1).setCell ⟨g, 2, none⟩ v2).setCell ⟨g, 3, none⟩ v3).setCell ⟨g, 4, none⟩ v4).cell? ⟨g, 0, none⟩ = some v0 ∧
    (((((w.setCell ⟨g, 0, none⟩ v0).setCell ⟨g, 1, none⟩ v1).setCell ⟨g, 2, none⟩ v2).setCell ⟨g, 3, none⟩ v3).setCell ⟨g, 4, none⟩ v4).cell? ⟨g, 1, none⟩ = some v1 ∧
    (((((w.setCell ⟨g, 0, none⟩ v0).setCell ⟨g, 1, none⟩ v1).setCell ⟨g, 2, none⟩ v2).setCell ⟨g, 3, none⟩ v3).setCell ⟨g, 4, none⟩ v4).cell? ⟨g, 2, none⟩ = some v2 ∧
    (((((w.setCell ⟨g, 0, none⟩ v0).setCell ⟨g, 1, none⟩ v1).setCell ⟨g, 2, none⟩ v2).setCell ⟨g, 3, none⟩ v3).setCell ⟨g, 4, none⟩ v4).cell? ⟨g, 3, none⟩ = some v3 ∧
    (((((w.setCell ⟨g, 0, none⟩ v0).setCell ⟨g, 1, none⟩ v1).setCell ⟨g, 2, none⟩ v2).setCell ⟨g, 3, none⟩ v3).setCell ⟨g, 4, none⟩ v4).cell? ⟨g, 4, none⟩ = some v4 := by
  refine ⟨?_, ?_, ?_, ?_, ?_⟩
  · exact set_keep (set_keep (set_keep (set_keep (World.cell?_setCell_same _ _ _ b0) (by decide)) (by decide)) (by decide)) (by decide)
  · exact set_keep (set_keep (set_keep (World.cell?_setCell_same _ _ _ (set_keep b1 (by decide))) (by decide)) (by decide)) (by decide)
  · exact set_keep (set_keep (World.cell?_setCell_same _ _ _ (set_keep (set_keep b2 (by decide)) (by decide))) (by decide)) (by decide)
  · exact set_keep (World.cell?_setCell_same _ _ _ (set_keep (set_keep (set_keep b3 (by decide)) (by decide)) (by decide))) (by decide)
  · exact World.cell?_setCell_same _ _ _ (set_keep (set_keep (set_keep (set_keep b4 (by decide)) (by decide)) (by decide)) (by decide))

theorem blk5 {w W : World} (h : Fr (fun _ => False) (w.alloc (.cells #[.int .i64 0, .string ⟨#[]⟩, .int .u32 0, .int .i64 0, .int .i64 0] 32)) W) : ∀ j, j < 5 → (∃ y, W.cell? ⟨w.heap.size, j, none⟩ = some y) ∧ W.frozen? ⟨w.heap.size, j, none⟩ = false := fun j hj => by
  have hc : ∃ y, (w.alloc (.cells #[.int .i64 0, .string ⟨#[]⟩, .int .u32 0, .int .i64 0, .int .i64 0] 32)).cell? ⟨w.heap.size, j, none⟩ = some y := ⟨_, fcell w _ _ j _ (Array.getElem?_eq_getElem (by simpa using hj))⟩
  exact ⟨hc.elim fun y hy => ⟨y, h.cell hy id⟩, hc.elim fun y hy => (h.frozen hy id).trans (World.frozen?_alloc_new _ _ _ _)⟩
theorem fr_set5 {w w2 : World} (h : Fr (fun _ => False) w w2) {b : Nat} (hb : w.heap.size ≤ b) (v0 v1 v2 v3 v4 : Value) : Fr (fun _ => False) w (((((w2.setCell ⟨b, 0, none⟩ v0).setCell ⟨b, 1, none⟩ v1).setCell ⟨b, 2, none⟩ v2).setCell ⟨b, 3, none⟩ v3).setCell ⟨b, 4, none⟩ v4) :=
  fr_set (fr_set (fr_set (fr_set (fr_set h hb _ _) hb _ _) hb _ _) hb _ _) hb _ _
set_option maxRecDepth 100000 in
set_option maxHeartbeats 4000000 in
theorem token_let (s : ByteArray) (h0 : 0 < s.size) (hc : letB ((s[0]'h0).toNat : Int) = true) (k : Int) (t : List UInt8) (n er : Int) (H : ∀ w, Calls Tryd.prog 26 #[.string s] w (TokP k t n er w)) (w : World) :
    Calls Tryd.prog 17 #[.string s] w (TokP k t n er w) := by
  have t0 : (0 : Int) < s.size := by omega
  have HC := Lib.hid (c25 ((s[0]'h0).toNat : Int))
  rw [hc] at HC
  clear hc
  have HH : Hid (∀ w, Calls Tryd.prog 26 #[.string s] w fun e w' => e = .returned (.tuple #[.agg #[.int .i64 k, .string ⟨t.toArray⟩, .int .u32 n, .int .i64 0, .int .i64 0], .int .i64 er]) ∧ Fr (fun _ => False) w w') := Lib.hid H
  have HR := Lib.hid (fun (w' : World) (h : Fr (fun _ => False) w w') => (show TokP k t n er w (.returned (.tuple #[.agg #[.int .i64 k, .string ⟨t.toArray⟩, .int .u32 n, .int .i64 0, .int .i64 0], .int .i64 er])) w' from ⟨rfl, h⟩))
  clear H
  go_enter Tryd.func17, Tryd.ntmps17
  go_wp2_with first | (go_at_call 25; (with_reducible refine (HC.out _).mono ?_); rintro e w' ⟨rfl, rfl⟩) | (go_at_call 27; (with_reducible refine (HD.out _).mono ?_); rintro e w' ⟨rfl, rfl⟩) | (go_at_call 26; (with_reducible refine (HH.out _).mono ?_); rintro e w2 ⟨rfl, hf⟩; have HF := Lib.hid hf; obtain ⟨⟨b0, k0⟩, f0⟩ := blk5 hf 0 (by decide); obtain ⟨⟨b1, k1⟩, f1⟩ := blk5 hf 1 (by decide); obtain ⟨⟨b2, k2⟩, f2⟩ := blk5 hf 2 (by decide); obtain ⟨⟨b3, k3⟩, f3⟩ := blk5 hf 3 (by decide); obtain ⟨⟨b4, k4⟩, f4⟩ := blk5 hf 4 (by decide); clear hf)
  exact bodyPost_ret (v := .tuple #[.agg #[.int .i64 k, .string ⟨t.toArray⟩, .int .u32 n, .int .i64 0, .int .i64 0], .int .i64 er]) (by simp [results, Tryd.results17, go_sem, set5' k0 k1 k2 k3 k4]) rfl (HR.out _ (fr_set5 ((fr_al (Fr.refl _ _) _).trans HF.out) (Nat.le_refl _) _ _ _ _ _))
set_option maxRecDepth 100000 in
set_option maxHeartbeats 4000000 in
theorem token_dig (s : ByteArray) (h0 : 0 < s.size) (hc : letB ((s[0]'h0).toNat : Int) = false) (hd : digB ((s[0]'h0).toNat : Int) = true) (k : Int) (t : List UInt8) (n er : Int) (H : ∀ w, Calls Tryd.prog 28 #[.string s] w (TokP k t n er w)) (w : World) :
    Calls Tryd.prog 17 #[.string s] w (TokP k t n er w) := by
  have t0 : (0 : Int) < s.size := by omega
  have HC := Lib.hid (c25 ((s[0]'h0).toNat : Int))
  rw [hc] at HC
  clear hc
  have HD := Lib.hid (c27 ((s[0]'h0).toNat : Int))
  rw [hd] at HD
  clear hd
  have HH : Hid (∀ w, Calls Tryd.prog 28 #[.string s] w fun e w' => e = .returned (.tuple #[.agg #[.int .i64 k, .string ⟨t.toArray⟩, .int .u32 n, .int .i64 0, .int .i64 0], .int .i64 er]) ∧ Fr (fun _ => False) w w') := Lib.hid H
  have HR := Lib.hid (fun (w' : World) (h : Fr (fun _ => False) w w') => (show TokP k t n er w (.returned (.tuple #[.agg #[.int .i64 k, .string ⟨t.toArray⟩, .int .u32 n, .int .i64 0, .int .i64 0], .int .i64 er])) w' from ⟨rfl, h⟩))
  clear H
  go_enter Tryd.func17, Tryd.ntmps17
  go_wp2_with first | (go_at_call 25; (with_reducible refine (HC.out _).mono ?_); rintro e w' ⟨rfl, rfl⟩) | (go_at_call 27; (with_reducible refine (HD.out _).mono ?_); rintro e w' ⟨rfl, rfl⟩) | (go_at_call 28; (with_reducible refine (HH.out _).mono ?_); rintro e w2 ⟨rfl, hf⟩; have HF := Lib.hid hf; obtain ⟨⟨b0, k0⟩, f0⟩ := blk5 hf 0 (by decide); obtain ⟨⟨b1, k1⟩, f1⟩ := blk5 hf 1 (by decide); obtain ⟨⟨b2, k2⟩, f2⟩ := blk5 hf 2 (by decide); obtain ⟨⟨b3, k3⟩, f3⟩ := blk5 hf 3 (by decide); obtain ⟨⟨b4, k4⟩, f4⟩ := blk5 hf 4 (by decide); clear hf)
  exact bodyPost_ret (v := .tuple #[.agg #[.int .i64 k, .string ⟨t.toArray⟩, .int .u32 n, .int .i64 0, .int .i64 0], .int .i64 er]) (by simp [results, Tryd.results17, go_sem, set5' k0 k1 k2 k3 k4]) rfl (HR.out _ (fr_set5 ((fr_al (Fr.refl _ _) _).trans HF.out) (Nat.le_refl _) _ _ _ _ _))
set_option maxRecDepth 100000 in
set_option maxHeartbeats 4000000 in
theorem token_chr (s : ByteArray) (h0 : 0 < s.size) (hc : letB ((s[0]'h0).toNat : Int) = false) (hd : digB ((s[0]'h0).toNat : Int) = false) (hq : (((s[0]'h0).toNat : Int) == 39) = true) (k : Int) (t : List UInt8) (n er : Int) (H : ∀ w, Calls Tryd.prog 29 #[.string s] w (TokP k t n er w)) (w : World) :
    Calls Tryd.prog 17 #[.string s] w (TokP k t n er w) := by
  have t0 : (0 : Int) < s.size := by omega
  have HC := Lib.hid (c25 ((s[0]'h0).toNat : Int))
  rw [hc] at HC
  clear hc
  have HD := Lib.hid (c27 ((s[0]'h0).toNat : Int))
  rw [hd] at HD
  clear hd
  have HH : Hid (∀ w, Calls Tryd.prog 29 #[.string s] w fun e w' => e = .returned (.tuple #[.agg #[.int .i64 k, .string ⟨t.toArray⟩, .int .u32 n, .int .i64 0, .int .i64 0], .int .i64 er]) ∧ Fr (fun _ => False) w w') := Lib.hid H
  have HR := Lib.hid (fun (w' : World) (h : Fr (fun _ => False) w w') => (show TokP k t n er w (.returned (.tuple #[.agg #[.int .i64 k, .string ⟨t.toArray⟩, .int .u32 n, .int .i64 0, .int .i64 0], .int .i64 er])) w' from ⟨rfl, h⟩))
  clear H
  go_enter Tryd.func17, Tryd.ntmps17
  go_wp2_with first | (go_at_call 25; (with_reducible refine (HC.out _).mono ?_); rintro e w' ⟨rfl, rfl⟩) | (go_at_call 27; (with_reducible refine (HD.out _).mono ?_); rintro e w' ⟨rfl, rfl⟩) | (go_at_call 29; (with_reducible refine (HH.out _).mono ?_); rintro e w2 ⟨rfl, hf⟩; have HF := Lib.hid hf; obtain ⟨⟨b0, k0⟩, f0⟩ := blk5 hf 0 (by decide); obtain ⟨⟨b1, k1⟩, f1⟩ := blk5 hf 1 (by decide); obtain ⟨⟨b2, k2⟩, f2⟩ := blk5 hf 2 (by decide); obtain ⟨⟨b3, k3⟩, f3⟩ := blk5 hf 3 (by decide); obtain ⟨⟨b4, k4⟩, f4⟩ := blk5 hf 4 (by decide); clear hf)
  exact bodyPost_ret (v := .tuple #[.agg #[.int .i64 k, .string ⟨t.toArray⟩, .int .u32 n, .int .i64 0, .int .i64 0], .int .i64 er]) (by simp [results, Tryd.results17, go_sem, set5' k0 k1 k2 k3 k4]) rfl (HR.out _ (fr_set5 ((fr_al (Fr.refl _ _) _).trans HF.out) (Nat.le_refl _) _ _ _ _ _))
set_option maxRecDepth 100000 in
set_option maxHeartbeats 4000000 in
theorem token_sym (s : ByteArray) (h0 : 0 < s.size) (hc : letB ((s[0]'h0).toNat : Int) = false) (hd : digB ((s[0]'h0).toNat : Int) = false) (hq : (((s[0]'h0).toNat : Int) == 39) = false) (k : Int) (t : List UInt8) (n er : Int) (H : ∀ w, Calls Tryd.prog 30 #[.string s] w (TokP k t n er w)) (w : World) :
    Calls Tryd.prog 17 #[.string s] w (TokP k t n er w) := by
  have t0 : (0 : Int) < s.size := by omega
  have HC := Lib.hid (c25 ((s[0]'h0).toNat : Int))
  rw [hc] at HC
  clear hc
  have HD := Lib.hid (c27 ((s[0]'h0).toNat : Int))
  rw [hd] at HD
  clear hd
  have HH : Hid (∀ w, Calls Tryd.prog 30 #[.string s] w fun e w' => e = .returned (.tuple #[.agg #[.int .i64 k, .string ⟨t.toArray⟩, .int .u32 n, .int .i64 0, .int .i64 0], .int .i64 er]) ∧ Fr (fun _ => False) w w') := Lib.hid H
  have HR := Lib.hid (fun (w' : World) (h : Fr (fun _ => False) w w') => (show TokP k t n er w (.returned (.tuple #[.agg #[.int .i64 k, .string ⟨t.toArray⟩, .int .u32 n, .int .i64 0, .int .i64 0], .int .i64 er])) w' from ⟨rfl, h⟩))
  clear H
  go_enter Tryd.func17, Tryd.ntmps17
  go_wp2_with first | (go_at_call 25; (with_reducible refine (HC.out _).mono ?_); rintro e w' ⟨rfl, rfl⟩) | (go_at_call 27; (with_reducible refine (HD.out _).mono ?_); rintro e w' ⟨rfl, rfl⟩) | (go_at_call 30; (with_reducible refine (HH.out _).mono ?_); rintro e w2 ⟨rfl, hf⟩; have HF := Lib.hid hf; obtain ⟨⟨b0, k0⟩, f0⟩ := blk5 hf 0 (by decide); obtain ⟨⟨b1, k1⟩, f1⟩ := blk5 hf 1 (by decide); obtain ⟨⟨b2, k2⟩, f2⟩ := blk5 hf 2 (by decide); obtain ⟨⟨b3, k3⟩, f3⟩ := blk5 hf 3 (by decide); obtain ⟨⟨b4, k4⟩, f4⟩ := blk5 hf 4 (by decide); clear hf)
  exact bodyPost_ret (v := .tuple #[.agg #[.int .i64 k, .string ⟨t.toArray⟩, .int .u32 n, .int .i64 0, .int .i64 0], .int .i64 er]) (by simp [results, Tryd.results17, go_sem, set5' k0 k1 k2 k3 k4]) rfl (HR.out _ (fr_set5 ((fr_al (Fr.refl _ _) _).trans HF.out) (Nat.le_refl _) _ _ _ _ _))
end Go.Proofs.YtoffbjfgledjfaaDoor
