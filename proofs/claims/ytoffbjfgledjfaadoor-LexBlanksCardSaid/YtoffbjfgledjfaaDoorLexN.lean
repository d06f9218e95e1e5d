/-
  Tokens (layer 7): a text whose first token is none; a text that is too long.
-/
import Derived.Test.YtoffbjfgledjfaaDoorLexM
namespace Go.Proofs.YtoffbjfgledjfaaDoor
open Go.RowKit
set_option linter.unusedVariables false
set_option linter.unusedSimpArgs false
set_option maxRecDepth 100000 in
set_option maxHeartbeats 8000000 in
theorem lex_err (s : ByteArray) (er : Int) (hs : s.size ≤ 65536) (hr : (er != 0) = true)
    (HE : ∀ r p q W, SSt r p q s 1 1 W → Calls Tryd.prog 15 #[.pointer (some ⟨r, 0, none⟩), .pointer (some ⟨p, 0, none⟩), .pointer (some ⟨q, 0, none⟩)] W fun e w' => e = .returned (.tuple #[.agg #[.int .i64 0, .string ⟨#[]⟩, .int .u32 0, .int .i64 1, .int .i64 1], .int .i64 er]) ∧ Fr (fun k => k = r ∨ k = p) W w') (w : World) :
    Calls Tryd.prog 6 #[.string s] w fun e w' => e = .returned (.tuple #[.slice none 0 0, .agg #[.int .i64 1, .int .i64 1], .int .i64 er]) ∧ Fr (fun _ => False) w w' := by
  have HEE := Lib.hid HE
  have t1 : ¬ (65536 : Int) < s.size := by omega
  clear HE
  go_enter Tryd.func6, Tryd.ntmps6
  go_wp2_with (go_at_call 9; (with_reducible refine (scan_new s _).mono ?_); rintro e W ⟨r, p, q, rfl, h, hf, hr, hp, hq⟩; have HS := Lib.hid h; have HF := Lib.hid hf; have HR := Lib.hid (show w.heap.size + 1 ≤ r ∧ w.heap.size + 1 ≤ p ∧ w.heap.size + 1 ≤ q by simp at hr hp hq; exact ⟨hr, hp, hq⟩); clear h hf hr hp hq)
  go_loopw [6] (fun v wr => wr = W) (fun v _ => 0)
  case atStart => rfl
  case round =>
    subst hrel
    have HEm := Lib.hid (HEE.out r p q _ HS.out)
    have HP : Hid (∀ W2, Fr (fun k => k = r ∨ k = p) wr W2 → ∀ j, j < 2 → (∃ y, W2.cell? ⟨w.heap.size, j, none⟩ = some y) ∧ W2.frozen? ⟨w.heap.size, j, none⟩ = false) := Lib.hid (fun W2 h2 j hj => by
      have f2 := ((HF.out.mono (G := fun k => k = r ∨ k = p) (fun _ _ e => e.elim)).trans h2)
      have hc : ∃ y, (w.alloc (.cells #[.int .i64 0, .int .i64 0] 25)).cell? ⟨w.heap.size, j, none⟩ = some y := ⟨_, fcell w _ _ j _ (Array.getElem?_eq_getElem (by simpa using hj))⟩
      have hn : ¬ (w.heap.size = r ∨ w.heap.size = p) := by have := HR.out; omega
      exact ⟨hc.elim fun y hy => ⟨y, f2.cell hy hn⟩, hc.elim fun y hy => (f2.frozen hy hn).trans (World.frozen?_alloc_new _ _ _ _)⟩)
    go_wp2_with (go_at_call 15; (with_reducible refine HEm.out.mono ?_); rintro e w4 ⟨rfl, hf4⟩; have F4 := Lib.hid hf4; have hP : ∀ cs t, Fr (fun k => k = r ∨ k = p) wr (w4.alloc (.cells cs t)) := (fun cs t => hf4.trans ((fr_al (Fr.refl (fun _ => False) w4) (.cells cs t)).mono (fun _ _ e => e.elim))); have hq := HP.out _ (hP #[.int .i64 0, .string ⟨#[]⟩, .int .u32 0, .int .i64 1, .int .i64 1] 32); obtain ⟨⟨b0, k0⟩, f0⟩ := hq 0 (by decide); obtain ⟨⟨b1, k1⟩, f1⟩ := hq 1 (by decide); clear hf4 hq hP)
    go_region
    all_goals go_wp2
    all_goals refine bodyPost_ret (v := .tuple #[.slice none 0 0, .agg #[.int .i64 1, .int .i64 1], .int .i64 er]) (by simp [results, Tryd.results6, go_sem, set2L k0 k1]; try rfl) rfl ⟨rfl, ?_⟩
    all_goals exact ((((fr_al (Fr.refl (fun _ => False) w) _).trans HF.out).mono (G := fun k => False) (fun _ _ e => e)).trans' F4.out (fun j hj e => by have := HR.out; omega)).trans' (fr_fin w4 w.heap.size _ _ _) (fun j hj e => by omega)
set_option maxRecDepth 100000 in
theorem lex_long (s : ByteArray) (hs : 65536 < s.size) (w : World) :
    Calls Tryd.prog 6 #[.string s] w fun e w' => e = .returned (.tuple #[.slice none 0 0, .agg #[.int .i64 1, .int .i64 1], .int .i64 2]) ∧ Fr (fun _ => False) w w' := by
  have t1 : (65536 : Int) < s.size := by omega
  have HP : Hid (∀ W2, Fr (fun _ => False) (w.alloc (.cells #[.int .i64 0, .int .i64 0] 25)) W2 → ∀ j, j < 2 → (∃ y, W2.cell? ⟨w.heap.size, j, none⟩ = some y) ∧ W2.frozen? ⟨w.heap.size, j, none⟩ = false) := Lib.hid (fun W2 h2 j hj => by
    have hc : ∃ y, (w.alloc (.cells #[.int .i64 0, .int .i64 0] 25)).cell? ⟨w.heap.size, j, none⟩ = some y := ⟨_, fcell w _ _ j _ (Array.getElem?_eq_getElem (by simpa using hj))⟩
    exact ⟨hc.elim fun y hy => ⟨y, h2.cell hy id⟩, hc.elim fun y hy => (h2.frozen hy id).trans (World.frozen?_alloc_new _ _ _ _)⟩)
  go_enter Tryd.func6, Tryd.ntmps6
  go_wp2_with (go_at_call 8; (with_reducible refine (c8 _).mono ?_); rintro e w4 ⟨rfl, hf4⟩; have F4 := Lib.hid hf4; have hq := HP.out _ hf4; obtain ⟨⟨b0, k0⟩, f0⟩ := hq 0 (by decide); obtain ⟨⟨b1, k1⟩, f1⟩ := hq 1 (by decide); clear hf4 hq)
  refine bodyPost_ret (v := .tuple #[.slice none 0 0, .agg #[.int .i64 1, .int .i64 1], .int .i64 2]) (by simp [results, Tryd.results6, go_sem, set2L k0 k1]; try rfl) rfl ⟨rfl, ?_⟩
  exact fr_set (fr_set ((fr_al (Fr.refl _ w) _).trans F4.out) (Nat.le_refl _) _ _) (Nat.le_refl _) _ _
end Go.Proofs.YtoffbjfgledjfaaDoor
