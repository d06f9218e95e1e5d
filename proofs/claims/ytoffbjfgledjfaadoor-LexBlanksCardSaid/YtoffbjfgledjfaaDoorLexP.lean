/-
  Tokens (layer 7): the page's examples, as the laws ask for them.
-/
import Derived.Test.YtoffbjfgledjfaaDoorLexO
namespace Go.Proofs.YtoffbjfgledjfaaDoor
open Go.RowKit
set_option linter.unusedVariables false
set_option linter.unusedSimpArgs false
theorem row_own {w : World} {b n : Nat} {e : TypeId} {sz : Nat} {v : Value} {xs : List Value} (h : w.ownsRow b e sz v n xs) (hn : 0 < n) : ∃ g c, v = .slice (some ⟨g, 0, none⟩) n c ∧ ∀ j u, xs[j]? = some u → w.cell? ⟨g, j, none⟩ = some u := by
  rcases h.2 with ⟨_, h0⟩ | ⟨g, cap, cur, rfl, _, hg, hc, _, hs, ht⟩
  · omega
  · refine ⟨g, cap, rfl, fun j u hj => ?_⟩
    rw [cell_of_row _ _ _ cur e (0, 0) hg]
    rw [← ht, List.getElem?_take] at hj
    split at hj
    · simpa using hj
    · cases hj
theorem lexA (w : World) : Calls Tryd.prog 6 #[.string ⟨#[97, 43, 61, 48, 120, 49, 70, 59, 32, 47, 47, 32, 101, 110, 100]⟩] w fun e w' => ∃ g c, e = .returned (.tuple #[.slice (some ⟨g, 0, none⟩) 4 c, .agg #[.int .i64 1, .int .i64 16], .int .i64 0]) ∧ w'.cell? ⟨g, 6, none⟩ = some (.string ⟨#[43, 61]⟩) ∧ w'.cell? ⟨g, 12, none⟩ = some (.int .u32 31) ∧ Fr (fun _ => False) w w' :=
  (lex_ex1 w).mono fun e w' ⟨v, he, ho, hf⟩ => by
    obtain ⟨g, c, rfl, hc⟩ := row_own ho (by decide)
    exact ⟨g, c, he, hc 6 _ rfl, hc 12 _ rfl, hf⟩
theorem lexB (w : World) : Calls Tryd.prog 6 #[.string ⟨#[39, 97, 39]⟩] w fun e w' => ∃ g c, e = .returned (.tuple #[.slice (some ⟨g, 0, none⟩) 1 c, .agg #[.int .i64 1, .int .i64 4], .int .i64 0]) ∧ w'.cell? ⟨g, 2, none⟩ = some (.int .u32 97) ∧ Fr (fun _ => False) w w' :=
  (lex_ex2 w).mono fun e w' ⟨v, he, ho, hf⟩ => by
    obtain ⟨g, c, rfl, hc⟩ := row_own ho (by decide)
    exact ⟨g, c, he, hc 2 _ rfl, hf⟩
theorem lexC (w : World) : Calls Tryd.prog 6 #[.string ⟨#[48, 56, 97]⟩] w fun e w' => e = .returned (.tuple #[.slice none 0 0, .agg #[.int .i64 1, .int .i64 1], .int .i64 3]) ∧ Fr (fun _ => False) w w' := lex_ex3 w
set_option maxRecDepth 100000 in
set_option maxHeartbeats 4000000 in
theorem awake_of (w : World) : Calls Tryd.prog 5 #[] w fun e w' => e = .returned (.bool true) ∧ Fr (fun _ => False) w w' := by
  go_enter Tryd.func5, Tryd.ntmps5
  go_wp2_with (go_at_call 6; first
    | ((with_reducible refine (lexA _).mono ?_); rintro e w1 ⟨g1, c1, rfl, k1, k2, hf⟩; have F1 := Lib.hid hf; clear hf)
    | ((with_reducible refine (lexB _).mono ?_); rintro e w2 ⟨g2, c2, rfl, k3, hf⟩; have F2 := Lib.hid hf; have l1 := hf.cell ((fr_al (Fr.refl (fun _ => False) w1) _).cell k1 id) id; have l2 := hf.cell ((fr_al (Fr.refl (fun _ => False) w1) _).cell k2 id) id; clear hf)
    | ((with_reducible refine (lexC _).mono ?_); rintro e w3 ⟨rfl, hf⟩; have F3 := Lib.hid hf; have m1 := (fun cs t => (fr_al (Fr.refl (fun _ => False) w3) (.cells cs t)).cell (hf.cell ((fr_al (Fr.refl (fun _ => False) w2) _).cell l1 id) id) id); have m2 := (fun cs t => (fr_al (Fr.refl (fun _ => False) w3) (.cells cs t)).cell (hf.cell ((fr_al (Fr.refl (fun _ => False) w2) _).cell l2 id) id) id); have m3 := (fun cs t => (fr_al (Fr.refl (fun _ => False) w3) (.cells cs t)).cell (hf.cell ((fr_al (Fr.refl (fun _ => False) w2) _).cell k3 id) id) id); clear hf))
  go_ret
  exact ⟨rfl, fr_al (((fr_al (((fr_al F1.out _)).trans F2.out) _)).trans F3.out) _⟩
end Go.Proofs.YtoffbjfgledjfaaDoor
