/-
  Items (layer 5): the contract of instructions, for all items but jumps.
-/
import Derived.Test.YtnjlcimeaoedcaaQAsmR
import Derived.Test.YtnjlcimeaoedcaaQAsmPa
import Derived.Test.YtnjlcimeaoedcaaQAsmW
namespace Go.Proofs.Ytnjlcimeaoedcaa
open Go.RowKit
set_option linter.unusedVariables false
set_option linter.unusedSimpArgs false
/-- A placement lies in memory. -/
structure PlW (l : List It) (goals : List Int) (F : Nat → Bool) (a : Option Addr) (gg gs ga n : Nat) (w : World) : Prop where
  hn : n = l.length
  few : n ≤ 32768
  fit : Fit l
  gl : goals.length = n
  go : Goals goals n
  its : ∃ B, ItAt B w a l
  rg : IRow 0 w gg goals
  rs : IRow 0 w gs (szF l F)
  ra : IRow 0 w ga (atK (szF l F))
theorem PlW.fr {l : List It} {goals : List Int} {F : Nat → Bool} {a : Option Addr} {gg gs ga n : Nat} {w w' : World} (h : PlW l goals F a gg gs ga n w) (hf : Fr (fun _ => False) w w') : PlW l goals F a gg gs ga n w' := by
  obtain ⟨B, hB⟩ := h.its
  exact ⟨h.hn, h.few, h.fit, h.gl, h.go, ⟨B, hB.fr hf (fun _ h => h.elim)⟩, h.rg.fr hf id, h.rs.fr hf id, h.ra.fr hf id⟩
theorem off_in {goals s : List Int} {n k : Nat} (hz : Sizes s) (hn : s.length = n) (hfew : n ≤ 32768) (hgo : Goals goals n) (hk : k < n) : -1000000 ≤ offK goals s k ∧ offK goals s k ≤ 1000000 := by
  obtain ⟨t, ht, e⟩ := hgo k hk
  rw [reach_is e]
  have := at_in hz hn hfew ht
  have := at_in hz hn hfew hk
  omega
theorem off_call {l : List It} {goals : List Int} {F : Nat → Bool} {a : Option Addr} {gg gs ga n : Nat} {w : World} (h : PlW l goals F a gg gs ga n w) {k : Nat} (hk : k < n) (si ss : Value) :
    Hid (∀ w3, Fr (fun _ => False) w w3 → Calls Try.prog 67 #[.agg #[si, .slice (some ⟨gg, 0, none⟩) n n, ss, .slice (some ⟨ga, 0, none⟩) n n], .int .i64 k] w3 fun e w4 => e = .returned (.int .i64 (offK goals (szF l F) k)) ∧ Fr (fun _ => False) w3 w4) := Lib.hid (fun w3 hf => by
  obtain ⟨t, ht, e⟩ := h.go k hk
  have hsn : (szF l F).length = n := by rw [szF_len]; exact h.hn.symm
  have han : (atK (szF l F)).length = n := by rw [atK_len]; exact hsn
  have x := at_in (szF_in l F) hsn h.few ht
  have y := at_in (szF_in l F) hsn h.few hk
  have c1 := ((h.rg.fr hf id).cell (k := k) (by rw [h.gl]; exact hk))
  rw [e] at c1
  rw [reach_is e]
  exact c67 si ss gg ga n k t _ _ hk ht (by have := h.few; omega) x.1 x.2 y.1 y.2 w3 c1 ((h.ra.fr hf id).cell (by rw [han]; exact ht)) ((h.ra.fr hf id).cell (by rw [han]; exact hk)))
theorem some_cell {w : World} {a : Option Addr} {n c : Nat} {g o : Nat} (h : a = some ⟨g, o, none⟩) : (Value.slice a n c) = .slice (some ⟨g, o, none⟩) n c := by rw [h]
theorem ins_any {l : List It} {goals : List Int} {F : Nat → Bool} {a : Option Addr} {gg gs ga n : Nat} {w : World} (c : Nat) (h : PlW l goals F a gg gs ga n w) {k : Nat} (hk : k < n) (h4 : (l.getD k it0).k ≠ 4) :
    Calls Try.prog 44 #[.agg #[.slice a n c, .slice (some ⟨gg, 0, none⟩) n n, .slice (some ⟨gs, 0, none⟩) n n, .slice (some ⟨ga, 0, none⟩) n n], .int .i64 k] w (InsE (insK l goals F k) w) := by
  obtain ⟨B, hB⟩ := h.its
  have hkl : k < l.length := by rw [← h.hn]; exact hk
  obtain ⟨x, hx⟩ : ∃ x, l.getD k it0 = x := ⟨_, rfl⟩
  obtain ⟨g, o, rfl, hg, c0, c1, c2, c3, c4, c5, c6⟩ := hB.get (Fr.refl (fun _ => False) w) (fun _ h => h.elim) k hkl x hx
  have hf := h.fit k hkl
  have hoff := off_in (szF_in l F) (by rw [szF_len]; exact h.hn.symm) h.few h.go hk
  have HOFF := off_call h hk (.slice (some ⟨g, o, none⟩) n c) (.slice (some ⟨gs, 0, none⟩) n n)
  have hsn : (szF l F).length = n := by rw [szF_len]; exact h.hn.symm
  have s0 := h.rs.cell (k := k) (by rw [hsn]; exact hk)
  rw [szF_get hkl] at s0
  have hfew := h.few
  rw [hx] at hf h4 s0
  unfold insK
  rw [hx]
  by_cases e1 : x.k = 1
  · rw [if_pos e1]
    exact ins1 g o n c k _ _ _ x w hk hfew e1 c0 c1 c2 c3 c4 c5 c6
  rw [if_neg e1]
  by_cases e5 : x.k = 5
  · rw [if_pos e5]
    exact ins5 g o n c k _ _ _ x w hk hfew e5 hf.1 hf.2 c0 c1 c2 c3 c4 c5 c6
  rw [if_neg e5]
  by_cases e3 : x.k = 3
  · rw [if_pos e3]
    have hz : sz0 x = 1 := by unfold sz0; rw [if_neg e5, if_pos (Or.inr (Or.inl e3))]
    rw [hz] at s0
    cases hF : F k
    · rw [hF] at s0
      exact ins3 g o n c k _ _ _ x w hk hfew e3 gs gg ga (offK goals (szF l F) k) rfl s0 HOFF c0 c1 c2 c3 c4 c5 c6
    · rw [hF] at s0
      exact ins3f g o n c k _ _ _ x w hk hfew e3 gs gg ga (offK goals (szF l F) k) rfl s0 hoff.1 hoff.2 HOFF c0 c1 c2 c3 c4 c5 c6
  rw [if_neg e3, if_neg h4]
  exact ins0 g o n c k _ _ _ x w hk hfew (by simpa using e1) (by simpa using e5) (by simpa using e3) (by simpa using h4) c0 c1 c2 c3 c4 c5 c6
end Go.Proofs.Ytnjlcimeaoedcaa
