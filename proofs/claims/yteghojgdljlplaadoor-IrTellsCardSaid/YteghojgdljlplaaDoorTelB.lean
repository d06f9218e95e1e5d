/-
  Where a block leads; which instructions only set a register (layer 13): the program's and the document's own.
-/
import Derived.Test.YteghojgdljlplaaDoorBldG
import Derived.Laws.AppendOwn
namespace Go.Proofs.YteghojgdljlplaaDoor
open Go.RowKit
set_option linter.unusedVariables false
set_option linter.unusedSimpArgs false
/-- A slice of these numbers, in memory. -/
def SlInts (w : World) (v : Value) (l : List Int) : Prop := ∃ a c, v = .slice a l.length c ∧ IntsAt w a l
theorem SlInts.fr {w w' : World} {v : Value} {l : List Int} (h : SlInts w v l) (hf : Fr (fun _ => False) w w') : SlInts w' v l := by
  obtain ⟨a, c, e, h⟩ := h
  exact ⟨a, c, e, h.fr hf⟩
theorem sl_nil (w : World) : SlInts w (.slice none 0 0) [] := ⟨none, 0, rfl, fun k hk => absurd hk (by simp)⟩
theorem sl_one (w : World) (x : Int) : SlInts (w.alloc (.cells #[.int .i64 x] 3)) (.slice (some ⟨w.heap.size, 0, none⟩) 1 1) [x] := ⟨_, 1, rfl, fun k hk => by
  obtain rfl : k = 0 := by simpa using hk
  exact ⟨_, 0, rfl, fcell w _ _ 0 _ rfl⟩⟩
theorem sl_two (w : World) (x y : Int) : SlInts (w.alloc (.cells #[.int .i64 x, .int .i64 y] 3)) (.slice (some ⟨w.heap.size, 0, none⟩) 2 2) [x, y] := ⟨_, 2, rfl, fun k hk => by
  refine ⟨_, 0, rfl, ?_⟩
  rw [Nat.zero_add]
  match k, hk with
  | 0, _ => exact fcell w _ _ 0 _ rfl
  | 1, _ => exact fcell w _ _ 1 _ rfl
  | n + 2, h => simp at h; omega⟩
theorem sl_own {w : World} {B n : Nat} {v : Value} {l : List Int} (h : w.ownsRow B 3 1 v n (l.map (Value.int .i64))) : SlInts w v l := by
  have hl : l.length = n := by have := h.1; simp at this; omega
  rcases h.2 with ⟨rfl, rfl⟩ | ⟨g, cap, cur, rfl, _, hg, hc, _, hs, ht⟩
  · have : l = [] := List.length_eq_zero_iff.1 hl
    rw [this]; exact sl_nil w
  · refine ⟨_, cap, by rw [hl], fun k hk => ⟨g, 0, rfl, ?_⟩⟩
    rw [cell_of_row _ _ _ cur _ (0, 0) hg, Nat.zero_add]
    have e : (l.map (Value.int .i64))[k]? = some (.int .i64 (l.getD k 0)) := by
      rw [List.getElem?_map, List.getElem?_eq_getElem hk, List.getD_eq_getElem?_getD, List.getElem?_eq_getElem hk]; rfl
    rw [← ht, List.getElem?_take] at e
    split at e
    · simpa using e
    · cases e
theorem sl_one' (w : World) (b : Nat) (x : Int) (hb : w.heap.size = b) : SlInts (w.alloc (.cells #[.int .i64 x] 3)) (.slice (some ⟨b, 0, none⟩) 1 1) [x] := by subst hb; exact sl_one w x
theorem sl_two' (w : World) (b : Nat) (x y : Int) (hb : w.heap.size = b) : SlInts (w.alloc (.cells #[.int .i64 x, .int .i64 y] 3)) (.slice (some ⟨b, 0, none⟩) 2 2) [x, y] := by subst hb; exact sl_two w x y
def outsL (en t el : Int) : List Int := if en = 1 then [t] else if en = 2 then (if t = el then [t] else [t, el]) else []
set_option maxRecDepth 100000 in
set_option maxHeartbeats 4000000 in
theorem outs_any (ins : Value) (en a t el : Int) (w : World) : Calls Tryd.prog 19 #[.agg #[ins, .int .i64 en, .int .i64 a, .int .i64 t, .int .i64 el]] w fun e w' => ∃ v, e = .returned v ∧ SlInts w' v (outsL en t el) ∧ Fr (fun _ => False) w w' := by
  by_cases h1 : en = 1
  · subst h1
    go_enter Tryd.func19, Tryd.ntmps19
    go_wp2
    go_ret
    exact ⟨.slice (some ⟨w.heap.size + 1, 0, none⟩) 1 1, rfl, by rw [show outsL 1 t el = [t] from rfl]; exact sl_one' _ _ _ (by simp), fr_al (fr_al (Fr.refl _ _) _) _⟩
  by_cases h2 : en = 2
  · subst h2
    by_cases h3 : t = el
    · subst h3
      go_enter Tryd.func19, Tryd.ntmps19
      go_wp2
      go_ret
      exact ⟨.slice (some ⟨w.heap.size + 1, 0, none⟩) 1 1, rfl, by rw [show outsL 2 t t = [t] by unfold outsL; simp]; exact sl_one' _ _ _ (by simp), fr_al (fr_al (Fr.refl _ _) _) _⟩
    · have e3 : (t == el) = false := by simpa using h3
      have HN := Lib.hid h3
      clear h3
      go_enter Tryd.func19, Tryd.ntmps19
      go_wp2
      go_ret
      exact ⟨.slice (some ⟨w.heap.size + 1, 0, none⟩) 2 2, rfl, by rw [show outsL 2 t el = [t, el] by unfold outsL; simp [HN.out]]; exact sl_two' _ _ _ _ (by simp), fr_al (fr_al (Fr.refl _ _) _) _⟩
  have e1 : (en == 1) = false := by simpa using h1
  have e2 : (en == 2) = false := by simpa using h2
  have HN := Lib.hid (show outsL en t el = [] by unfold outsL; rw [if_neg h1, if_neg h2])
  clear h1 h2
  go_enter Tryd.func19, Tryd.ntmps19
  go_wp2
  go_ret
  exact ⟨.slice none 0 0, rfl, by rw [HN.out]; exact sl_nil _, fr_al (Fr.refl _ _) _⟩
def pureB (op : Int) : Bool := decide (1 ≤ op) && decide (op ≤ 8) && op != 6
set_option maxRecDepth 100000 in
set_option maxHeartbeats 4000000 in
theorem pure_any (op : Int) (y1 y2 y3 y4 y5 y6 y7 y8 y9 y10 : Value) (w : World) : Calls Tryd.prog 18 #[.agg #[.int .i64 op, y1, y2, y3, y4, y5, y6, y7, y8, y9, y10]] w fun e w' => e = .returned (.bool (pureB op)) ∧ Fr (fun _ => False) w w' := by
  have h : op = 1 ∨ op = 2 ∨ op = 3 ∨ op = 4 ∨ op = 7 ∨ op = 8 ∨ op = 5 ∨ (op ≠ 1 ∧ op ≠ 2 ∧ op ≠ 3 ∧ op ≠ 4 ∧ op ≠ 7 ∧ op ≠ 8 ∧ op ≠ 5) := by omega
  rcases h with rfl | rfl | rfl | rfl | rfl | rfl | rfl | ⟨h1, h2, h3, h4, h7, h8, h5⟩
  iterate 7
    · go_enter Tryd.func18, Tryd.ntmps18
      go_wp2
      go_ret
      exact ⟨rfl, fr_al (Fr.refl _ _) _⟩
  have e1 : (op == 1) = false := by simpa using h1
  have e2 : (op == 2) = false := by simpa using h2
  have e3 : (op == 3) = false := by simpa using h3
  have e4 : (op == 4) = false := by simpa using h4
  have e7 : (op == 7) = false := by simpa using h7
  have e8 : (op == 8) = false := by simpa using h8
  have e5 : (op == 5) = false := by simpa using h5
  have HN := Lib.hid (show pureB op = false by unfold pureB; simp; omega)
  clear h1 h2 h3 h4 h7 h8 h5
  go_enter Tryd.func18, Tryd.ntmps18
  go_wp2
  go_ret
  exact ⟨by rw [HN.out]; rfl, fr_al (Fr.refl _ _) _⟩
end Go.Proofs.YteghojgdljlplaaDoor
