/-
  Items (layer 5): the instructions of a constant; a jump; a far branch.
-/
import Derived.Test.YtfnlhammjallfaaAsmC
import Derived.RegionTactic
import Derived.Deep.RegionHeld3
namespace Go.Proofs.Ytfnlhammjallfaa
open Go.RowKit
set_option linter.unusedVariables false
set_option linter.unusedSimpArgs false
/-- What a call leaves that answers these instructions. -/
def InsP (l : List In) (w : World) (e : Ending) (w' : World) : Prop := ∃ a c, e = .returned (.slice a l.length c) ∧ InAt w' a l ∧ Grown w w' ∧ ∀ g o, a = some ⟨g, o, none⟩ → w.heap.size ≤ g
theorem lt5 {j : Nat} (h : j < 5) : j = 0 ∨ j = 1 ∨ j = 2 ∨ j = 3 ∨ j = 4 := by omega
theorem inAt_new1 (w : World) (i : In) (t : TypeId) : InAt (w.alloc (.cells #[.int .i64 i.op, .int .i64 i.rd, .int .i64 i.r1, .int .i64 i.r2, .int .i64 i.imm] t)) (some ⟨w.heap.size, 0, none⟩) [i] := fun k hk => by
  obtain rfl : k = 0 := by simp at hk; omega
  refine ⟨_, _, rfl, fun j hj => ?_⟩
  rw [cell_of_row _ _ _ _ t (0, 0) (heap_alloc_new _ _)]
  rcases lt5 hj with rfl | rfl | rfl | rfl | rfl <;> rfl
theorem inAt_new2 (w : World) (i i' : In) (t : TypeId) : InAt (w.alloc (.cells #[.int .i64 i.op, .int .i64 i.rd, .int .i64 i.r1, .int .i64 i.r2, .int .i64 i.imm, .int .i64 i'.op, .int .i64 i'.rd, .int .i64 i'.r1, .int .i64 i'.r2, .int .i64 i'.imm] t)) (some ⟨w.heap.size, 0, none⟩) [i, i'] := fun k hk => by
  have hk' : k = 0 ∨ k = 1 := by simp at hk; omega
  rcases hk' with rfl | rfl
  all_goals
    refine ⟨_, _, rfl, fun j hj => ?_⟩
    rw [cell_of_row _ _ _ _ t (0, 0) (heap_alloc_new _ _)]
    rcases lt5 hj with rfl | rfl | rfl | rfl | rfl <;> rfl
theorem insP_1 {w w2 : World} {l : List In} {i : In} {t : TypeId} {c : Nat} (h : l = [i]) (hg : Grown w w2) : InsP l w (.returned (.slice (some ⟨w2.heap.size, 0, none⟩) 1 c)) (w2.alloc (.cells #[.int .i64 i.op, .int .i64 i.rd, .int .i64 i.r1, .int .i64 i.r2, .int .i64 i.imm] t)) := by
  subst h; exact ⟨_, _, rfl, inAt_new1 _ _ _, hg.alloc _ _, fun g o e => by cases e; exact hg.2.2⟩
theorem insP_2 {w w2 : World} {l : List In} {i i' : In} {t : TypeId} {c : Nat} (h : l = [i, i']) (hg : Grown w w2) : InsP l w (.returned (.slice (some ⟨w2.heap.size, 0, none⟩) 2 c)) (w2.alloc (.cells #[.int .i64 i.op, .int .i64 i.rd, .int .i64 i.r1, .int .i64 i.r2, .int .i64 i.imm, .int .i64 i'.op, .int .i64 i'.rd, .int .i64 i'.r1, .int .i64 i'.r2, .int .i64 i'.imm] t)) := by
  subst h; exact ⟨_, _, rfl, inAt_new2 _ _ _ _, hg.alloc _ _, fun g o e => by cases e; exact hg.2.2⟩
theorem word_in (n : Int) : 0 ≤ n % 4294967296 ∧ n % 4294967296 ≤ 4294967295 := by omega
theorem loW_in (n : Int) : 0 ≤ loW n ∧ loW n ≤ 4294967295 := sign12_in _
theorem hiW_in (n : Int) : 0 ≤ hiW n ∧ hiW n ≤ 4294967295 := by unfold hiW; omega
theorem parts_k (n : Int) : Hid (∀ w, Calls Try.prog 85 #[.int .u32 (n % 4294967296)] w fun e w' => e = .returned (.tuple #[.int .u32 (hiW n), .int .u32 (loW n)]) ∧ Grown w w') :=
  Lib.hid (fun w => c85 (n % 4294967296) (word_in n).1 (word_in n).2 w)
set_option maxRecDepth 100000 in
set_option maxHeartbeats 8000000 in
theorem c78 (op rd r1 r2 imm : Int) (h0 : -9223372036854775808 ≤ imm) (h1 : imm ≤ 9223372036854775807) (w : World) :
    Calls Try.prog 78 #[.agg #[.int .i64 op, .int .i64 rd, .int .i64 r1, .int .i64 r2, .int .i64 imm]] w (InsP (numI rd imm) w) := by
  have HG := Lib.hid ((Grown.refl w).alloc #[.int .i64 op, .int .i64 rd, .int .i64 r1, .int .i64 r2, .int .i64 imm] 23)
  have y1 := Lib.hid (row_cell w #[.int .i64 op, .int .i64 rd, .int .i64 r1, .int .i64 r2, .int .i64 imm] 23 1 (.int .i64 rd) rfl)
  have KP := parts_k imm
  obtain ⟨l0, l1⟩ := loW_in imm
  obtain ⟨g0, g1⟩ := hiW_in imm
  by_cases hh : hiW imm = 0
  · have E : Hid (numI rd imm = [⟨19, rd, 0, 0, sg (loW imm)⟩]) := Lib.hid (by unfold numI; rw [if_pos hh])
    have hb : (hiW imm == 0) = true := by simpa using hh
    clear hh
    generalize hiW imm = H at *
    generalize loW imm = L at *
    go_enter Try.func78, Try.ntmps78
    go_wp2_with (first
      | (go_at_call 85; (with_reducible refine (KP.out _).mono ?_); rintro e w2 ⟨rfl, hg⟩; have z1 := grown_cell hg y1.out; have HH := Lib.hid (grown_trans HG.out hg); clear hg)
      | (go_at_call 86; (with_reducible refine (c86 _ _ _ (by assumption) (by assumption) _).mono ?_); rintro e w3 ⟨rfl, hg⟩; replace HH := Lib.hid (grown_trans HH.out hg); clear hg))
    go_ret
    exact insP_1 (i := ⟨19, rd, 0, 0, sg L⟩) E.out HH.out
  · have hb : (hiW imm == 0) = false := by simpa using hh
    by_cases hl : loW imm = 0
    · have E : Hid (numI rd imm = [⟨1, rd, 0, 0, sg (hiW imm)⟩]) := Lib.hid (by unfold numI; rw [if_neg hh, if_pos hl])
      have hlb : (loW imm == 0) = true := by simpa using hl
      clear hh hl
      generalize hiW imm = H at *
      generalize loW imm = L at *
      go_enter Try.func78, Try.ntmps78
      go_wp2_with (first
        | (go_at_call 85; (with_reducible refine (KP.out _).mono ?_); rintro e w2 ⟨rfl, hg⟩; have z1 := grown_cell hg y1.out; have HH := Lib.hid (grown_trans HG.out hg); clear hg)
        | (go_at_call 50; (with_reducible refine (c50 _ _ (by assumption) (by assumption) _).mono ?_); rintro e w3 ⟨rfl, hg⟩; replace HH := Lib.hid (grown_trans HH.out hg); clear hg))
      go_ret
      exact insP_1 (i := ⟨1, rd, 0, 0, sg H⟩) E.out HH.out
    · have E : Hid (numI rd imm = [⟨1, rd, 0, 0, sg (hiW imm)⟩, ⟨19, rd, rd, 0, sg (loW imm)⟩]) := Lib.hid (by unfold numI; rw [if_neg hh, if_neg hl])
      have hlb : (loW imm == 0) = false := by simpa using hl
      clear hh hl
      generalize hiW imm = H at *
      generalize loW imm = L at *
      go_enter Try.func78, Try.ntmps78
      go_wp2_with (first
        | (go_at_call 85; (with_reducible refine (KP.out _).mono ?_); rintro e w2 ⟨rfl, hg⟩; have z1 := grown_cell hg y1.out; have HH := Lib.hid (grown_trans HG.out hg); clear hg))
      go_region_with (first
        | (go_at_call 50; (with_reducible refine (c50 _ _ (by assumption) (by assumption) _).mono ?_); rintro e w3 ⟨rfl, hg⟩; have z1 := grown_cell hg z1; replace HH := Lib.hid (grown_trans HH.out hg); clear hg)
        | (go_at_call 86; (with_reducible refine (c86 _ _ _ (by assumption) (by assumption) _).mono ?_); rintro e w3 ⟨rfl, hg⟩; have z1 := grown_cell hg z1; replace HH := Lib.hid (grown_trans HH.out hg); clear hg))
      all_goals go_wp2
      all_goals go_ret
      all_goals exact insP_2 (i := ⟨1, rd, 0, 0, sg H⟩) (i' := ⟨19, rd, rd, 0, sg L⟩) E.out HH.out
end Go.Proofs.Ytfnlhammjallfaa
