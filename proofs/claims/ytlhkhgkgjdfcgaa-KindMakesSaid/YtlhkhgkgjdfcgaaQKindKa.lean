/-
  The document's own tables of types (layer 8): the first one; a struct that is not there; the size of a first type.
-/
import Derived.Test.YtlhkhgkgjdfcgaaQKindJa
import Derived.Deep.QuietTactic
import Derived.Outline
namespace Go.Proofs.Ytlhkhgkgjdfcgaa
open Go.RowKit
set_option linter.unusedVariables false
set_option linter.unusedSimpArgs false
def beginRow : Array Value := #[.int .i64 0, .int .i64 0, .int .i64 0, .string ⟨#[]⟩, .slice none 0 0, .bool false, .int .i64 1, .int .i64 0, .int .i64 0, .string ⟨#[]⟩, .slice none 0 0, .bool false, .int .i64 2, .int .i64 0, .int .i64 0, .string ⟨#[]⟩, .slice none 0 0, .bool false]
theorem begin_at {W : World} {b : Nat} (h : W.heap[b]? = some (.cells beginRow 46 (0, 0))) : RAt W (some ⟨b, 0, none⟩) 3 begin3 := by
  refine ⟨rfl, fun k hk => ⟨b, rfl, fun j hj => ?_⟩⟩
  rw [cell_of_row _ _ _ beginRow 46 (0, 0) h]
  have hk' : k < 3 := hk
  match k, hk', j, hj with
  | 0, _, 0, _ => rfl
  | 0, _, 1, _ => rfl
  | 0, _, 2, _ => rfl
  | 0, _, 3, _ => rfl
  | 0, _, 4, _ => rfl
  | 0, _, 5, _ => rfl
  | 1, _, 0, _ => rfl
  | 1, _, 1, _ => rfl
  | 1, _, 2, _ => rfl
  | 1, _, 3, _ => rfl
  | 1, _, 4, _ => rfl
  | 1, _, 5, _ => rfl
  | 2, _, 0, _ => rfl
  | 2, _, 1, _ => rfl
  | 2, _, 2, _ => rfl
  | 2, _, 3, _ => rfl
  | 2, _, 4, _ => rfl
  | 2, _, 5, _ => rfl
theorem begin_of (w : World) : Calls Try.prog 11 #[] w fun r w' => r = .returned (.slice (some ⟨w.heap.size, 0, none⟩) 3 3) ∧ Fr (fun _ => False) w w' ∧ w.heap.size < w'.heap.size ∧ RAt w' (some ⟨w.heap.size, 0, none⟩) 3 begin3 := by
  have HR := Lib.hid (begin_at (heap_alloc_new w (.cells beginRow 46)))
  have HF := Lib.hid (fr_al (Fr.refl (fun _ => False) w) (.cells beginRow 46))
  go_enter Try.func11, Try.ntmps11
  go_wp2
  go_ret
  exact ⟨rfl, HF.out, by simp, HR.out⟩
theorem rstruct_none {w : World} {a : Option Addr} {n c : Nat} {rs : List RT} (h : RAt w a n rs) (hfew : n ≤ 1000) (nm : ByteArray) (fv : Value) (hno : ¬ rfind rs nm < rs.length) :
    Calls Try.prog 32 #[.slice a n c, .string nm, fv] w (MadeP w a rs 0 4 rs) := by
  have HB := made_box w
  have HF := Lib.hid (Fr.refl (fun _ => False) (w.alloc (.cells #[.int .i64 0, .slice none 0 0, .int .i64 0] 31)))
  have hfa : Fr (fun _ => False) w (w.alloc (.cells #[.int .i64 0, .slice none 0 0, .int .i64 0] 31)) := fr_al (Fr.refl _ _) _
  have HFI : Hid (∀ W, Fr (fun _ => False) (w.alloc (.cells #[.int .i64 0, .slice none 0 0, .int .i64 0] 31)) W → Calls Try.prog 22 #[.slice a n c, .string nm] W fun r w' => r = .returned (.int .i64 (-1)) ∧ Fr (fun _ => False) (w.alloc (.cells #[.int .i64 0, .slice none 0 0, .int .i64 0] 31)) w') :=
    Lib.hid (fun W hW => (rfind_of (h.quiet (hfa.trans hW)) hfew nm).mono fun r w' hr => by
      have hno' : ¬ rs.findIdx (isRName nm) < rs.length := hno
      unfold RFindP at hr
      rw [if_neg hno'] at hr
      exact ⟨hr.1, hW.trans hr.2⟩)
  have HH := Lib.hid h
  clear h hfa hno
  go_enter Try.func32, Try.ntmps32
  go_wp2_with (go_at_call 22; (with_reducible refine (HFI.out _ HF.out).mono ?_); rintro r w1 ⟨rfl, hf⟩; have hfb := HB.out _ hf; have HV1 := Lib.hid hf; have HVB := Lib.hid hfb.1; have lw1 := hfb.2.1; obtain ⟨⟨b0, k0⟩, f0⟩ := hfb.2.2 0 (by decide); obtain ⟨⟨b1, k1⟩, f1⟩ := hfb.2.2 1 (by decide); obtain ⟨⟨b2, k2⟩, f2⟩ := hfb.2.2 2 (by decide); clear hf hfb)
  exact bodyPost_ret (v := .agg #[.int .i64 0, .slice a n c, .int .i64 4]) (by simp [results, Try.results32, go_sem, set3' k0 k1 k2]) rfl (made_same HH.out (fr_set (fr_set (fr_set HVB.out (Nat.le_refl _) _ _) (Nat.le_refl _) _ _) (Nat.le_refl _) _ _))
def sizeB (m : Int) : Int := if m = 1 then 4 else if m = 2 then 1 else 0
set_option maxHeartbeats 1000000 in
theorem rsize_begin {w : World} {b c : Nat} (h : RAt w (some ⟨b, 0, none⟩) 3 begin3) (m : Int) :
    Calls Try.prog 15 #[.slice (some ⟨b, 0, none⟩) 3 c, .int .i64 m] w fun r w' => r = .returned (.int .i64 (sizeB m)) ∧ w = w' := by
  have HI : Hid (∀ W, Calls Try.prog 24 #[.slice (some ⟨b, 0, none⟩) 3 c, .int .i64 m] W fun r w' => r = .returned (.bool (decide (0 ≤ m ∧ m < (3 : Nat)))) ∧ W = w') := Lib.hid (fun W => is_of _ 3 c m W)
  have g : ∀ k, k < 3 → ∀ j, j < 6 → w.cell? ⟨b, k * 6 + j, none⟩ = (begin3.getD k rt0).vals[j]? := fun k hk j hj => by
    obtain ⟨g, e, hc⟩ := h.2 k hk
    injection e with e
    injection e with e
    subst e
    exact hc j hj
  clear h
  unfold sizeB
  by_cases hin : 0 ≤ m ∧ m < (3 : Nat)
  · rw [decide_eq_true hin] at HI
    have hc : m = 0 ∨ m = 1 ∨ m = 2 := by omega
    rcases hc with rfl | rfl | rfl
    · have q0 : w.cell? ⟨b, 0, none⟩ = some (.int .i64 0) := g 0 (by decide) 0 (by decide)
      have q5 : w.cell? ⟨b, 5, none⟩ = some (.bool false) := g 0 (by decide) 5 (by decide)
      clear g hin
      go_enter Try.func15, Try.ntmps15
      go_wp2_with (go_at_call 24; (with_reducible refine (HI.out _).mono ?_); rintro r w1 ⟨rfl, rfl⟩)
      go_ret
      exact ⟨rfl, rfl⟩
    · have q0 : w.cell? ⟨b, 6, none⟩ = some (.int .i64 1) := g 1 (by decide) 0 (by decide)
      have q5 : w.cell? ⟨b, 11, none⟩ = some (.bool false) := g 1 (by decide) 5 (by decide)
      clear g hin
      go_enter Try.func15, Try.ntmps15
      go_wp2_with (go_at_call 24; (with_reducible refine (HI.out _).mono ?_); rintro r w1 ⟨rfl, rfl⟩)
      go_ret
      exact ⟨rfl, rfl⟩
    · have q0 : w.cell? ⟨b, 12, none⟩ = some (.int .i64 2) := g 2 (by decide) 0 (by decide)
      have q5 : w.cell? ⟨b, 17, none⟩ = some (.bool false) := g 2 (by decide) 5 (by decide)
      clear g hin
      go_enter Try.func15, Try.ntmps15
      go_wp2_with (go_at_call 24; (with_reducible refine (HI.out _).mono ?_); rintro r w1 ⟨rfl, rfl⟩)
      go_ret
      exact ⟨rfl, rfl⟩
  · rw [decide_eq_false hin] at HI
    rw [if_neg (fun e => hin (by omega)), if_neg (fun e => hin (by omega))]
    clear g hin
    go_enter Try.func15, Try.ntmps15
    go_wp2_with (go_at_call 24; (with_reducible refine (HI.out _).mono ?_); rintro r w1 ⟨rfl, rfl⟩)
    go_ret
    exact ⟨rfl, rfl⟩
end Go.Proofs.Ytlhkhgkgjdfcgaa
