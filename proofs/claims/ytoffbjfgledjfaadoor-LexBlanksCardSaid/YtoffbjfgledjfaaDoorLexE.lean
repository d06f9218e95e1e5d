/-
  Tokens (layer 7): symbols.
-/
import Derived.Test.YtoffbjfgledjfaaDoorLexC
import Derived.Laws.Rows
import Derived.Great.BuildSlice
import Derived.Laws.Tables
import Derived.Great.ByCallsLater
import Derived.Great.Frames
import Derived.Great.Walk
import Derived.Deep.WholeRow
namespace Go.Proofs.YtoffbjfgledjfaaDoor
open Go.RowKit
set_option linter.unusedVariables false
set_option linter.unusedSimpArgs false
def symL : List (List UInt8) := [[60, 60, 61], [62, 62, 61], [45, 62], [43, 43], [45, 45], [60, 60], [62, 62], [60, 61], [62, 61], [61, 61], [33, 61], [38, 38], [124, 124], [43, 61], [45, 61], [42, 61], [47, 61], [37, 61], [38, 61], [124, 61], [94, 61], [43], [45], [42], [47], [37], [38], [124], [94], [126], [33], [60], [62], [61], [63], [58], [59], [44], [46], [40], [41], [91], [93], [123], [125]]
def symA : Array Value := #[.string ⟨#[60, 60, 61]⟩, .string ⟨#[62, 62, 61]⟩, .string ⟨#[45, 62]⟩, .string ⟨#[43, 43]⟩, .string ⟨#[45, 45]⟩, .string ⟨#[60, 60]⟩, .string ⟨#[62, 62]⟩, .string ⟨#[60, 61]⟩, .string ⟨#[62, 61]⟩, .string ⟨#[61, 61]⟩, .string ⟨#[33, 61]⟩, .string ⟨#[38, 38]⟩, .string ⟨#[124, 124]⟩, .string ⟨#[43, 61]⟩, .string ⟨#[45, 61]⟩, .string ⟨#[42, 61]⟩, .string ⟨#[47, 61]⟩, .string ⟨#[37, 61]⟩, .string ⟨#[38, 61]⟩, .string ⟨#[124, 61]⟩, .string ⟨#[94, 61]⟩, .string ⟨#[43]⟩, .string ⟨#[45]⟩, .string ⟨#[42]⟩, .string ⟨#[47]⟩, .string ⟨#[37]⟩, .string ⟨#[38]⟩, .string ⟨#[124]⟩, .string ⟨#[94]⟩, .string ⟨#[126]⟩, .string ⟨#[33]⟩, .string ⟨#[60]⟩, .string ⟨#[62]⟩, .string ⟨#[61]⟩, .string ⟨#[63]⟩, .string ⟨#[58]⟩, .string ⟨#[59]⟩, .string ⟨#[44]⟩, .string ⟨#[46]⟩, .string ⟨#[40]⟩, .string ⟨#[41]⟩, .string ⟨#[91]⟩, .string ⟨#[93]⟩, .string ⟨#[123]⟩, .string ⟨#[125]⟩]
def symF (l : List UInt8) : Option (List UInt8) := symL.find? (fun t => t.isPrefixOf l)
def symN (k : Nat) : List UInt8 := symL.getD k []
def symP (s : ByteArray) (k : Nat) : Bool := prefB s ⟨(symN k).toArray⟩
theorem sym_first (s : ByteArray) {k : Nat} (hk : k < 45) (h : symP s k = true) (hn : ∀ j, j < k → symP s j = false) : symF s.data.toList = some (symN k) := by
  have hl : symL.length = 45 := rfl
  unfold symF
  rw [List.find?_eq_some_iff_getElem]
  have e : symL.getD k [] = symL[k]'(by omega) := by rw [List.getD_eq_getElem?_getD, List.getElem?_eq_getElem (by omega)]; rfl
  refine ⟨?_, k, by omega, by unfold symN; exact e.symm, fun j hj => ?_⟩
  · simpa [symP, prefB] using h
  · have := hn j hj
    have e2 : symL.getD j [] = symL[j]'(by omega) := by rw [List.getD_eq_getElem?_getD, List.getElem?_eq_getElem (by omega)]; rfl
    simp only [symP, prefB, symN, e2] at this
    simp only [this, Bool.not_false]
theorem sym_none (s : ByteArray) (hn : ∀ j, j < 45 → symP s j = false) : symF s.data.toList = none := by
  have hl : symL.length = 45 := rfl
  unfold symF
  rw [List.find?_eq_none]
  intro x hx
  obtain ⟨j, hj, rfl⟩ := List.mem_iff_getElem.1 hx
  have := hn j (by omega)
  have e2 : symL.getD j [] = symL[j]'(by omega) := by rw [List.getD_eq_getElem?_getD, List.getElem?_eq_getElem (by omega)]; rfl
  simp only [symP, prefB, symN, e2] at this
  simp [this]
set_option maxRecDepth 1000000 in
set_option maxHeartbeats 8000000 in
theorem index_sym (k : Nat) (h : k < 45) (w : World) : (Instr.index 72 (.agg symA) (.int .i64 k)).run Tryd.prog w = .ok (.string ⟨(symN k).toArray⟩) w := by
  match k, h with
  | 0, _ | 1, _ | 2, _ | 3, _ | 4, _ | 5, _ | 6, _ | 7, _ | 8, _ | 9, _ | 10, _ | 11, _ | 12, _ | 13, _ | 14, _ | 15, _ | 16, _ | 17, _ | 18, _ | 19, _ | 20, _ | 21, _ | 22, _ | 23, _ | 24, _ | 25, _ | 26, _ | 27, _ | 28, _ | 29, _ | 30, _ | 31, _ | 32, _ | 33, _ | 34, _ | 35, _ | 36, _ | 37, _ | 38, _ | 39, _ | 40, _ | 41, _ | 42, _ | 43, _ | 44, _ => (show _ = _; kernel_rfl)
  | n + 45, hn => exact absurd hn (by omega)
theorem zero45 : (Tryd.prog.info? 72).map (·.size) = some 45 := by kernel_rfl
/-- What a call that reads a token leaves: the token, or the error. -/
def TokP (k : Int) (t : List UInt8) (n : Int) (er : Int) (w : World) (e : Ending) (w' : World) : Prop :=
  e = .returned (.tuple #[.agg #[.int .i64 k, .string ⟨t.toArray⟩, .int .u32 n, .int .i64 0, .int .i64 0], .int .i64 er]) ∧ Fr (fun _ => False) w w'
def SymP (s : ByteArray) (w : World) (e : Ending) (w' : World) : Prop :=
  match symF s.data.toList with
  | some t => TokP 4 t 0 0 w e w'
  | none => TokP 0 [] 0 3 w e w'
theorem sym_yes {s : ByteArray} {k : Nat} {w w' : World} (hk : k < 45) (h : symP s k = true) (hn : ∀ j, j < k → symP s j = false) (hf : Fr (fun _ => False) w w') :
    SymP s w (.returned (.tuple #[.agg #[.int .i64 4, .string ⟨(symN k).toArray⟩, .int .u32 0, .int .i64 0, .int .i64 0], .int .i64 0])) w' := by
  unfold SymP; rw [sym_first s hk h hn]; exact ⟨rfl, hf⟩
theorem sym_end {s : ByteArray} {w w' : World} (hn : ∀ j, j < 45 → symP s j = false) (hf : Fr (fun _ => False) w w') :
    SymP s w (.returned (.tuple #[.agg #[.int .i64 0, .string ⟨#[]⟩, .int .u32 0, .int .i64 0, .int .i64 0], .int .i64 3])) w' := by
  unfold SymP; rw [sym_none s hn]; exact ⟨rfl, hf⟩
set_option maxRecDepth 1000000 in
set_option maxHeartbeats 4000000 in
theorem symbol_any (s : ByteArray) (w : World) : Calls Tryd.prog 30 #[.string s] w (SymP s w) := by
  have HY := Lib.hid (fun (k : Nat) (w' : World) (hk : k < 45) => @sym_yes s k w w' hk)
  have HE := Lib.hid (fun (w' : World) => @sym_end s w w')
  go_enter Tryd.func30, Tryd.ntmps30
  apply wp_seq_k; intro K0 hK0
  have HK := Lib.hid hK0
  clear hK0
  go_wp2
  refine HK.out _ _ ?_
  clear HK
  apply wp_seq_k; intro K1 hK1
  apply wp_region_lit
  refine wpList_buildTo rfl 72 _ rfl (some 7) rfl symA (by as_aux_lemma => kernel_rfl) ?_
  refine Go.Great.wpList_allocTo rfl (some 4) rfl (.pointer (some ⟨w.heap.size + 1, 0, none⟩)) (.cells (Array.replicate 45 (.string ⟨#[]⟩)) 72) (by rw [show w.heap.size + 1 = (w.alloc (.cells #[.int .i64 0, .string ⟨#[]⟩, .int .u32 0, .int .i64 0, .int .i64 0] 32)).heap.size by simp]; simp only [execOp]; go_simp; kernel_rfl) ?_
  refine wpList_store_row rfl 72 _ _ rfl (w.heap.size + 1) symA (by as_aux_lemma => kernel_rfl) (by as_aux_lemma => kernel_rfl) 72 (Array.replicate 45 (.string ⟨#[]⟩)) (by rw [show w.heap.size + 1 = (w.alloc (.cells #[.int .i64 0, .string ⟨#[]⟩, .int .u32 0, .int .i64 0, .int .i64 0] 32)).heap.size by simp]; exact heap_alloc_new _ _) zero45 (by as_aux_lemma => kernel_rfl) (by as_aux_lemma => kernel_rfl) ?_
  rw [show ((w.alloc (.cells #[.int .i64 0, .string ⟨#[]⟩, .int .u32 0, .int .i64 0, .int .i64 0] 32)).alloc (.cells (Array.replicate 45 (.string ⟨#[]⟩)) 72)).setRow (w.heap.size + 1) symA = (w.alloc (.cells #[.int .i64 0, .string ⟨#[]⟩, .int .u32 0, .int .i64 0, .int .i64 0] 32)).alloc (.cells symA 72) by rw [show w.heap.size + 1 = (w.alloc (.cells #[.int .i64 0, .string ⟨#[]⟩, .int .u32 0, .int .i64 0, .int .i64 0] 32)).heap.size by simp]; rw [World.setRow_alloc_new]]
  apply wpList_nil
  refine hK1 _ _ ?_
  clear hK1 K1 K0
  apply wp_seq_k; intro K3 hK3
  apply wp_seq_k; intro K2 hK2
  apply wp_region_lit
  refine wpList_load_row rfl 72 _ rfl (w.heap.size + 1) (by as_aux_lemma => kernel_rfl) 72 symA (0, 0) _ (by rw [show w.heap.size + 1 = (w.alloc (.cells #[.int .i64 0, .string ⟨#[]⟩, .int .u32 0, .int .i64 0, .int .i64 0] 32)).heap.size by simp]; exact heap_alloc_new _ _) Tryd.underlying72 rfl zero45 ?_
  refine Go.Great.wpList_runTo rfl (some 9) rfl (.int .i64 0) ((w.alloc (.cells #[.int .i64 0, .string ⟨#[]⟩, .int .u32 0, .int .i64 0, .int .i64 0] 32)).alloc (.cells symA 72)) (by kernel_rfl) ?_
  apply wpList_nil
  refine hK2 _ _ ?_
  clear hK2 K2
  have HK3 := Lib.hid hK3
  clear hK3
  go_wp2
  go_loop [9, 6] (fun q _ => ∃ k : Nat, q = .int .i64 k ∧ k ≤ 45 ∧ Hid (∀ j, j < k → symP s j = false)) (fun q _ => 45 - (intOf q).toNat)
  case atStart => exact ⟨0, rfl, by omega, Lib.hid (fun j hj => by omega)⟩
  case round =>
    obtain ⟨k, rfl, hk, HW⟩ := hrel
    by_cases hlt : k < 45
    · have hix := index_sym k hlt
      have t0 : (k : Int) < 45 := by omega
      have HC : Hid (∀ w, Calls Tryd.prog 19 #[.string s, .string ⟨(symN k).toArray⟩] w fun e w' => e = .returned (.bool (symP s k)) ∧ w = w') := Lib.hid (fun w => c19 s _ w)
      have HK := Lib.hid hlt
      cases hP : symP s k with
      | true =>
        have HQ := Lib.hid hP
        rw [hP] at HC
        obtain ⟨t, ht⟩ : ∃ t, symN k = t := ⟨_, rfl⟩
        rw [ht] at hix HC
        have HT := Lib.hid ht
        have HY2 := Lib.hid (HY.out k)
        rw [ht] at HY2
        clear hP ht HY HE
        go_wp2_with (go_at_call 19; (with_reducible refine (HC.out _).mono ?_); rintro e w' ⟨rfl, rfl⟩)
        exact bodyPost_ret (v := .tuple #[.agg #[.int .i64 4, .string ⟨t.toArray⟩, .int .u32 0, .int .i64 0, .int .i64 0], .int .i64 0]) (by simp [results, Tryd.results30, go_sem]) rfl (HY2.out _ HK.out HQ.out HW.out (fr_al (fr_al (Fr.refl _ _) _) _))
      | false =>
        have HQ := Lib.hid hP
        rw [hP] at HC
        clear hP
        go_wp2_with (go_at_call 19; (with_reducible refine (HC.out _).mono ?_); rintro e w' ⟨rfl, rfl⟩)
        go_round
        case rel => exact ⟨k + 1, by go_num, by omega, Lib.hid (fun j hj => by
          by_cases hjk : j < k
          · exact HW.out j hjk
          · obtain rfl : j = k := by omega
            exact HQ.out)⟩
        case measure => simp [intOf]; omega
    · obtain rfl : k = 45 := by omega
      go_wp2
      refine HK3.out _ _ ?_
      clear HK3
      go_wp2
      exact bodyPost_ret (v := .tuple #[.agg #[.int .i64 0, .string ⟨#[]⟩, .int .u32 0, .int .i64 0, .int .i64 0], .int .i64 3]) (by simp [results, Tryd.results30, go_sem]) rfl (HE.out _ HW.out (fr_al (fr_al (Fr.refl _ _) _) _))
end Go.Proofs.YtoffbjfgledjfaaDoor
