/-
  Tokens (layer 7): a new scanner.
-/
import Derived.Test.YtoffbjfgledjfaaDoorLexK
import Derived.Laws.EntriesVeiled
namespace Go.Proofs.YtoffbjfgledjfaaDoor
open Go.RowKit
set_option linter.unusedVariables false
set_option linter.unusedSimpArgs false
def scanV (r p q : Nat) : Value := .func (.func 15) #[] #[.pointer (some ⟨r, 0, none⟩), .pointer (some ⟨p, 0, none⟩), .pointer (some ⟨q, 0, none⟩)]
set_option maxRecDepth 100000 in
set_option maxHeartbeats 4000000 in
theorem scan_new (s : ByteArray) (w : World) : Calls Tryd.prog 9 #[.string s] w fun e w' =>
    ∃ r p q, e = .returned (.func (.func 15) #[] #[.pointer (some ⟨r, 0, none⟩), .pointer (some ⟨p, 0, none⟩), .pointer (some ⟨q, 0, none⟩)]) ∧ SSt r p q s 1 1 w' ∧ Fr (fun _ => False) w w' ∧ w.heap.size ≤ r ∧ w.heap.size ≤ p ∧ w.heap.size ≤ q := by
  have hmf : ∀ (fn : Fn) (first cap : Array Value) (w : World), (Instr.makeFunc fn first cap).run Tryd.prog w = .ok (.func fn first cap) w := fun _ _ _ _ => rfl
  go_enter Tryd.func9, Tryd.ntmps9
  go_wp2_with (go_at_call 8; (with_reducible refine (c8 _).mono ?_); rintro e w2 ⟨rfl, hf⟩; have HF := Lib.hid hf; clear hf)
  go_ret
  have hs := HF.out.size
  refine ⟨w2.heap.size, w2.heap.size + 1, w2.heap.size + 2, rfl, ⟨?_, ?_, ?_, by omega, by omega, by omega⟩, fr_al (fr_al (fr_al HF.out _) _) _, by omega, by omega, by omega⟩
  · exact ((fr_al (fr_al (Fr.refl (fun _ => False) (w2.alloc _)) _) _).block w2.heap.size (by simp) id).trans (heap_alloc_new _ _)
  · refine ((fr_al (Fr.refl (fun _ => False) ((w2.alloc _).alloc _)) _).block (w2.heap.size + 1) (by simp) id).trans ?_
    rw [show w2.heap.size + 1 = (w2.alloc (.cells #[.string s] 9)).heap.size by simp]
    exact heap_alloc_new _ _
  · rw [show w2.heap.size + 2 = ((w2.alloc (.cells #[.string s] 9)).alloc (.cells #[.int .i64 1, .int .i64 1] 25)).heap.size by simp]
    exact heap_alloc_new _ _
end Go.Proofs.YtoffbjfgledjfaaDoor
