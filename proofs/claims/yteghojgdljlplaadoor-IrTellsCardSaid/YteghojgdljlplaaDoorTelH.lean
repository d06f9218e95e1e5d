/-
  The builtin that clears a row (a part of it).
-/
import Derived.Test.YteghojgdljlplaaDoorTelG
namespace Go.Proofs.YteghojgdljlplaaDoor
open Go.RowKit
set_option linter.unusedVariables false
set_option linter.unusedSimpArgs false
theorem run_clear {P : Program} {w : World} (t ty : TypeId) (e : TypeId) (i : TypeInfo) (z : Value) (ht : P.underlying t = some (.slice e)) (hi : P.info? e = some i) (hz : i.zero = some z) (hzs : z.cells = #[z]) (hz1 : z.oneCell' = true)
    (g b n c : Nat) (cur : Array Value) (hg : w.heap[g]? = some (.cells cur e (0, 0))) (hfit : b + n ≤ cur.size) :
    ∃ w' cur', (Builtin.clear_ #[t] ty #[.slice (some ⟨g, b, none⟩) n c]).run P w = .ok (.tuple #[]) w' ∧ w'.heap[g]? = some (.cells cur' e (0, 0)) ∧ cur'.size = cur.size ∧ (∀ j, j < b → cur'[j]? = cur[j]?) ∧ Fr (fun k => k = g) w w' := by
  by_cases hn : n = 0
  · subst hn
    exact ⟨w, cur, by simp [Builtin.clear_, run_underlying ht], hg, rfl, fun _ _ => rfl, Fr.refl _ _⟩
  · have hsz : (Builtin.zeroCells #[z] n).toList.length = n := by
      rw [Array.length_toList, size_zeroCells]; simp
    have h1 : ∀ v ∈ (Builtin.zeroCells #[z] n).toList, v.oneCell' = true := by
      intro v hv
      simp [Builtin.zeroCells] at hv
      obtain ⟨j, hj, rfl⟩ := hv
      simpa [Nat.mod_one] using hz1
    have hst := run_storeCells_at P g b e (Builtin.zeroCells #[z] n).toList 0 cur w hg (by rw [hsz]; simpa using hfit) h1
    have hr : (Builtin.clear_ #[t] ty #[.slice (some ⟨g, b, none⟩) n c]).run P w = .ok (.tuple #[]) (w.setRow g (cur.toList.take (b + 0) ++ (Builtin.zeroCells #[z] n).toList ++ cur.toList.drop (b + 0 + (Builtin.zeroCells #[z] n).toList.length)).toArray) := by
      cases n with
      | zero => exact absurd rfl hn
      | succ n => simp [Builtin.clear_, run_underlying ht, zeroValue, typeInfo, hi, hz, hzs] ; simp at hst; rw [hst]; rfl
    refine ⟨_, _, hr, setRow_heap w g cur _ e _ hg, ?_, ?_, ⟨rfl, rfl, by simp, fun k hk hn => setRow_other w g k _ hn⟩⟩
    · rw [List.size_toArray, List.length_append, List.length_append, hsz, List.length_take, List.length_drop, Array.length_toList]
      omega
    · intro j hj
      rw [List.getElem?_toArray, List.append_assoc, List.getElem?_append_left (by simp; omega), List.getElem?_take, if_pos (by omega), Array.getElem?_toList]
end Go.Proofs.YteghojgdljlplaaDoor
