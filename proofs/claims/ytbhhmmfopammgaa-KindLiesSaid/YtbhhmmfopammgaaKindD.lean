/-
  Tables of types (layer 8): the contract of entry, whole.
-/
import Derived.Test.YtbhhmmfopammgaaKindC
import Derived.Outline
namespace Go.Proofs.Ytbhhmmfopammgaa
open Go.RowKit
set_option linter.unusedVariables false
set_option linter.unusedSimpArgs false
set_option maxRecDepth 100000 in
set_option maxHeartbeats 2000000 in
theorem entry_in (tb m c g k : Nat) (e : Ent) (hm : m ≤ 1000) (hk : k < m) (w : World) (hx : w.cell? ⟨tb, 0, none⟩ = some (.slice (some ⟨g, 0, none⟩) m c)) (hc : ∀ j, j < 7 → w.cell? ⟨g, k * 7 + j, none⟩ = e.vals[j]?) :
    Calls Try.prog 33 #[.pointer (some ⟨tb, 0, none⟩), .int .i64 (3 + k)] w fun r w' => r = .returned (.tuple #[.agg e.vals.toArray, .int .i64 0]) ∧ Fr (fun _ => False) w w' := by
  have HC := Lib.hid (fun W (hW : W.cell? ⟨tb, 0, none⟩ = some (.slice (some ⟨g, 0, none⟩) m c)) => count_at tb m c _ hm W hW)
  have hA : ∀ o : Obj, (w.alloc o).cell? ⟨tb, 0, none⟩ = some (.slice (some ⟨g, 0, none⟩) m c) := fun o => (World.grownBy_alloc w o none).cell hx (by simp)
  have HA := Lib.hid hA
  have q0 : ∀ o : Obj, (w.alloc o).cell? ⟨g, k * 7, none⟩ = some (.int .i64 e.kind) := fun o => (World.grownBy_alloc w o none).cell (hc 0 (by decide)) (by simp)
  have q1 : ∀ o : Obj, (w.alloc o).cell? ⟨g, k * 7 + 1, none⟩ = some (.int .i64 e.elem) := fun o => (World.grownBy_alloc w o none).cell (hc 1 (by decide)) (by simp)
  have q2 : ∀ o : Obj, (w.alloc o).cell? ⟨g, k * 7 + 2, none⟩ = some (.int .i64 e.len) := fun o => (World.grownBy_alloc w o none).cell (hc 2 (by decide)) (by simp)
  have q3 : ∀ o : Obj, (w.alloc o).cell? ⟨g, k * 7 + 3, none⟩ = some (.string e.name) := fun o => (World.grownBy_alloc w o none).cell (hc 3 (by decide)) (by simp)
  have q4 : ∀ o : Obj, (w.alloc o).cell? ⟨g, k * 7 + 4, none⟩ = some (.slice e.fa e.fn e.fc) := fun o => (World.grownBy_alloc w o none).cell (hc 4 (by decide)) (by simp)
  have q5 : ∀ o : Obj, (w.alloc o).cell? ⟨g, k * 7 + 5, none⟩ = some (.int .i64 e.size) := fun o => (World.grownBy_alloc w o none).cell (hc 5 (by decide)) (by simp)
  have q6 : ∀ o : Obj, (w.alloc o).cell? ⟨g, k * 7 + 6, none⟩ = some (.int .i64 e.align) := fun o => (World.grownBy_alloc w o none).cell (hc 6 (by decide)) (by simp)
  have lg : g < w.heap.size := World.block_lt_of_cell? w _ (hc 0 (by decide))
  have d0 : decide ((3 : Int) + k < 0) = false := decide_eq_false (by omega)
  have d1 : decide ((3 : Int) + m ≤ 3 + k) = false := decide_eq_false (by omega)
  have d2 : decide ((3 : Int) + k < 3) = false := decide_eq_false (by omega)
  have t1 : IntKind.i64.wrap ((3 : Int) + k - 3) = k := by rw [IntKind.wrap_i64]; omega
  have t2 : (3 : Int) + k - 3 = k := by omega
  have t3 : (0 : Int) ≤ k := by omega
  have t4 : (k : Int) < m := by omega
  clear hc
  go_enter Try.func33, Try.ntmps33
  go_wp2_with (go_at_call 20; (with_reducible refine (HC.out _ (HA.out _)).mono ?_); rintro e w' ⟨rfl, rfl⟩)
  exact bodyPost_ret (v := .tuple #[.agg e.vals.toArray, .int .i64 0]) (by simp [results, Try.results33, go_sem, Ent.vals]) rfl ⟨rfl, fr_al (Fr.refl _ _) _⟩
/-- The type with a number, or what stands for none. -/
def entF (es : List Ent) (n : Int) : Ent := if n < 0 ∨ 3 + (es.length : Int) ≤ n then ent0 else if n < 3 then firstEnt n else es.getD (n - 3).toNat ent0
def entE (es : List Ent) (n : Int) : Int := if n < 0 ∨ 3 + (es.length : Int) ≤ n then 4 else 0
theorem entry_at {base : Nat} {w : World} {tb : Nat} {v : Value} {es : List Ent} (h : TabAt base w tb v es) (n : Int) :
    Calls Try.prog 33 #[.pointer (some ⟨tb, 0, none⟩), .int .i64 n] w fun r w' => r = .returned (.tuple #[.agg (entF es n).vals.toArray, .int .i64 (entE es n)]) ∧ Fr (fun _ => False) w w' := by
  obtain ⟨a, c, rfl, hc⟩ := h.form
  have hf := h.few
  have hx := h.cell
  unfold entF entE
  by_cases ho : n < 0 ∨ 3 + (es.length : Int) ≤ n
  · rw [if_pos ho, if_pos ho]
    exact entry_out tb es.length c a n (by omega) ho w hx
  · rw [if_neg ho, if_neg ho]
    by_cases h3 : n < 3
    · rw [if_pos h3]
      obtain ⟨k, rfl⟩ : ∃ k : Nat, n = k := ⟨n.toNat, by omega⟩
      exact entry_first tb es.length c a k (by omega) (by omega) w hx
    · rw [if_neg h3]
      obtain ⟨k, rfl⟩ : ∃ k : Nat, n = 3 + k := ⟨(n - 3).toNat, by omega⟩
      rw [show ((3 : Int) + k - 3).toNat = k by omega]
      obtain ⟨g, rfl, _, hcell⟩ := hc k (by omega)
      exact entry_in tb es.length c g k _ (by omega) (by omega) w hx hcell
end Go.Proofs.Ytbhhmmfopammgaa
