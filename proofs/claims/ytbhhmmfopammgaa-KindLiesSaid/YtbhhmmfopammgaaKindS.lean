/-
  Tables of types (layer 8): placing one part behind the other.
-/
import Derived.Test.YtbhhmmfopammgaaKindR
import Derived.Outline
namespace Go.Proofs.Ytbhhmmfopammgaa
open Go.RowKit
set_option linter.unusedVariables false
set_option linter.unusedSimpArgs false
theorem placer_of (w : World) : Calls Try.prog 51 #[] w fun r w' => r = .returned (.func (.func 53) #[] #[.pointer (some ⟨w.heap.size, 0, none⟩)]) ∧ w' = w.alloc (.cells #[.int .i64 0] 3) := by
  have hmf : ∀ fn first cap w, (Instr.makeFunc fn first cap).run Try.prog w = .ok (.func fn first cap) w := fun _ _ _ _ => rfl
  go_enter Try.func51, Try.ntmps51
  go_wp2
  go_ret
  exact ⟨rfl, rfl⟩
/-- The least multiple that is no less. -/
def upI (n al : Int) : Int := (n + al - 1) / al * al
theorem upI_le {n al : Int} (h : 1 ≤ al) : upI n al ≤ n + al - 1 := by
  unfold upI
  exact Int.ediv_mul_le _ (by omega)
theorem upI_ge {n al : Int} (h : 1 ≤ al) : n ≤ upI n al := by
  unfold upI
  have h1 := Int.lt_ediv_add_one_mul_self (n + al - 1) (by omega : 0 < al)
  have h2 : ((n + al - 1) / al + 1) * al = (n + al - 1) / al * al + al := by rw [Int.add_mul]; omega
  omega
theorem placer_step (pb : Nat) (nx s al : Int) (w : World) (hx : w.cell? ⟨pb, 0, none⟩ = some (.int .i64 nx)) (hf : w.frozen? ⟨pb, 0, none⟩ = false)
    (h0 : 0 ≤ nx ∧ nx ≤ 1000000000) (h1 : 1 ≤ al ∧ al ≤ 1000) (h2 : 0 ≤ s ∧ s ≤ 1000000) :
    Calls Try.prog 53 #[.int .i64 s, .int .i64 al, .pointer (some ⟨pb, 0, none⟩)] w fun r w' => r = .returned (.int .i64 (upI nx al)) ∧ w' = w.setCell ⟨pb, 0, none⟩ (.int .i64 (upI nx al + s)) := by
  have u1 := upI_le (n := nx) h1.1
  have u2 := upI_ge (n := nx) h1.1
  obtain ⟨a0, a1⟩ := h0
  obtain ⟨b0, b1⟩ := h1
  obtain ⟨c0, c1⟩ := h2
  have hz : (al == 0) = false := by rw [beq_eq_false_iff_ne]; omega
  have hd : (nx + al - 1).tdiv al = (nx + al - 1) / al := Int.tdiv_eq_ediv_of_nonneg (by omega)
  have hq0 : 0 ≤ (nx + al - 1) / al := Int.ediv_nonneg (by omega) (by omega)
  have hq1 : (nx + al - 1) / al ≤ nx + al - 1 := Int.ediv_le_self _ (by omega)
  have hm : (nx + al - 1) / al * al = upI nx al := rfl
  generalize upI nx al = u at *
  generalize (nx + al - 1) / al = q at *
  go_enter Try.func53, Try.ntmps53
  go_wp2
  go_ret
  exact ⟨rfl, rfl⟩
end Go.Proofs.Ytbhhmmfopammgaa
