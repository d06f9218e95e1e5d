/-
  The contract of fetch (layer 3). The contract of fetch where there is an instruction (layer 3).
-/
import Derived.Test.YtipfefkddnogjaaDevH
import Derived.Outline
import Derived.BigRegion
namespace Go.Proofs.Ytipfefkddnogjaa
open Go.RowKit
set_option linter.unusedVariables false
set_option linter.unusedSimpArgs false
theorem c79_odd (b : Nat) (d : Option Addr) (n c : Nat) (p : Int) (p0 : 0 ≤ p) (p1 : p ≤ 4294967295) (w : World) (hx : w.cell? ⟨b, 32, none⟩ = some (.int .u32 p))
    (hd : w.cell? ⟨b, 35, none⟩ = some (.slice d n c)) (ho : (p % 4 == 0) = false) :
    Calls Try.prog 79 #[.pointer (some ⟨b, 0, none⟩)] w fun e w' => e = .returned (.agg #[.int .i64 0, .int .i64 0, .int .i64 0, .int .i64 0, .int .i64 0]) ∧ w.grownBy w' none := by
  have hA : ∀ o : Obj, (w.alloc o).cell? ⟨b, 32, none⟩ = some (.int .u32 p) := fun o => (byAlloc (byRefl w) o).cell hx (by simp)
  have hdA : ∀ o : Obj, (w.alloc o).cell? ⟨b, 35, none⟩ = some (.slice d n c) := fun o => (byAlloc (byRefl w) o).cell hd (by simp)
  have HB : ∀ o, Hid (w.grownBy (w.alloc o) none) := fun o => Lib.hid (byAlloc (byRefl w) o)
  go_enter Try.func79, Try.ntmps79
  go_wp2
  refine bodyPost_ret (results_cell_row rfl _ _ w.heap.size 23 _ (0, 0) _ rfl (heap_alloc_new _ _) Try.underlying23 rfl (by kernel_rfl)) rfl ⟨by rfl, (HB _).out⟩
theorem c79_far (b : Nat) (d : Option Addr) (n c : Nat) (p : Int) (p0 : 0 ≤ p) (p1 : p ≤ 4294967295) (w : World) (hx : w.cell? ⟨b, 32, none⟩ = some (.int .u32 p))
    (hd : w.cell? ⟨b, 35, none⟩ = some (.slice d n c)) (ho : (p % 4 == 0) = true) (hn : (n : Int) ≤ p / 4) :
    Calls Try.prog 79 #[.pointer (some ⟨b, 0, none⟩)] w fun e w' => e = .returned (.agg #[.int .i64 0, .int .i64 0, .int .i64 0, .int .i64 0, .int .i64 0]) ∧ w.grownBy w' none := by
  have hA : ∀ o : Obj, (w.alloc o).cell? ⟨b, 32, none⟩ = some (.int .u32 p) := fun o => (byAlloc (byRefl w) o).cell hx (by simp)
  have hdA : ∀ o : Obj, (w.alloc o).cell? ⟨b, 35, none⟩ = some (.slice d n c) := fun o => (byAlloc (byRefl w) o).cell hd (by simp)
  have HB : ∀ o, Hid (w.grownBy (w.alloc o) none) := fun o => Lib.hid (byAlloc (byRefl w) o)
  have hlt : decide (p / 4 < (n : Int)) = false := decide_eq_false (by omega)
  go_enter Try.func79, Try.ntmps79
  go_wp2
  refine bodyPost_ret (results_cell_row rfl _ _ w.heap.size 23 _ (0, 0) _ rfl (heap_alloc_new _ _) Try.underlying23 rfl (by kernel_rfl)) rfl ⟨by rfl, (HB _).out⟩
theorem c79_in (b cb off : Nat) (n c : Nat) (k : Nat) (x0 x1 x2 x3 x4 : Int) (p1 : 4 * k ≤ 4294967295) (w : World) (hx : w.cell? ⟨b, 32, none⟩ = some (.int .u32 ((4 * k : Nat) : Int)))
    (hd : w.cell? ⟨b, 35, none⟩ = some (.slice (some ⟨cb, off, none⟩) n c)) (hk : k < n)
    (h0 : w.cell? ⟨cb, off + k * 5, none⟩ = some (.int .i64 x0)) (h1 : w.cell? ⟨cb, off + k * 5 + 1, none⟩ = some (.int .i64 x1)) (h2 : w.cell? ⟨cb, off + k * 5 + 2, none⟩ = some (.int .i64 x2)) (h3 : w.cell? ⟨cb, off + k * 5 + 3, none⟩ = some (.int .i64 x3)) (h4 : w.cell? ⟨cb, off + k * 5 + 4, none⟩ = some (.int .i64 x4)) :
    Calls Try.prog 79 #[.pointer (some ⟨b, 0, none⟩)] w fun e w' => e = .returned (.agg #[.int .i64 x0, .int .i64 x1, .int .i64 x2, .int .i64 x3, .int .i64 x4]) ∧ w.grownBy w' none := by
  have hA : ∀ o : Obj, (w.alloc o).cell? ⟨b, 32, none⟩ = some (.int .u32 ((4 * k : Nat) : Int)) := fun o => (byAlloc (byRefl w) o).cell hx (by simp)
  have hdA : ∀ o : Obj, (w.alloc o).cell? ⟨b, 35, none⟩ = some (.slice (some ⟨cb, off, none⟩) n c) := fun o => (byAlloc (byRefl w) o).cell hd (by simp)
  have H0 : ∀ o : Obj, (w.alloc o).cell? ⟨cb, off + k * 5, none⟩ = some (.int .i64 x0) := fun o => (byAlloc (byRefl w) o).cell h0 (by simp)
  have H1 : ∀ o : Obj, (w.alloc o).cell? ⟨cb, off + k * 5 + 1, none⟩ = some (.int .i64 x1) := fun o => (byAlloc (byRefl w) o).cell h1 (by simp)
  have H2 : ∀ o : Obj, (w.alloc o).cell? ⟨cb, off + k * 5 + 2, none⟩ = some (.int .i64 x2) := fun o => (byAlloc (byRefl w) o).cell h2 (by simp)
  have H3 : ∀ o : Obj, (w.alloc o).cell? ⟨cb, off + k * 5 + 3, none⟩ = some (.int .i64 x3) := fun o => (byAlloc (byRefl w) o).cell h3 (by simp)
  have H4 : ∀ o : Obj, (w.alloc o).cell? ⟨cb, off + k * 5 + 4, none⟩ = some (.int .i64 x4) := fun o => (byAlloc (byRefl w) o).cell h4 (by simp)
  have HB : ∀ o, Hid (w.grownBy (w.alloc o) none) := fun o => Lib.hid (byAlloc (byRefl w) o)
  have e1 : ((4 * k : Nat) : Int) % 4 = 0 := by omega
  have e2 : ((4 * k : Nat) : Int) / 4 = (k : Int) := by omega
  obtain ⟨p, hp⟩ : ∃ p : Int, p = ((4 * k : Nat) : Int) := ⟨_, rfl⟩
  have pb : 0 ≤ p ∧ p ≤ 4294967295 := by omega
  obtain ⟨pb0, pb1⟩ := pb
  rw [← hp] at hx e1 e2
  simp only [← hp] at hA
  clear hp hx hd h0 h1 h2 h3 h4
  go_enter Try.func79, Try.ntmps79
  go_wp2
  refine bodyPost_ret (results_cell_row rfl _ _ w.heap.size 23 _ (0, 0) _ rfl (heap_alloc_new _ _) Try.underlying23 rfl (by kernel_rfl)) rfl ⟨by rfl, (HB _).out⟩
end Go.Proofs.Ytipfefkddnogjaa
