/-
  How many instructions and blocks a procedure has (layer 13).
-/
import Derived.Test.YtnhdchagoabjeaaDoorBldE
import Derived.Test.YtnhdchagoabjeaaDoorIqH
namespace Go.Proofs.YtnhdchagoabjeaaDoor
open Go.RowKit
set_option linter.unusedVariables false
set_option linter.unusedSimpArgs false
def cntL (l : List Bk) : Nat → Nat
  | 0 => 0
  | k + 1 => cntL l k + (l.getD k bk0).ins.length
theorem cntL_le (l : List Bk) (h : ∀ x ∈ l, x.ok) (k : Nat) (hk : k ≤ l.length) : cntL l k ≤ 1000 * k := by
  induction k with
  | zero => simp [cntL]
  | succ k ih =>
    have h1 := ih (by omega)
    have h2 := (h _ (getD_mem (l := l) (k := k) (by omega))).n
    simp only [cntL]; omega
set_option maxRecDepth 100000 in
set_option maxHeartbeats 4000000 in
theorem count_any (nm vd pa rg ob : Value) (ab : Option Addr) (cb : Nat) (l : List Bk) (hl : l.length ≤ 1000) (hok : ∀ x ∈ l, x.ok) (w : World) (hat : BkL w ab l) :
    Calls Tryd.prog 44 #[.agg #[nm, vd, pa, rg, ob, .slice ab l.length cb]] w fun e w' => e = .returned (.int .i64 (cntL l l.length)) ∧ Fr (fun _ => False) w w' := by
  have HA := Lib.hid hat
  have HOK := Lib.hid hok
  obtain ⟨n, hn⟩ : ∃ n, l.length = n := ⟨_, rfl⟩
  have HN := Lib.hid hn
  rw [hn] at hl ⊢
  clear hat hok hn
  go_enter Tryd.func44, Tryd.ntmps44
  go_wp2
  have HF0 : Hid (Fr (fun _ => False) w (w.alloc (.cells #[nm, vd, pa, rg, ob, .slice ab n cb] 50))) := Lib.hid (fr_al (Fr.refl _ _) _)
  go_loopw [3, 9] (fun s q wr => ∃ k : Nat, q = .int .i64 k ∧ s = .int .i64 (cntL l k) ∧ k ≤ n ∧ Hid (Fr (fun _ => False) w wr)) (fun _ q _ => n - (intOf q).toNat)
  case atStart => exact ⟨0, rfl, rfl, Nat.zero_le _, HF0⟩
  case round =>
    obtain ⟨k, rfl, rfl, hk, HW⟩ := hrel
    by_cases hlt : k < n
    · have hkl : k < l.length := by rw [HN.out]; exact hlt
      obtain ⟨g, o, rfl, ⟨ai, ci, c0', HIL⟩, c1', c2', c3', c4'⟩ := HA.out k hkl
      have c0 := HW.out.cell c0' id
      have c1 := HW.out.cell c1' id
      have c2 := HW.out.cell c2' id
      have c3 := HW.out.cell c3' id
      have c4 := HW.out.cell c4' id
      have hc := cntL_le l HOK.out k (by omega)
      have hi := (HOK.out _ (getD_mem hkl)).n
      have HC : Hid (cntL l (k + 1) = cntL l k + (l.getD k bk0).ins.length) := Lib.hid rfl
      generalize cntL l k = m at *
      generalize (l.getD k bk0).ins.length = ni at *
      have hk1 : (m : Int) ≤ 1000 * k := by omega
      have hi1 : (ni : Int) ≤ 1000 := by omega
      clear c0' c1' c2' c3' c4' HIL hkl
      go_wp2
      go_roundw
      case rel => exact ⟨k + 1, by go_num, by rw [HC.out]; go_num, by omega, Lib.hid (fr_al HW.out _)⟩
      case measure => simp [intOf]; omega
    · obtain rfl : k = n := by omega
      go_wp2
      go_ret
      exact ⟨rfl, HW.out⟩
set_option maxRecDepth 100000 in
set_option maxHeartbeats 4000000 in
theorem size_any (nm vd pa rg ob : Value) (ab : Option Addr) (cb : Nat) (l : List Bk) (hl : l.length ≤ 1000) (hok : ∀ x ∈ l, x.ok) (w : World) (hat : BkL w ab l) :
    Calls Tryd.prog 23 #[.agg #[nm, vd, pa, rg, ob, .slice ab l.length cb]] w fun e w' => e = .returned (.int .i64 (cntL l l.length + l.length)) ∧ Fr (fun _ => False) w w' := by
  have HC := Lib.hid (fun (W : World) (h : Fr (fun _ => False) w W) => count_any nm vd pa rg ob ab cb l hl hok W (hat.fr h))
  have hc := cntL_le l hok l.length (Nat.le_refl _)
  generalize cntL l l.length = m at *
  generalize l.length = n at *
  have t0 : (m : Int) ≤ 1000 * n := by omega
  have t1 : (n : Int) ≤ 1000 := by omega
  have hw : IntKind.i64.wrap ((m : Int) + n) = m + n := IntWalk.i64_in _ (by omega)
  clear hat hok hl hc
  go_enter Tryd.func23, Tryd.ntmps23
  go_wp2
  have HF0 : Hid (Fr (fun _ => False) w (w.alloc (.cells #[nm, vd, pa, rg, ob, .slice ab n cb] 50))) := Lib.hid (fr_al (Fr.refl _ _) _)
  have HR : Hid (∀ (j : Nat) (y : Value), (#[nm, vd, pa, rg, ob, .slice ab n cb] : Array Value)[j]? = some y → (w.alloc (.cells #[nm, vd, pa, rg, ob, .slice ab n cb] 50)).cell? ⟨w.heap.size, j, none⟩ = some y) := Lib.hid (fun j y h => fcell w _ _ j y h)
  generalize w.alloc (.cells #[nm, vd, pa, rg, ob, .slice ab n cb] 50) = V at *
  generalize w.heap.size = b at *
  have k0 := HR.out 0 _ rfl
  have k1 := HR.out 1 _ rfl
  have k2 := HR.out 2 _ rfl
  have k3 := HR.out 3 _ rfl
  have k4 := HR.out 4 _ rfl
  have k5 := HR.out 5 _ rfl
  refine wp_region_class (fun W => Fr (fun _ => False) V W) (by kernel_rfl) (by kernel_rfl) ((Fr.refl _ _).drewN 1) ?_
  repeat (first
    | go_big_quiet_skip
    | (go_big_quiet_want; go_big_quiet_op; first
      | go_big_quiet_on
      | (apply Exists.intro; refine ⟨fun W hW => ?_, ?_⟩; (first
        | with_reducible rfl
        | (simp only [Result.andThen, hW.cell k0 id, hW.cell k1 id, hW.cell k2 id, hW.cell k3 id, hW.cell k4 id, hW.cell k5 id]; first | exact ⟨rfl, rfl⟩ | exact ⟨trivial, rfl⟩)
        | (go_at_call 44; with_reducible exact callQ hW (HC.out _ (HF0.out.trans hW)))); go_big_quiet_on)))
  refine wpQuiet_nil ?_
  intro w5 hf5
  have HF5 := Lib.hid hf5
  clear hf5
  go_wp2_with fail
  go_ret
  exact ⟨rfl, HF0.out.trans HF5.out⟩
end Go.Proofs.YtnhdchagoabjeaaDoor
