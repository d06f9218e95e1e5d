/-
  The contract of find: the first instruction's number whose codes stand in a word, or 0.
-/
import Derived.Test.YtlagdgkjpnocfaaGreatDoorEnc
namespace Go.Proofs.YtlagdgkjpnocfaaGreatDoor
open Go.RowKit
set_option linter.unusedVariables false

/-- Do the codes of number k stand in the word? -/
def mB (u : Int) (k : Nat) : Bool := k != 0 && bits .and .u32 u (maskF (fm k)) == fixK k
def findI (u : Int) : Nat := ((List.range 46).find? (mB u)).getD 0
theorem find_first {u : Int} {k : Nat} (hk : k < 46) (h : ∀ j, j < k → mB u j = false) (hm : mB u k = true) : findI u = k := by
  have e : (List.range 46).find? (mB u) = some k := by
    rw [List.find?_eq_some_iff_getElem]
    refine ⟨hm, k, by simpa using hk, by simp, fun j hj => ?_⟩
    simp only [List.getElem_range]
    rw [h j hj]; rfl
  unfold findI; rw [e]; rfl
theorem find_none {u : Int} (h : ∀ j, j < 46 → mB u j = false) : findI u = 0 := by
  have e : (List.range 46).find? (mB u) = none := by
    rw [List.find?_eq_none]
    intro x hx
    rw [h x (by simpa using hx)]; simp
  unfold findI; rw [e]; rfl
set_option maxRecDepth 1000000 in
set_option maxHeartbeats 8000000 in
theorem index_codes (k : Nat) (h : k < 46) (w : World) : (Instr.index 104 (.agg codesArr) (.int .i64 k)).run Tryz.prog w = .ok (.agg #[.string (nm k), .int .u8 (fm k), .int .u8 (oc k), .int .u8 (f3 k), .int .u8 (f7 k)]) w := by
  match k, h with
  | 0, _ | 1, _ | 2, _ | 3, _ | 4, _ | 5, _ | 6, _ | 7, _ | 8, _ | 9, _ | 10, _ | 11, _ | 12, _ | 13, _ | 14, _ | 15, _ | 16, _ | 17, _ | 18, _ | 19, _ | 20, _ | 21, _ | 22, _ | 23, _ | 24, _ | 25, _ | 26, _ | 27, _ | 28, _ | 29, _ | 30, _ | 31, _ | 32, _ | 33, _ | 34, _ | 35, _ | 36, _ | 37, _ | 38, _ | 39, _ | 40, _ | 41, _ | 42, _ | 43, _ | 44, _ | 45, _ => (show _ = _; kernel_rfl)
  | n + 46, hn => exact absurd hn (by omega)
set_option maxRecDepth 100000 in
set_option maxHeartbeats 8000000 in
theorem c97 (u : Int) (h0 : 0 ≤ u) (h1 : u ≤ 4294967295) (w : World) :
    Calls Tryz.prog 97 #[.int .u32 u] w fun e w' => e = .returned (.int .i64 (findI u)) ∧ Grown w w' := by
  go_enter Tryz.func97, Tryz.ntmps97
  go_wp2_with (go_at_call 68; (with_reducible refine (c68 _).mono ?_); rintro e w' ⟨rfl, hg⟩; have HG := Lib.hid hg; clear hg)
  go_loopw [6] (fun j wr => ∃ k : Nat, k ≤ 46 ∧ j = .int .i64 k ∧ Hid (∀ i, i < k → mB u i = false) ∧ Hid (Grown w wr)) (fun j _ => 46 - (intOf j).toNat)
  case atStart => exact ⟨0, by omega, rfl, Lib.hid (fun i hi => absurd hi (by omega)), HG⟩
  case round =>
    obtain ⟨k, hk, rfl, HN, HW⟩ := hrel
    clear HG
    by_cases hlt : k < 46
    · have hix := index_codes k hlt
      have K76 : Hid (∀ w, Calls Tryz.prog 77 #[.agg #[.string (nm k), .int .u8 (fm k), .int .u8 (oc k), .int .u8 (f3 k), .int .u8 (f7 k)]] w fun e w' => e = .returned (.int .u32 (fixK k)) ∧ Grown w w') := Lib.hid (c77 (nm k) (fm k) (oc k) (f3 k) (f7 k) (oc_in k hlt) (f3_in k hlt) (f7_in k hlt))
      have K97 := Lib.hid (c125 (fm k) (fm_form' k hlt))
      by_cases hk0 : k = 0
      · have hkn : ((k : Int) != 0) = false := by simp; omega
        have HN' : Hid (∀ i, i < k + 1 → mB u i = false) := Lib.hid (fun i hi => by
          have : i = 0 := by omega
          subst this; rfl)
        have H0 := Lib.hid hk0
        clear hk0
        go_wp2
        have HG := Lib.hid (HW.out.alloc #[.string (nm k), .int .u8 (fm k), .int .u8 (oc k), .int .u8 (f3 k), .int .u8 (f7 k)] 80)
        clear HW
        generalize wr.alloc (.cells #[.string (nm k), .int .u8 (fm k), .int .u8 (oc k), .int .u8 (f3 k), .int .u8 (f7 k)] 80) = w2 at *
        go_quiet (fail)
        go_wp2
        go_roundw
        case rel => exact ⟨k + 1, by omega, by go_num, HN', Lib.hid (grown_drewN HG.out _)⟩
        case measure => simp [intOf]; omega
      · have hkn : ((k : Int) != 0) = true := by simp; omega
        cases hm : (bits BinOp.and .u32 u (maskF (fm k)) == fixK k)
        · have HN' : Hid (∀ i, i < k + 1 → mB u i = false) := Lib.hid (fun i hi => by
            by_cases hi' : i < k
            · exact HN.out i hi'
            · have : i = k := by omega
              subst this; unfold mB; rw [hm]; simp)
          go_wp2
          have G0 : Grown w (wr.alloc (.cells #[.string (nm k), .int .u8 (fm k), .int .u8 (oc k), .int .u8 (f3 k), .int .u8 (f7 k)] 80)) := HW.out.alloc _ _
          have z0 := row_cell wr #[.string (nm k), .int .u8 (fm k), .int .u8 (oc k), .int .u8 (f3 k), .int .u8 (f7 k)] 80 0 (.string (nm k)) rfl
          have z1 := row_cell wr #[.string (nm k), .int .u8 (fm k), .int .u8 (oc k), .int .u8 (f3 k), .int .u8 (f7 k)] 80 1 (.int .u8 (fm k)) rfl
          have z2 := row_cell wr #[.string (nm k), .int .u8 (fm k), .int .u8 (oc k), .int .u8 (f3 k), .int .u8 (f7 k)] 80 2 (.int .u8 (oc k)) rfl
          have z3 := row_cell wr #[.string (nm k), .int .u8 (fm k), .int .u8 (oc k), .int .u8 (f3 k), .int .u8 (f7 k)] 80 3 (.int .u8 (f3 k)) rfl
          have z4 := row_cell wr #[.string (nm k), .int .u8 (fm k), .int .u8 (oc k), .int .u8 (f3 k), .int .u8 (f7 k)] 80 4 (.int .u8 (f7 k)) rfl
          clear HW
          generalize wr.alloc (.cells #[.string (nm k), .int .u8 (fm k), .int .u8 (oc k), .int .u8 (f3 k), .int .u8 (f7 k)] 80) = w2 at *
          generalize wr.heap.size = b at *
          go_region_held3 (fun w' => Grown w w' ∧ w'.cell? ⟨b, 0, none⟩ = some (.string (nm k)) ∧ w'.cell? ⟨b, 1, none⟩ = some (.int .u8 (fm k)) ∧ w'.cell? ⟨b, 2, none⟩ = some (.int .u8 (oc k)) ∧ w'.cell? ⟨b, 3, none⟩ = some (.int .u8 (f3 k)) ∧ w'.cell? ⟨b, 4, none⟩ = some (.int .u8 (f7 k)))
            (first | exact ⟨G0, z0, z1, z2, z3, z4⟩ | assumption | exact keep5 (by assumption) (by assumption))
            (first
              | (go_at_call 125; refine (K97.out _).mono ?_; rintro e w' ⟨rfl, rfl⟩)
              | (go_at_call 77; refine (K76.out _).mono ?_; rintro e w' ⟨rfl, hg⟩))
          have HG : Hid (Grown w w') := Lib.hid (keepG5 (by assumption))
          clear G0 z0 z1 z2 z3 z4
          go_wp2
          go_roundw
          case rel => exact ⟨k + 1, by omega, by go_num, HN', HG⟩
          case measure => simp [intOf]; omega
        · have HF := Lib.hid (find_first hlt HN.out (by unfold mB; rw [hm]; simpa using hk0))
          go_wp2
          have G0 : Grown w (wr.alloc (.cells #[.string (nm k), .int .u8 (fm k), .int .u8 (oc k), .int .u8 (f3 k), .int .u8 (f7 k)] 80)) := HW.out.alloc _ _
          have z0 := row_cell wr #[.string (nm k), .int .u8 (fm k), .int .u8 (oc k), .int .u8 (f3 k), .int .u8 (f7 k)] 80 0 (.string (nm k)) rfl
          have z1 := row_cell wr #[.string (nm k), .int .u8 (fm k), .int .u8 (oc k), .int .u8 (f3 k), .int .u8 (f7 k)] 80 1 (.int .u8 (fm k)) rfl
          have z2 := row_cell wr #[.string (nm k), .int .u8 (fm k), .int .u8 (oc k), .int .u8 (f3 k), .int .u8 (f7 k)] 80 2 (.int .u8 (oc k)) rfl
          have z3 := row_cell wr #[.string (nm k), .int .u8 (fm k), .int .u8 (oc k), .int .u8 (f3 k), .int .u8 (f7 k)] 80 3 (.int .u8 (f3 k)) rfl
          have z4 := row_cell wr #[.string (nm k), .int .u8 (fm k), .int .u8 (oc k), .int .u8 (f3 k), .int .u8 (f7 k)] 80 4 (.int .u8 (f7 k)) rfl
          clear HW
          generalize wr.alloc (.cells #[.string (nm k), .int .u8 (fm k), .int .u8 (oc k), .int .u8 (f3 k), .int .u8 (f7 k)] 80) = w2 at *
          generalize wr.heap.size = b at *
          go_region_held3 (fun w' => Grown w w' ∧ w'.cell? ⟨b, 0, none⟩ = some (.string (nm k)) ∧ w'.cell? ⟨b, 1, none⟩ = some (.int .u8 (fm k)) ∧ w'.cell? ⟨b, 2, none⟩ = some (.int .u8 (oc k)) ∧ w'.cell? ⟨b, 3, none⟩ = some (.int .u8 (f3 k)) ∧ w'.cell? ⟨b, 4, none⟩ = some (.int .u8 (f7 k)))
            (first | exact ⟨G0, z0, z1, z2, z3, z4⟩ | assumption | exact keep5 (by assumption) (by assumption))
            (first
              | (go_at_call 125; refine (K97.out _).mono ?_; rintro e w' ⟨rfl, rfl⟩)
              | (go_at_call 77; refine (K76.out _).mono ?_; rintro e w' ⟨rfl, hg⟩))
          have HG : Hid (Grown w w') := Lib.hid (keepG5 (by assumption))
          clear G0 z0 z1 z2 z3 z4
          go_wp2
          go_ret
          exact ⟨by rw [HF.out]; rfl, HG.out⟩
    · have hk4 : k = 46 := by omega
      subst hk4
      have HF := Lib.hid (find_none HN.out)
      go_wp2
      go_ret
      exact ⟨by rw [HF.out]; rfl, HW.out⟩
end Go.Proofs.YtlagdgkjpnocfaaGreatDoor
