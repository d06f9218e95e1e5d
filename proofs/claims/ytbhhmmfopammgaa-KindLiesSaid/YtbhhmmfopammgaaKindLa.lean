/-
  Tables of types (layer 8): acts that came in; are they few?
-/
import Derived.Test.YtbhhmmfopammgaaKindKa
import Derived.LoopTactic
import Derived.Outline
namespace Go.Proofs.Ytbhhmmfopammgaa
open Go.RowKit
set_option linter.unusedVariables false
set_option linter.unusedSimpArgs false
def act0 : ActV := ⟨0, 0, 0, ⟨#[]⟩, none, 0, 0⟩
/-- A slice of acts as it lies in memory; the k-th has the fields fsl k. -/
def ActsAt (w : World) (a : Option Addr) (n : Nat) (xs : List ActV) (fsl : Nat → List Fld) : Prop :=
  n = xs.length ∧ ∀ k, k < xs.length → ∃ g o, a = some ⟨g, o, none⟩ ∧ (∀ j, j < 5 → w.cell? ⟨g, o + (k * 5 + j), none⟩ = (xs.getD k act0).vals[j]?) ∧ FldAt w (xs.getD k act0).fa (xs.getD k act0).fn (fsl k)
theorem ActsAt.quiet {w w' : World} {a : Option Addr} {n : Nat} {xs : List ActV} {fsl : Nat → List Fld} (h : ActsAt w a n xs fsl) (hf : Fr (fun _ => False) w w') : ActsAt w' a n xs fsl := by
  refine ⟨h.1, fun k hk => ?_⟩
  obtain ⟨g, o, ha, hc, hl⟩ := h.2 k hk
  refine ⟨g, o, ha, fun j hj => ?_, hl.quiet hf⟩
  have h1 : ∃ x, (xs.getD k act0).vals[j]? = some x := ⟨_, List.getElem?_eq_getElem (by simpa [ActV.vals] using hj)⟩
  obtain ⟨x, h1⟩ := h1
  rw [h1]
  exact hf.cell ((hc j hj).trans h1) id
/-- What few acts are. -/
def FewP (xs : List ActV) (fsl : Nat → List Fld) : Prop := xs.length ≤ 30 ∧ ∀ k, k < xs.length → (xs.getD k act0).name.size ≤ 100 ∧ (xs.getD k act0).fn ≤ 12 ∧ ∀ i, i < (fsl k).length → ((fsl k).getD i fld0).name.size ≤ 100
set_option maxRecDepth 100000 in
set_option maxHeartbeats 2000000 in
theorem few_of {w : World} {a : Option Addr} {n c : Nat} {xs : List ActV} {fsl : Nat → List Fld} (h : ActsAt w a n xs fsl) (hn : (n : Int) ≤ 9223372036854775807) (hsz : ∀ k, k < xs.length → (xs.getD k act0).name.size ≤ maxLen ∧ (xs.getD k act0).fn ≤ maxLen ∧ ∀ i, i < (fsl k).length → ((fsl k).getD i fld0).name.size ≤ maxLen) :
    Calls Try.prog 8 #[.slice a n c] w fun r w' => ∃ b, r = .returned (.bool b) ∧ (b = true → FewP xs fsl) ∧ w = w' := by
  have HC := Lib.hid h.2
  have HN := Lib.hid h.1
  have HSZ := Lib.hid hsz
  clear h hsz
  by_cases h30 : 30 < n
  · have hb : decide ((30 : Int) < n) = true := decide_eq_true (by omega)
    go_enter Try.func8, Try.ntmps8
    go_wp2
    go_ret
    exact ⟨false, rfl, fun e => (by cases e), rfl⟩
  · have hb : decide ((30 : Int) < n) = false := decide_eq_false (by omega)
    have hn30 : n ≤ 30 := by omega
    clear h30 hn
    go_enter Try.func8, Try.ntmps8
    go_wp2
    go_loopw [3] (fun q wr => ∃ k : Nat, q = .int .i64 k ∧ k ≤ n ∧ Hid (∀ j, j < k → (xs.getD j act0).name.size ≤ 100 ∧ (xs.getD j act0).fn ≤ 12 ∧ ∀ i, i < (fsl j).length → ((fsl j).getD i fld0).name.size ≤ 100) ∧ wr = w) (fun q _ => n - (intOf q).toNat)
    case atStart => exact ⟨0, rfl, Nat.zero_le _, Lib.hid fun j hj => by omega, rfl⟩
    case round =>
      obtain ⟨k, rfl, hk, HW, rfl⟩ := hrel
      by_cases hlt : k < n
      · obtain ⟨g, o, rfl, hcell, hfl⟩ := HC.out k (by have := HN.out; omega)
        obtain ⟨s1, s2, s3⟩ := HSZ.out k (by have := HN.out; omega)
        obtain ⟨e, he⟩ : ∃ e, xs.getD k act0 = e := ⟨_, rfl⟩
        rw [he] at hcell hfl s1 s2
        have HE := Lib.hid he
        have q3 : wr.cell? ⟨g, o + k * 5 + 3, none⟩ = some (.string e.name) := hcell 3 (by decide)
        have q4 : wr.cell? ⟨g, o + k * 5 + 4, none⟩ = some (.slice e.fa e.fn e.fc) := hcell 4 (by decide)
        have t0 : (0 : Int) ≤ k := by omega
        have t1 : (k : Int) < n := by omega
        clear hcell he
        unfold maxLen at s1 s2
        by_cases c1 : 100 < e.name.size
        · have d1 : decide ((100 : Int) < e.name.size) = true := decide_eq_true (by omega)
          go_wp2
          go_ret
          exact ⟨false, rfl, fun e => (by cases e), rfl⟩
        · have d1 : decide ((100 : Int) < e.name.size) = false := decide_eq_false (by omega)
          by_cases c2 : 12 < e.fn
          · have d2 : decide ((12 : Int) < e.fn) = true := decide_eq_true (by omega)
            go_wp2
            go_ret
            exact ⟨false, rfl, fun e => (by cases e), rfl⟩
          · have d2 : decide ((12 : Int) < e.fn) = false := decide_eq_false (by omega)
            have hl2 : (fsl k).length = e.fn := hfl.1.symm
            go_wp2
            go_loopw [4] (fun q w2 => ∃ i : Nat, q = .int .i64 i ∧ i ≤ e.fn ∧ Hid (∀ j, j < i → ((fsl k).getD j fld0).name.size ≤ 100) ∧ w2 = wr) (fun q _ => e.fn - (intOf q).toNat)
            case atStart => exact ⟨0, rfl, Nat.zero_le _, Lib.hid fun j hj => by omega, rfl⟩
            case round =>
              obtain ⟨i, rfl, hi, HW2, rfl⟩ := hrel
              by_cases hli : i < e.fn
              · obtain ⟨g2, o2, ha2, hc2⟩ := hfl.2 i (by omega)
                have s4 := s3 i (by omega)
                obtain ⟨f, hf⟩ : ∃ f, (fsl k).getD i fld0 = f := ⟨_, rfl⟩
                rw [hf] at hc2 s4
                have HF := Lib.hid hf
                rw [ha2] at q4
                have p0 : wr.cell? ⟨g2, o2 + i * 3, none⟩ = some (.string f.name) := hc2 0 (by decide)
                have t2 : (0 : Int) ≤ i := by omega
                have t3 : (i : Int) < e.fn := by omega
                clear hc2 hf
                unfold maxLen at s4
                by_cases c3 : 100 < f.name.size
                · have d3 : decide ((100 : Int) < f.name.size) = true := decide_eq_true (by omega)
                  go_wp2
                  go_ret
                  exact ⟨false, rfl, fun e => (by cases e), rfl⟩
                · have d3 : decide ((100 : Int) < f.name.size) = false := decide_eq_false (by omega)
                  go_wp2
                  go_roundw
                  case rel => exact ⟨i + 1, by go_num, by omega, Lib.hid (fun j hj => by
                    by_cases hjk : j < i
                    · exact HW2.out j hjk
                    · obtain rfl : j = i := by omega
                      rw [HF.out]; omega), trivial⟩
                  case measure => simp [intOf]; omega
              · obtain rfl : e.fn = i := by omega
                go_wp2
                go_roundw
                case rel => exact ⟨k + 1, by go_num, by omega, Lib.hid (fun j hj => by
                  by_cases hjk : j < k
                  · exact HW.out j hjk
                  · obtain rfl : j = k := by omega
                    rw [HE.out]
                    exact ⟨by omega, by omega, fun i hi => HW2.out i (by omega)⟩), trivial⟩
                case measure => simp [intOf]; omega
      · obtain rfl : n = k := by omega
        go_wp2
        go_ret
        exact ⟨true, rfl, fun _ => ⟨by have := HN.out; omega, fun j hj => HW.out j (by have := HN.out; omega)⟩, rfl⟩
end Go.Proofs.Ytbhhmmfopammgaa
