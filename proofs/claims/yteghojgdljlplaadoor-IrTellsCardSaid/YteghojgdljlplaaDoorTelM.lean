/-
  Which registers an instruction reads (layer 13): the document's own, of any; two lists that are the same.
-/
import Derived.Test.YteghojgdljlplaaDoorTelK
import Derived.Test.YteghojgdljlplaaDoorTelL
import Derived.Deep.QuietTactic
import Derived.BigQuiet
namespace Go.Proofs.YteghojgdljlplaaDoor
open Go.RowKit
set_option linter.unusedVariables false
set_option linter.unusedSimpArgs false
set_option maxRecDepth 100000 in
theorem ruses_any (op d a b : Int) (y4 y5 y6 y7 y8 y10 : Value) (aa : Option Addr) (n c : Nat) (args : List Int) (hn : n = args.length) (hb : n ≤ 12) (w : World) (hat : IntsAt w aa args) :
    Calls Tryd.prog 17 #[.agg #[.int .i64 op, .int .i64 d, .int .i64 a, .int .i64 b, y4, y5, y6, y7, y8, .slice aa n c, y10]] w fun e w' => (∃ v, e = .returned v ∧ SlInts w' v (usesL op a b args)) ∧ Fr (fun _ => False) w w' := by
  by_cases hr : op < 1 ∨ 12 < op
  · obtain ⟨q1, q2, q3, q4, _⟩ := no_op hr
    rw [show usesL op a b args = [] by unfold usesL; rw [q2, q3, q4]; simp]
    exact uno op d a b y4 y5 y6 y7 y8 y10 aa n c hr w
  have hr : 1 ≤ op ∧ op ≤ 12 := by omega
  by_cases hA : hasA op = true
  · have hG : hasG op = false := by revert hA; unfold hasA hasG; simp; omega
    by_cases hB : hasB op = true
    · cases ha : (a == -1) <;> cases hb' : (b == -1)
      · rw [show usesL op a b args = [a, b] by unfold usesL; rw [hA, hB, hG]; simp [bne, ha, hb']]
        exact uab op d a b y4 y5 y6 y7 y8 y10 aa n c hr hA hB hG ha hb' w
      · rw [show usesL op a b args = [a] by unfold usesL; rw [hA, hB, hG]; simp [bne, ha, hb']]
        exact ua op d a b y4 y5 y6 y7 y8 y10 aa n c hr hA hB hG ha hb' w
      · rw [show usesL op a b args = [b] by unfold usesL; rw [hA, hB, hG]; simp [bne, ha, hb']]
        exact ub op d a b y4 y5 y6 y7 y8 y10 aa n c hr hA hB hG ha hb' w
      · rw [show usesL op a b args = [] by unfold usesL; rw [hA, hB, hG]; simp [bne, ha, hb']]
        exact u0 op d a b y4 y5 y6 y7 y8 y10 aa n c hr hA hB hG ha hb' w
    · have hB : hasB op = false := by simpa using hB
      cases ha : (a == -1)
      · rw [show usesL op a b args = [a] by unfold usesL; rw [hA, hB, hG]; simp [bne, ha]]
        exact va op d a b y4 y5 y6 y7 y8 y10 aa n c hr hA hB hG ha w
      · rw [show usesL op a b args = [] by unfold usesL; rw [hA, hB, hG]; simp [bne, ha]]
        exact v0 op d a b y4 y5 y6 y7 y8 y10 aa n c hr hA hB hG ha w
  · have hA : hasA op = false := by simpa using hA
    have hB : hasB op = false := by revert hA; unfold hasA hasB; simp; omega
    by_cases hG : hasG op = true
    · rw [show usesL op a b args = args.filter (fun x => x != -1) by unfold usesL; rw [hA, hB, hG]; simp]
      exact ug op d a b y4 y5 y6 y7 y8 y10 aa n c args hn hb hr hA hB hG w hat
    · have hG : hasG op = false := by simpa using hG
      rw [show usesL op a b args = [] by unfold usesL; rw [hA, hB, hG]; simp]
      exact z0 op d a b y4 y5 y6 y7 y8 y10 aa n c hr hA hB hG w
theorem usesL_len (op a b : Int) (args : List Int) : (usesL op a b args).length ≤ 2 + args.length := by
  unfold usesL
  refine Nat.le_trans (List.length_filter_le _ _) ?_
  split <;> split <;> split <;> simp <;> omega
set_option maxRecDepth 100000 in
set_option maxHeartbeats 8000000 in
theorem same_any (l : List Int) (v1 v2 : Value) (hb : l.length ≤ 1000) (w : World) (h1 : SlInts w v1 l) (h2 : SlInts w v2 l) : Calls Tryd.prog 15 #[v1, v2] w fun e w' => e = .returned (.bool true) ∧ Fr (fun _ => False) w w' := by
  obtain ⟨a1, c1, rfl, h1⟩ := h1
  obtain ⟨a2, c2, rfl, h2⟩ := h2
  have H1 := Lib.hid h1
  have H2 := Lib.hid h2
  obtain ⟨n, hn⟩ : ∃ n, l.length = n := ⟨_, rfl⟩
  have HN := Lib.hid hn
  rw [hn] at hb ⊢
  clear h1 h2 hn
  go_enter Tryd.func15, Tryd.ntmps15
  go_wp2
  go_loopw [5] (fun q wr => ∃ k : Nat, q = .int .i64 k ∧ k ≤ n ∧ Hid (Fr (fun _ => False) w wr)) (fun q _ => n - (intOf q).toNat)
  case atStart => exact ⟨0, rfl, Nat.zero_le _, Lib.hid (Fr.refl _ _)⟩
  case round =>
    obtain ⟨k, rfl, hk, HW⟩ := hrel
    by_cases hlt : k < n
    · obtain ⟨g1, o1, rfl, C1⟩ := H1.out k (by rw [HN.out]; exact hlt)
      obtain ⟨g2, o2, rfl, C2⟩ := H2.out k (by rw [HN.out]; exact hlt)
      obtain ⟨x, hx⟩ : ∃ x, l.getD k 0 = x := ⟨_, rfl⟩
      rw [hx] at C1 C2
      have C1 := HW.out.cell C1 id
      have C2 := HW.out.cell C2 id
      have HV : ∀ m, Hid (Fr (fun _ => False) w (wr.drewN m)) := fun m => Lib.hid (HW.out.drewN m)
      clear hx
      go_wp2
      go_quiet (fail)
      go_wp2
      go_roundw
      case rel => exact ⟨k + 1, by go_num, by omega, HV _⟩
      case measure => simp [intOf]; omega
    · obtain rfl : k = n := by omega
      go_wp2
      go_ret
      exact ⟨rfl, HW.out⟩
end Go.Proofs.YteghojgdljlplaaDoor
