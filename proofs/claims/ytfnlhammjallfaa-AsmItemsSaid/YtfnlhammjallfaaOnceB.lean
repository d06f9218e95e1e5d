/-
  Plain facts: what is decoded is an instruction, and its word is the word that was decoded.
-/
import Derived.Test.YtfnlhammjallfaaOnce
import Derived.Test.YtfnlhammjallfaaDec
namespace Go.Proofs.Ytfnlhammjallfaa
open Go.RowKit
set_option linter.unusedVariables false

theorem gs_all {f U : Int} (hf : isForm f) (u0 : 0 ≤ U) (u1 : U ≤ 4294967295) : gath f (scat f (gathS f U % 4294967296) 4) 4 = gath f U 4 := by
  rcases hf with rfl | rfl | rfl | rfl | rfl | rfl | rfl | rfl
  · exact gs_85 u0 u1
  · exact gs_74 u0 u1
  · exact gs_73 u0 u1
  · exact gs_72 u0 u1
  · exact gs_83 u0 u1
  · exact gs_66 u0 u1
  · exact gs_82 u0 u1
  · have h : 0 ≤ scat 0 (gathS 0 U % 4294967296) 4 ∧ scat 0 (gathS 0 U % 4294967296) 4 ≤ 4294967295 := or_in _ _
    rw [gath_0 U u0 (by omega), gath_0 _ h.1 (by omega)]
theorem inj_all {f U V : Int} (hf : isForm f) (hn : f ≠ 0) (u0 : 0 ≤ U) (u1 : U ≤ 4294967295) (v0 : 0 ≤ V) (v1 : V ≤ 4294967295) (h1 : U % 128 = V % 128) (h2 : has3 f = true → U / 4096 % 8 = V / 4096 % 8) (h3 : has7 f = true → U / 33554432 = V / 33554432) (h4 : regV U 7 (uRd f) = regV V 7 (uRd f)) (h5 : regV U 15 (uRs1 f) = regV V 15 (uRs1 f)) (h6 : regV U 20 (uRs2 f) = regV V 20 (uRs2 f)) (h7 : gath f U 4 = gath f V 4) : U = V := by
  rcases hf with rfl | rfl | rfl | rfl | rfl | rfl | rfl | rfl
  · exact inj_85 u0 u1 v0 v1 h1 h2 h3 h4 h5 h6 h7
  · exact inj_74 u0 u1 v0 v1 h1 h2 h3 h4 h5 h6 h7
  · exact inj_73 u0 u1 v0 v1 h1 h2 h3 h4 h5 h6 h7
  · exact inj_72 u0 u1 v0 v1 h1 h2 h3 h4 h5 h6 h7
  · exact inj_83 u0 u1 v0 v1 h1 h2 h3 h4 h5 h6 h7
  · exact inj_66 u0 u1 v0 v1 h1 h2 h3 h4 h5 h6 h7
  · exact inj_82 u0 u1 v0 v1 h1 h2 h3 h4 h5 h6 h7
  · exact absurd rfl hn
theorem regB_V (U : Int) (n : Int) (u : Bool) : regB (regV U n u) u = true := by
  cases u
  · simp [regB, regV]
  · simp only [regB, regV, if_true, decide_eq_true_eq]; omega
/-- The fields that a word gives to a number's format are those of an instruction, and its word is that word. -/
theorem dec_once {U : Int} (u0 : 0 ≤ U) (u1 : U ≤ 4294967295) {k : Nat} (hk : k < 46) (k0 : k ≠ 0) (m : Mt U k) :
    fitsB (regV U 7 (uRd (fm k))) (regV U 15 (uRs1 (fm k))) (regV U 20 (uRs2 (fm k))) (gathS (fm k) U) (fm k) = true ∧
    encW k (regV U 7 (uRd (fm k))) (regV U 15 (uRs1 (fm k))) (regV U 20 (uRs2 (fm k))) (gathS (fm k) U) = U := by
  have hf := fm_form' k hk
  have hn := fm_pos k hk k0
  have g := gs_all hf u0 u1
  have B := back_all (m := gathS (fm k) U % 4294967296) hf hn (oc_in _ hk) (f3_in _ hk) (f7_in _ hk) (no3 _ hk) (no7 _ hk) (regB_V U 7 _) (regB_V U 15 _) (regB_V U 20 _) (by omega) (by omega)
  refine ⟨?_, ?_⟩
  · unfold fitsB
    simp only [Bool.and_eq_true, bne_iff_ne, beq_iff_eq]
    refine ⟨⟨⟨⟨hn, regB_V U 7 _⟩, regB_V U 15 _⟩, regB_V U 20 _⟩, ?_⟩
    show sg (signF (gath (fm k) (scat (fm k) (gathS (fm k) U % 4294967296) 4) 4) (immB (fm k))) = gathS (fm k) U
    rw [g]; rfl
  · have e : bits .or .u32 (bits .or .u32 (fixF (oc k) (f3 k) (f7 k)) (bits .or .u32 (bits .or .u32 (regV U 7 (uRd (fm k)) * 128) (regV U 15 (uRs1 (fm k)) * 32768)) (regV U 20 (uRs2 (fm k)) * 1048576))) (scat (fm k) (gathS (fm k) U % 4294967296) 4) = encW k (regV U 7 (uRd (fm k))) (regV U 15 (uRs1 (fm k))) (regV U 20 (uRs2 (fm k))) (gathS (fm k) U) := by
      unfold encW fixK; rw [ix_nat hk]
    rw [e] at B
    clear e
    generalize encW k (regV U 7 (uRd (fm k))) (regV U 15 (uRs1 (fm k))) (regV U 20 (uRs2 (fm k))) (gathS (fm k) U) = V at *
    obtain ⟨b0, b1, b2, b3, b4, b5, b6, b7, b8⟩ := B
    obtain ⟨m1, m2, m3⟩ := m
    exact inj_all hf hn b0 b1 u0 u1 (by rw [b2, m1]) (fun h => by rw [b3 h, m2 h]) (fun h => by rw [b4 h, m3 h]) b5 b6 b7 (by rw [b8, g])
end Go.Proofs.Ytfnlhammjallfaa
