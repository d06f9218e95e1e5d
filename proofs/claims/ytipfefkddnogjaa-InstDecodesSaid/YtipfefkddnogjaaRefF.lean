/-
  The contract of the document's own Decode: plain facts first: of each number the fields of a word are an instruction, whose word is that word just if the number's codes stand in it.
-/
import Derived.Test.YtipfefkddnogjaaRefE
namespace Go.Proofs.Ytipfefkddnogjaa
open Go.RowKit
set_option linter.unusedVariables false
set_option linter.unusedSimpArgs false

theorem dec_fits {U : Int} (u0 : 0 ≤ U) (u1 : U ≤ 4294967295) {k : Nat} (hk : k < 46) (k0 : k ≠ 0) :
    fitsB (regV U 7 (uRd (fm k))) (regV U 15 (uRs1 (fm k))) (regV U 20 (uRs2 (fm k))) (gathS (fm k) U) (fm k) = true := by
  have hf := fm_form' k hk
  have hn := fm_pos k hk k0
  have g := gs_all hf u0 u1
  unfold fitsB
  simp only [Bool.and_eq_true, bne_iff_ne, beq_iff_eq]
  refine ⟨⟨⟨⟨hn, regB_V U 7 _⟩, regB_V U 15 _⟩, regB_V U 20 _⟩, ?_⟩
  show sg (signF (gath (fm k) (scat (fm k) (gathS (fm k) U % 4294967296) 4) 4) (immB (fm k))) = gathS (fm k) U
  rw [g]; rfl
theorem dec_mt {U : Int} (u0 : 0 ≤ U) (u1 : U ≤ 4294967295) {k : Nat} (hk : k < 46) (k0 : k ≠ 0) :
    Mt (encW k (regV U 7 (uRd (fm k))) (regV U 15 (uRs1 (fm k))) (regV U 20 (uRs2 (fm k))) (gathS (fm k) U)) k := by
  have hf := fm_form' k hk
  have hn := fm_pos k hk k0
  have B := back_all (m := gathS (fm k) U % 4294967296) hf hn (oc_in _ hk) (f3_in _ hk) (f7_in _ hk) (no3 _ hk) (no7 _ hk) (regB_V U 7 _) (regB_V U 15 _) (regB_V U 20 _) (by omega) (by omega)
  have e : bits .or .u32 (bits .or .u32 (fixF (oc k) (f3 k) (f7 k)) (bits .or .u32 (bits .or .u32 (regV U 7 (uRd (fm k)) * 128) (regV U 15 (uRs1 (fm k)) * 32768)) (regV U 20 (uRs2 (fm k)) * 1048576))) (scat (fm k) (gathS (fm k) U % 4294967296) 4) = encW k (regV U 7 (uRd (fm k))) (regV U 15 (uRs1 (fm k))) (regV U 20 (uRs2 (fm k))) (gathS (fm k) U) := by
    unfold encW fixK; rw [ix_nat hk]
  rw [e] at B
  obtain ⟨b0, b1, b2, b3, b4, b5, b6, b7, b8⟩ := B
  exact ⟨b2, b3, b4⟩
theorem dec_sum {U : Int} (u0 : 0 ≤ U) (u1 : U ≤ 4294967295) {k : Nat} (hk : k < 46) (k0 : k ≠ 0) (m : Mt U k) :
    sumW k (regV U 7 (uRd (fm k))) (regV U 15 (uRs1 (fm k))) (regV U 20 (uRs2 (fm k))) (gathS (fm k) U) = U := by
  rw [← enc_sum hk (dec_fits u0 u1 hk k0)]
  exact (dec_once u0 u1 hk k0 m).2
theorem dec_not {U : Int} (u0 : 0 ≤ U) (u1 : U ≤ 4294967295) {k : Nat} (hk : k < 46) (k0 : k ≠ 0) (m : ¬ Mt U k) :
    sumW k (regV U 7 (uRd (fm k))) (regV U 15 (uRs1 (fm k))) (regV U 20 (uRs2 (fm k))) (gathS (fm k) U) ≠ U := by
  rw [← enc_sum hk (dec_fits u0 u1 hk k0)]
  intro e
  have := dec_mt u0 u1 hk k0
  rw [e] at this
  exact m this
theorem mv_reg {U : Int} (u0 : 0 ≤ U) (u1 : U ≤ 4294967295) : mvF U 7 11 0 = regV U 7 true ∧ mvF U 15 19 0 = regV U 15 true ∧ mvF U 20 24 0 = regV U 20 true := by
  have E := Int.emod_eq_of_lt u0 (show U < 4294967296 by omega)
  refine ⟨?_, ?_, ?_⟩ <;> (unfold mvF; rw [E]; simp [regV])
/-- A register's field, moved. -/
theorem r54 (U a : Int) (u0 : 0 ≤ U) (u1 : U ≤ 4294967295) (ha : a = 7 ∨ a = 15 ∨ a = 20) (w : World) :
    Calls Try.prog 54 #[.int .i64 U, .int .i64 a, .int .i64 (a + 4), .int .i64 0] w fun e w' => e = .returned (.int .i64 (regV U a true)) ∧ ∃ n, w' = w.drewN n := by
  obtain ⟨x, y, z⟩ := mv_reg u0 u1
  rcases ha with rfl | rfl | rfl
  · rw [← x]; exact c54 U 7 11 0 (by omega) u1 (by decide) (by decide) (by decide) (by decide) (by decide) w
  · rw [← y]; exact c54 U 15 19 0 (by omega) u1 (by decide) (by decide) (by decide) (by decide) (by decide) w
  · rw [← z]; exact c54 U 20 24 0 (by omega) u1 (by decide) (by decide) (by decide) (by decide) (by decide) w
/-- Is there a number below k whose codes stand in the word? -/
def NoMt (U : Int) (k : Nat) : Prop := ∀ i : Nat, i < k → i ≠ 0 → ¬ Mt U i
def zero30 : Array Value := #[.int .i64 0, .int .i64 0, .int .i64 0, .int .i64 0, .int .i64 0]
theorem find_zero {U : Int} (u0 : 0 ≤ U) (u1 : U ≤ 4294967295) (h : NoMt U 46) : findI U = 0 := by
  refine find_none (fun j hj => ?_)
  cases hb : mB U j with
  | false => rfl
  | true =>
    obtain ⟨j0, mj⟩ := (mB_iff U u0 u1 j hj).mp hb
    exact absurd mj (h j hj j0)
end Go.Proofs.Ytipfefkddnogjaa
