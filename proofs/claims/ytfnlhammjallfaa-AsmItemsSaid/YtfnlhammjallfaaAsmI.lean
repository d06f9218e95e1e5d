/-
  Items (layer 5): the contract of place.
-/
import Derived.Test.YtfnlhammjallfaaAsmH
namespace Go.Proofs.Ytfnlhammjallfaa
open Go.RowKit
set_option linter.unusedVariables false
set_option linter.unusedSimpArgs false
def atF (s : List Int) (k : Nat) : Int := 4 * sumK s k
/-- What place leaves. -/
def PlaceP (B ga : Nat) (s : List Int) (w : World) (e : Ending) (w' : World) : Prop := e = .returned (.tuple #[]) ∧ IRow B w' ga (atK s) ∧ Fr (fun j => j = ga) w w'
structure PlR (B ga : Nat) (s old : List Int) (w wr : World) (k : Nat) : Prop where
  row : IRow B wr ga (mixK (atF s) old k)
  fr : Fr (fun j => j = ga) w wr
theorem PlR.set {B ga : Nat} {s old : List Int} {w wr : World} {k : Nat} (h : PlR B ga s old w wr k) (hk : k < old.length) {v : Int} (hv : v = atF s k) : PlR B ga s old w (wr.setCell ⟨ga, k, none⟩ (.int .i64 v)) (k + 1) :=
  ⟨by rw [← mixK_set hk hv]; exact h.row.set k v, h.fr.trans (Fr.setCell _ _ _ rfl)⟩
set_option maxRecDepth 100000 in
set_option maxHeartbeats 8000000 in
theorem c57 (si sgo : Value) (B gs ga n : Nat) (s old : List Int) (hs : s.length = n) (ho : old.length = n) (hfew : n ≤ 32768) (hz : Sizes s) (hne : gs ≠ ga) (w : World) (hrs : IRow B w gs s) (hra : IRow B w ga old) :
    Calls Try.prog 57 #[.agg #[si, sgo, .slice (some ⟨gs, 0, none⟩) n n, .slice (some ⟨ga, 0, none⟩) n n]] w (PlaceP B ga s w) := by
  have g1 := hra.lt
  have bne : w.heap.size ≠ ga := by omega
  have F0 := Lib.hid (fr_al (Fr.refl (fun j => j = ga) w) (.cells #[si, sgo, .slice (some ⟨gs, 0, none⟩) n n, .slice (some ⟨ga, 0, none⟩) n n] 71))
  have H0 : Hid (PlR B ga s old (w.alloc (.cells #[si, sgo, .slice (some ⟨gs, 0, none⟩) n n, .slice (some ⟨ga, 0, none⟩) n n] 71)) (w.alloc (.cells #[si, sgo, .slice (some ⟨gs, 0, none⟩) n n, .slice (some ⟨ga, 0, none⟩) n n] 71)) 0) :=
    Lib.hid ⟨by rw [mixK_zero]; exact hra.fr (F := fun _ => False) (fr_al (Fr.refl _ _) _) id, Fr.refl _ _⟩
  have e3 := fcell w #[si, sgo, .slice (some ⟨gs, 0, none⟩) n n, .slice (some ⟨ga, 0, none⟩) n n] 71 3 _ rfl
  have E3 := Lib.hid e3
  have RS := Lib.hid (hrs.fr (F := fun _ => False) (fr_al (Fr.refl _ _) (.cells #[si, sgo, .slice (some ⟨gs, 0, none⟩) n n, .slice (some ⟨ga, 0, none⟩) n n] 71)) id)
  have HS := Lib.hid hs
  have HO := Lib.hid ho
  have HZ := Lib.hid hz
  clear hs ho hz hrs hra
  go_enter Try.func57, Try.ntmps57
  go_wp2
  clear e3
  generalize w.alloc (.cells #[si, sgo, .slice (some ⟨gs, 0, none⟩) n n, .slice (some ⟨ga, 0, none⟩) n n] 71) = W at *
  go_loopw [2, 8] (fun v i wr => ∃ k : Nat, i = .int .i64 k ∧ k ≤ n ∧ v = .int .i64 (atF s k) ∧ Hid (PlR B ga s old W wr k)) (fun _ i _ => n - (intOf i).toNat)
  case atStart => exact ⟨0, rfl, Nat.zero_le _, rfl, H0⟩
  case round =>
    obtain ⟨k, rfl, hk, rfl, HW⟩ := hrel
    clear H0
    by_cases hlt : k < n
    · have q1 := HW.out.fr.cell E3.out bne
      have q2 := HW.out.fr.cell (RS.out.cell (by rw [HS.out]; exact hlt)) hne
      have q3 : wr.cell? ⟨ga, k, none⟩ = some _ := HW.out.row.cell (by rw [mixK_len, HO.out]; exact hlt)
      have q4 := HW.out.row.free k
      have q5 := sumK_in HZ.out k (by rw [HS.out]; exact hk)
      have q6 := HZ.out k (by rw [HS.out]; exact hlt)
      have q7 : Hid (atF s (k + 1) = atF s k + s.getD k 0 * 4) := Lib.hid (by unfold atF; rw [sumK_succ (by rw [HS.out]; exact hlt)]; omega)
      have q8 : atF s k = 4 * sumK s k := rfl
      have q9 : 0 ≤ atF s k ∧ atF s k ≤ 8 * k := by omega
      obtain ⟨r1, r2⟩ := q9
      obtain ⟨r3, r4⟩ := q6
      have hv : Hid (atF s k = atF s k) := Lib.hid rfl
      clear q8 q5
      generalize s.getD k 0 = z at *
      generalize hA : atF s k = A at *
      have HA := Lib.hid hA
      clear hA
      have i1 : (0 : Int) ≤ (k : Int) := by omega
      have i2 : (k : Int) < (n : Int) := by omega
      go_wp2
      go_roundw
      case rel => exact ⟨k + 1, by go_num, by omega, by rw [q7.out], Lib.hid (HW.out.set (by rw [HO.out]; exact hlt) HA.out.symm)⟩
      case measure => simp [intOf]; omega
    · obtain rfl : n = k := by omega
      go_wp2
      go_end0
      exact ⟨rfl, by have h := HW.out.row; have e := mixK_end (atF s) old; rw [HO.out] at e; rw [e] at h; unfold atK; rw [HS.out]; exact h, F0.out.trans HW.out.fr⟩
end Go.Proofs.Ytfnlhammjallfaa
