/-
  Listing (layer 6): what a line's instruction lies within.
-/
import Derived.Test.YtlagdgkjpnocfaaGreatDoorLsO
namespace Go.Proofs.YtlagdgkjpnocfaaGreatDoor
open Go.RowKit
set_option linter.unusedVariables false
set_option linter.unusedSimpArgs false
theorem z_64 : I64 0 := ⟨by decide, by decide⟩
theorem num_64 (s : List UInt8) : I64 (numR s).1 := by
  unfold numR
  cases h : Lib.atoiAll s with
  | ok v =>
    show I64 v
    unfold I64
    cases s with
    | nil => simp [Lib.atoiAll] at h
    | cons c r =>
      unfold Lib.atoiAll at h
      simp only at h
      generalize Lib.parseMag (if c.toNat = 43 ∨ c.toNat = 45 then r else c :: r) = z at h
      cases z with
      | «syntax» => cases h
      | range => cases h
      | ok u =>
        simp only at h
        split at h
        · cases h
        · split at h
          · cases h
          · injection h with h
            subst h
            split <;> omega
  | «syntax» => exact z_64
  | range =>
    show I64 (Lib.atoiSat s)
    unfold Lib.atoiSat I64
    split <;> omega
theorem reg_64 {s : List UInt8} {r : Int × Bool} (h : regR s = some r) : I64 r.1 := by
  unfold regR at h
  split at h
  · injection h with h
    subst h
    exact num_64 _
  · cases h
def Ok5 (i : I5) : Prop := I64 i.rd ∧ I64 i.r1 ∧ I64 i.r2 ∧ I64 i.imm
theorem mem_64 (s : List UInt8) (i : I5) (h : Ok5 i) : Ok5 (memR s i).1 ∧ (memR s i).1.op = i.op := by
  obtain ⟨a, b, c, d⟩ := h
  have hn := num_64 (Lib.cut s [40]).1
  unfold memR
  simp only
  split
  · split
    · cases hr : regR (Lib.trimSuffix (Lib.cut s [40]).2.1 [41]) with
      | none => exact ⟨⟨a, b, c, hn⟩, rfl⟩
      | some r => exact ⟨⟨a, reg_64 hr, c, hn⟩, rfl⟩
    · exact ⟨⟨a, b, c, hn⟩, rfl⟩
  · exact ⟨⟨a, b, c, d⟩, rfl⟩
theorem opR_64 (o : UInt8) (s : List UInt8) (i : I5) (h : Ok5 i) : Ok5 (opR o s i).1 ∧ (opR o s i).1.op = i.op := by
  have hm := mem_64 s i h
  have hn := num_64 s
  obtain ⟨a, b, c, d⟩ := h
  unfold opR
  cases hr : regR s with
  | none =>
    split
    · exact ⟨⟨a, b, c, d⟩, rfl⟩
    split
    · exact ⟨⟨a, b, c, d⟩, rfl⟩
    split
    · exact ⟨⟨a, b, c, d⟩, rfl⟩
    split
    · exact hm
    · exact ⟨⟨a, b, c, hn⟩, rfl⟩
  | some r =>
    have h := reg_64 hr
    split
    · exact ⟨⟨h, b, c, d⟩, rfl⟩
    split
    · exact ⟨⟨a, h, c, d⟩, rfl⟩
    split
    · exact ⟨⟨a, b, h, d⟩, rfl⟩
    split
    · exact hm
    · exact ⟨⟨a, b, c, hn⟩, rfl⟩
theorem ldR_64 : ∀ (os : List UInt8) (ps : List (List UInt8)) (i j : I5), ldR os ps i = some j → Ok5 i → Ok5 j ∧ j.op = i.op
  | [], _, i, j, h, hi => by
    unfold ldR at h
    injection h with h
    subst h
    exact ⟨hi, rfl⟩
  | o :: os, [], i, j, h, hi => by
    unfold ldR at h
    injection h with h
    subst h
    exact ⟨hi, rfl⟩
  | o :: os, p :: ps, i, j, h, hi => by
    unfold ldR at h
    split at h
    · obtain ⟨q1, q2⟩ := opR_64 o p i hi
      obtain ⟨q3, q4⟩ := ldR_64 os ps _ j h q1
      exact ⟨q3, q4.trans q2⟩
    · cases h
theorem spl_pos (sep : ByteArray) (k : Nat) (s : ByteArray) : 0 < (Lib.splitB sep 0 k s).length := by
  cases k with
  | zero => simp [Lib.splitB]
  | succ k =>
    unfold Lib.splitB
    split <;> simp
theorem parse_64 {s : List UInt8} {i : I5} (h : parseR s = some i) : I64 i.rd ∧ I64 i.r1 ∧ I64 i.r2 ∧ I64 i.imm ∧ 0 < (layT i.op).length := by
  unfold parseR at h
  simp only at h
  split at h
  · cases h
  · rename_i hc
    obtain ⟨⟨a, b, c, d⟩, e⟩ := ldR_64 _ _ _ _ h ⟨z_64, z_64, z_64, z_64⟩
    refine ⟨a, b, c, d, ?_⟩
    rw [e]
    show 0 < (layT (opF (Lib.cut s [32]).1 1)).length
    have hp : 0 < (prtsR (Lib.cut s [32]).2.1 ((layT (opF (Lib.cut s [32]).1 1)).length + 1)).length := by
      unfold prtsR
      rw [List.length_map]
      exact spl_pos _ _ _
    omega
/-- Read, of any line. -/
theorem t_read (s : List UInt8) (hs : s.length ≤ 1000000) (w : World) (he : ErW w) (hm : MlW w) (ht : TabW w) : Calls Tryz.prog 11 #[bts s] w fun e w' => e = .returned (RdV (readT s)) ∧ Fr (fun _ => False) w w' := t_Read s hs (fun i h => parse_64 h) w he hm ht
end Go.Proofs.YtlagdgkjpnocfaaGreatDoor
