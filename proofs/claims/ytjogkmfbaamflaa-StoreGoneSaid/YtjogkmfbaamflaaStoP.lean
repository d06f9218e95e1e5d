/-
  Memories (layer 11): an object is filled with zeros.
-/
import Derived.Test.YtjogkmfbaamflaaStoO
import Derived.Outline
namespace Go.Proofs.Ytjogkmfbaamflaa
open Go.RowKit
set_option linter.unusedVariables false
set_option linter.unusedSimpArgs false
def fillB (bs : List BC) : Nat → List BC
  | 0 => bs
  | k + 1 => (fillB bs k).set k ⟨0, true⟩
theorem fillB_len (bs : List BC) (k : Nat) : (fillB bs k).length = bs.length := by
  induction k with
  | zero => rfl
  | succ k ih => unfold fillB; rw [List.length_set, ih]
theorem fillB_set (bs : List BC) : ∀ k, k ≤ bs.length → ∀ i, i < k → (fillB bs k).getD i bc0 = ⟨0, true⟩ := by
  intro k
  induction k with
  | zero => intro _ i hi; omega
  | succ k ih =>
    intro hk i hi
    unfold fillB
    rw [set_getD (by rw [fillB_len]; omega)]
    by_cases e : i = k
    · rw [if_pos e]
    · rw [if_neg e]; exact ih (by omega) i (by omega)
/-- While an object is filled. -/
structure FillW (w wl : World) (sb ob : Nat) (C' : Option Ch) (bs : List BC) : Prop where
  m : MAt wl sb ob C' false bs
  fr : Fr (fun j => j = ob) w wl
  ch : ∀ b, Ch.has C' b → w.heap.size ≤ b
theorem FillW.step {w wl w' : World} {sb ob : Nat} {C' C'' : Option Ch} {bs bs' : List BC} (h : FillW w wl sb ob C' bs)
    (hm : MAt w' sb ob C'' false bs') (hf : Fr (fun j => j = ob ∨ Ch.has C' j) wl w') (hc : ∀ b, Ch.has C'' b → Ch.has C' b ∨ wl.heap.size ≤ b) : FillW w w' sb ob C'' bs' := by
  refine ⟨hm, h.fr.trans' hf (fun j hj e => ?_), fun b hb => ?_⟩
  · rcases e with e | e
    · exact e
    · have := h.ch _ e; omega
  · rcases hc b hb with q | q
    · exact h.ch b q
    · have := h.fr.size; omega
set_option maxRecDepth 100000 in
set_option maxHeartbeats 2000000 in
theorem fill_zero {w : World} {sb ob db : Nat} {bs : List BC} (h : MAt w sb ob none false bs) (hs : bs.length < 512) (hpos : 0 < bs.length) (hdb : db ≠ ob) (hd : ∀ i, i < bs.length → w.cell? ⟨db, i, none⟩ = some (.int .u8 0)) :
    Calls Try.prog 12 #[.pointer (some ⟨sb, 0, none⟩), .int .i64 1, .slice (some ⟨db, 0, none⟩) bs.length bs.length] w fun r w' => r = .returned (.int .i64 0) ∧ ∃ C', MAt w' sb ob C' false (fillB bs bs.length) ∧ Fr (fun j => j = ob) w w' := by
  obtain ⟨l1, l2, l3⟩ := h.lt hpos
  have HL := Lib.hid (living_one h.s)
  have o0 := h.s.o0
  obtain ⟨n, hn⟩ : ∃ n, bs.length = n := ⟨_, rfl⟩
  have HFG : Hid (Calls Try.prog 21 #[.pointer (some ⟨ob, 0, none⟩), .int .i64 0, .int .i64 n] w fun r w' => r = .returned (.tuple #[]) ∧ w = w') := Lib.hid (forget_of h.s 0 n (by decide) (by omega))
  have HW0 : Hid (FillW w w sb ob none bs) := Lib.hid ⟨h, Fr.refl _ _, fun b hb => by obtain ⟨D, e, _⟩ := hb; cases e⟩
  have HSET : Hid (∀ W C' (k : Nat), k < n → FillW w W sb ob C' (fillB bs k) → Calls Try.prog 22 #[.pointer (some ⟨ob, 0, none⟩), .int .i64 k, .int .u8 0] W fun r w' => r = .returned (.tuple #[]) ∧ ∃ C'', FillW w w' sb ob C'' (fillB bs (k + 1))) := Lib.hid (fun W C' k hk hW => by
    have hl := fillB_len bs k
    refine (set_of hW.m (by omega) k (by omega) 0 (fun b hb => by have := hW.fr.size; rcases hb with rfl | rfl <;> omega)).mono fun r w' hr => ?_
    obtain ⟨e, C'', a1, a2, a3⟩ := hr
    exact ⟨e, C'', hW.step a1 a2 a3⟩)
  rw [hn] at hd hs o0 ⊢
  have HD := Lib.hid hd
  have d0 : decide ((n : Int) < n) = false := decide_eq_false (by omega)
  clear h hd hn l1 l2 l3 hpos
  go_enter Try.func12, Try.ntmps12
  go_wp2_with (first
    | (go_at_call 25; (with_reducible refine HL.out.mono ?_); rintro r w1 ⟨rfl, rfl⟩)
    | (go_at_call 21; (with_reducible refine HFG.out.mono ?_); rintro r w1 ⟨rfl, rfl⟩))
  go_loopw [38] (fun q wl => ∃ (k : Nat) (C' : Option Ch), q = .int .i64 k ∧ k ≤ n ∧ Hid (FillW w wl sb ob C' (fillB bs k))) (fun q _ => n - (intOf q).toNat)
  case atStart => exact ⟨0, none, rfl, Nat.zero_le _, HW0⟩
  case round =>
    obtain ⟨k, C', rfl, hk, HW⟩ := hrel
    by_cases hlt : k < n
    · have x0 : wr.cell? ⟨db, k, none⟩ = some (.int .u8 0) := HW.out.fr.cell (HD.out k hlt) hdb
      have t0 : (0 : Int) ≤ k := by omega
      have t1 : (k : Int) < n := by omega
      go_wp2_with (go_at_call 22; (with_reducible refine (HSET.out _ _ k hlt HW.out).mono ?_); rintro r w3 ⟨rfl, C3, h3⟩; have HW3 := Lib.hid h3; clear h3)
      go_roundw
      case rel => exact ⟨k + 1, C3, by go_num, by omega, HW3⟩
      case measure => simp [intOf]; omega
    · obtain rfl : n = k := by omega
      go_wp2
      go_ret
      exact ⟨rfl, C', HW.out.m, HW.out.fr⟩
end Go.Proofs.Ytjogkmfbaamflaa
