/-
  Memories (layer 11): a number is put.
-/
import Derived.Test.YtonkfgjmienalaaStoF
import Derived.Deep.RegionHeld3
import Derived.Outline
namespace Go.Proofs.Ytonkfgjmienalaa
open Go.RowKit
set_option linter.unusedVariables false
set_option linter.unusedSimpArgs false
theorem set_of {w : World} {sb ob : Nat} {C : Option Ch} {dead : Bool} {bs : List BC} (h : MAt w sb ob C dead bs) (hs : bs.length < 512) (k : Nat) (hk : k < bs.length) (v : Int) (hlo : ∀ b, b = sb ∨ b = ob → b < w.heap.size) :
    Calls Try.prog 14 #[.pointer (some ⟨ob, 0, none⟩), .int .i64 k, .int .u8 v] w fun r w' => r = .returned (.tuple #[]) ∧ ∃ C', MAt w' sb ob C' dead (bs.set k ⟨v, true⟩) ∧ Fr (fun j => j = ob ∨ Ch.has C j) w w' ∧ (∀ b, Ch.has C' b → Ch.has C b ∨ w.heap.size ≤ b) := by
  have key : ∀ r w', SetP sb ob bs.length C (.map none) dead (bs.set k ⟨v, true⟩) w r w' → r = .returned (.tuple #[]) ∧ ∃ C', MAt w' sb ob C' dead (bs.set k ⟨v, true⟩) ∧ Fr (fun j => j = ob ∨ Ch.has C j) w w' ∧ (∀ b, Ch.has C' b → Ch.has C b ∨ w.heap.size ≤ b) := fun r w' hr => by
    obtain ⟨e, C', a, b, c, d⟩ := hr
    refine ⟨e, C', ⟨by rw [List.length_set]; exact a, b, fun x hx => ?_⟩, c, d⟩
    rcases d x hx with q | q
    · exact h.d x q
    · have h1 := hlo sb (.inl rfl)
      have h2 := hlo ob (.inr rfl)
      exact ⟨by omega, by omega⟩
  cases C with
  | none => exact (set_none h.s h.b hs k hk v).mono key
  | some D => exact (set_some h.s h.b h.d (by omega) k hk v).mono key
theorem fr_drew {F : Nat → Prop} {w w1 : World} (h : Fr F w w1) : Fr F w w1.drew := ⟨h.os, h.output, h.size, h.block⟩
theorem box_two {w W : World} {A B : Array Value} {t u : TypeId} (h : Fr (fun _ => False) ((w.alloc (.cells A t)).alloc (.cells B u)) W) : (∀ j v, A[j]? = some v → W.cell? ⟨w.heap.size, j, none⟩ = some v) ∧ (∀ j v, B[j]? = some v → W.cell? ⟨w.heap.size + 1, j, none⟩ = some v) := by
  refine ⟨fun j v hv => h.cell ((fr_al (Fr.refl (fun _ => False) _) _).cell (fcell w A t j v hv) id) id, fun j v hv => ?_⟩
  have := h.cell (fcell (w.alloc (.cells A t)) B u j v hv) id
  simpa using this
theorem MAt.lt {w : World} {sb ob : Nat} {C : Option Ch} {dead : Bool} {bs : List BC} (h : MAt w sb ob C dead bs) (h0 : 0 < bs.length) : sb < w.heap.size ∧ ob < w.heap.size ∧ ∀ b, Ch.has C b → b < w.heap.size := by
  obtain ⟨cap, hs⟩ := h.s.s
  refine ⟨World.block_lt_of_cell? w _ hs, World.block_lt_of_cell? w _ h.s.o0, fun b hb => ?_⟩
  obtain ⟨D, rfl, hD⟩ := hb
  obtain ⟨h1, _, h3⟩ := h.b
  rcases hD with rfl | rfl
  · exact World.block_lt_of_cell? w _ h1
  · exact World.block_lt_of_cell? w _ (h3 0 h0).1
/-- While bytes are put. -/
structure PutW (w wl : World) (sb ob : Nat) (C C' : Option Ch) (bs : List BC) (off u : Int) : Prop where
  m : MAt wl sb ob C' false bs
  fr : Fr (fun j => j = ob ∨ Ch.has C j) w wl
  sz : w.heap.size + 2 ≤ wl.heap.size
  ch : ∀ b, Ch.has C' b → Ch.has C b ∨ w.heap.size + 2 ≤ b
  z3 : wl.cell? ⟨w.heap.size, 3, none⟩ = some (.int .i64 off)
  v0 : wl.cell? ⟨w.heap.size + 1, 0, none⟩ = some (.int .u32 u)
  v5 : wl.cell? ⟨w.heap.size + 1, 5, none⟩ = some (.bool false)
theorem PutW.step {w wl w' : World} {sb ob : Nat} {C C' C'' : Option Ch} {bs bs' : List BC} {off u : Int} (h : PutW w wl sb ob C C' bs off u) (hob : ob < w.heap.size) (hC : ∀ b, Ch.has C b → b < w.heap.size)
    (hm : MAt w' sb ob C'' false bs') (hf : Fr (fun j => j = ob ∨ Ch.has C' j) wl w') (hc : ∀ b, Ch.has C'' b → Ch.has C' b ∨ wl.heap.size ≤ b) : PutW w w' sb ob C C'' bs' off u := by
  have n0 : ¬ (fun j => j = ob ∨ Ch.has C' j) w.heap.size := fun e => by
    rcases e with e | e
    · omega
    · rcases h.ch _ e with q | q
      · have := hC _ q; omega
      · omega
  have n1 : ¬ (fun j => j = ob ∨ Ch.has C' j) (w.heap.size + 1) := fun e => by
    rcases e with e | e
    · omega
    · rcases h.ch _ e with q | q
      · have := hC _ q; omega
      · omega
  refine ⟨hm, h.fr.trans' hf (fun j hj e => ?_), Nat.le_trans h.sz hf.size, fun b hb => ?_, hf.cell h.z3 n0, hf.cell h.v0 n1, hf.cell h.v5 n1⟩
  · rcases e with e | e
    · exact .inl e
    · rcases h.ch _ e with q | q
      · exact .inr q
      · omega
  · rcases hc b hb with q | q
    · exact h.ch b q
    · have := h.sz; exact .inr (by omega)
theorem PutW.quiet {w wl w' : World} {sb ob : Nat} {C C' : Option Ch} {bs : List BC} {off u : Int} (h : PutW w wl sb ob C C' bs off u) (hf : Fr (fun _ => False) wl w') : PutW w w' sb ob C C' bs off u :=
  ⟨h.m.quiet hf, h.fr.trans' hf (fun _ _ f => f.elim), Nat.le_trans h.sz hf.size, h.ch, hf.cell h.z3 id, hf.cell h.v0 id, hf.cell h.v5 id⟩
def byt (u : Int) (k : Nat) : Int := IntKind.u8.wrap (u / 2 ^ (8 * (k : Int)).toNat)
def putB (bs : List BC) (off : Nat) (u : Int) : Nat → List BC
  | 0 => bs
  | k + 1 => (putB bs off u k).set (off + k) ⟨byt u k, true⟩
theorem putB_len (bs : List BC) (off : Nat) (u : Int) (k : Nat) : (putB bs off u k).length = bs.length := by
  induction k with
  | zero => rfl
  | succ k ih => unfold putB; rw [List.length_set, ih]
set_option maxRecDepth 100000 in
set_option maxHeartbeats 2000000 in
theorem put_num {w : World} {sb ob : Nat} {C : Option Ch} {bs : List BC} (h : MAt w sb ob C false bs) (hs : bs.length < 512) (lo hi : Int) (off n : Nat) (hn : n ≤ 4) (hst : ((n : Int) == 4 || ((n : Int) == 1 && !false)) = true) (h2 : off + n ≤ bs.length) (h3 : lo ≤ off) (h4 : (off : Int) + n ≤ hi) (u a b c d : Int) (hu : 0 ≤ u ∧ u < 4294967296) (hpos : 0 < bs.length) :
    Calls Try.prog 8 #[.pointer (some ⟨sb, 0, none⟩), .agg #[.int .i64 1, .int .i64 lo, .int .i64 hi, .int .i64 off], .int .i64 n, .agg #[.int .u32 u, .int .i64 a, .int .i64 b, .int .i64 c, .int .i64 d, .bool false]] w fun r w' => r = .returned (.int .i64 0) ∧ ∃ C', MAt w' sb ob C' false (putB bs off u n) ∧ Fr (fun j => j = ob ∨ Ch.has C j) w w' ∧ (∀ b, Ch.has C' b → Ch.has C b ∨ w.heap.size ≤ b) := by
  have hfa : Fr (fun _ => False) w ((w.alloc (.cells #[.int .i64 1, .int .i64 lo, .int .i64 hi, .int .i64 off] 24)).alloc (.cells #[.int .u32 u, .int .i64 a, .int .i64 b, .int .i64 c, .int .i64 d, .bool false] 26)) := fr_al (fr_al (Fr.refl _ _) _) _
  obtain ⟨l1, l2, l3⟩ := h.lt hpos
  have hp0 : PutW w ((w.alloc (.cells #[.int .i64 1, .int .i64 lo, .int .i64 hi, .int .i64 off] 24)).alloc (.cells #[.int .u32 u, .int .i64 a, .int .i64 b, .int .i64 c, .int .i64 d, .bool false] 26)) sb ob C C bs off u := by
    obtain ⟨b1, b2⟩ := box_two (w := w) (A := #[.int .i64 1, .int .i64 lo, .int .i64 hi, .int .i64 off]) (B := #[.int .u32 u, .int .i64 a, .int .i64 b, .int .i64 c, .int .i64 d, .bool false]) (t := 24) (u := 26) (Fr.refl _ _)
    exact ⟨h.quiet hfa, hfa.mono (fun _ _ f => f.elim), by simp, fun b hb => .inl hb, b1 3 _ rfl, b2 0 _ rfl, b2 5 _ rfl⟩
  have HP0 := Lib.hid hp0
  have HL := Lib.hid (And.intro l1 (And.intro l2 l3))
  have HS : Hid (∀ W, Calls Try.prog 11 #[.int .i64 n, .bool false] W fun r w' => r = .returned (.bool true) ∧ W = w') := Lib.hid (fun W => by have := storable_of n false W; rw [hst] at this; exact this)
  have HR := Lib.hid (reach_ok (h.quiet hfa).s lo hi off n (by omega) (by omega) (by omega) h3 h4 (by omega))
  have HFG : Hid (∀ W, MAt W sb ob C false bs → Calls Try.prog 13 #[.pointer (some ⟨ob, 0, none⟩), .int .i64 off, .int .i64 n] W fun r w' => r = .returned (.tuple #[]) ∧ W = w') := Lib.hid (fun W hW => forget_of hW.s off n (by omega) (by omega))
  have HSET : Hid (∀ W C' bs' (v : Int) (k : Nat), k < n → bs'.length = bs.length → PutW w W sb ob C C' bs' off u → Calls Try.prog 14 #[.pointer (some ⟨ob, 0, none⟩), .int .i64 ((off : Int) + k), .int .u8 v] W fun r w' => r = .returned (.tuple #[]) ∧ ∃ C'', PutW w w' sb ob C C'' (bs'.set (off + k) ⟨v, true⟩) off u) := Lib.hid (fun W C' bs' v k hk hl hW => by
    have := set_of hW.m (by omega) (off + k) (by omega) v (fun b hb => by have := hW.sz; rcases hb with rfl | rfl <;> omega)
    rw [Int.natCast_add] at this
    refine this.mono fun r w' hr => ?_
    obtain ⟨e, C'', a1, a2, a3⟩ := hr
    exact ⟨e, C'', hW.step l2 l3 a1 a2 a3⟩)
  clear h hp0 l1 l2 l3 hfa
  go_enter Try.func8, Try.ntmps8
  go_wp2_with (first
    | (go_at_call 11; (with_reducible refine (HS.out _).mono ?_); rintro r w1 ⟨rfl, rfl⟩)
    | (go_at_call 12; (with_reducible refine HR.out.mono ?_); rintro r w2 ⟨rfl, hf2⟩; have hp2 := HP0.out.quiet hf2; have HP2 := Lib.hid hp2; have z3 := hp2.z3; have v5 := hp2.v5; clear hf2 hp2))
  go_quiet (exact Calls.quiet_of_same ((HFG.out _ (HP2.out.m.quiet ((Fr.refl (fun _ => False) _).drewN _))).mono fun r w' hr => ⟨hr.1, hr.2.symm⟩))
  go_wp2
  go_loopw [42] (fun q wl => ∃ (k : Nat) (C' : Option Ch), q = .int .i64 k ∧ k ≤ n ∧ Hid (PutW w wl sb ob C C' (putB bs off u k) off u)) (fun q _ => n - (intOf q).toNat)
  case atStart => exact ⟨0, C, rfl, Nat.zero_le _, Lib.hid (HP2.out.quiet ((Fr.refl (fun _ => False) _).drewN _))⟩
  case round =>
    obtain ⟨k, C', rfl, hk, HW⟩ := hrel
    have z3' := HW.out.z3
    have v0' := HW.out.v0
    have v5' := HW.out.v5
    by_cases hlt : k < n
    · have t0 : (0 : Int) ≤ k := by omega
      have t1 : (k : Int) < n := by omega
      have HST : Hid (∀ (j v : Int), ∀ W, j = (off : Int) + k → Fr (fun _ => False) wr W → Calls Try.prog 14 #[.pointer (some ⟨ob, 0, none⟩), .int .i64 j, .int .u8 v] W fun r w' => r = .returned (.tuple #[]) ∧ ∃ C'', PutW w w' sb ob C C'' ((putB bs off u k).set (off + k) ⟨v, true⟩) off u) := Lib.hid (fun j v W hj hW => by rw [hj]; exact HSET.out W C' _ v k hlt (putB_len _ _ _ _) (HW.out.quiet hW))
      have w8 : IntKind.i64.wrap (8 * (k : Int)) = 8 * k := by rw [IntKind.wrap_i64]; omega
      have t8 : (0 : Int) ≤ 8 * k := by omega
      have wo : IntKind.i64.wrap ((off : Int) + k) = off + k := by rw [IntKind.wrap_i64]; omega
      have t9 : 8 * (k : Int) ≤ 32 := by omega
      go_wp2
      go_region_with (go_at_call 14; refine (HST.out ((off : Int) + k) (byt u k) _ rfl (fr_drew (Fr.refl _ _))).mono ?_; rintro r w3 ⟨rfl, C3, h3'⟩)
      all_goals
        have HW3 := Lib.hid h3'
        clear h3'
        go_wp2
        go_roundw
        case rel => exact ⟨k + 1, C3, by go_num, by omega, HW3⟩
        case measure => simp [intOf]; omega
    · obtain rfl : n = k := by omega
      go_wp2
      go_ret
      exact ⟨rfl, C', HW.out.m, HW.out.fr, fun b hb => (HW.out.ch b hb).imp id (fun q => by omega)⟩
end Go.Proofs.Ytonkfgjmienalaa
