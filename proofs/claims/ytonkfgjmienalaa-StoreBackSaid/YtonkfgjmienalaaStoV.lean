/-
  Memories (layer 11): a memory of one object with its pointers; forget, set, keep on it.
-/
import Derived.Test.YtonkfgjmienalaaStoU
namespace Go.Proofs.Ytonkfgjmienalaa
open Go.RowKit Go.Maps
set_option linter.unusedVariables false
set_option linter.unusedSimpArgs false
/-- The pointers: f, in a map of at most N, or in none. -/
def Pts (N : Nat) (w : World) (mp : Value) (f : Int → PV) : Prop := (mp = .map none ∧ ∀ k, f k = pv0) ∨ ∃ b n D, mp = .map (some b) ∧ n ≤ N ∧ Owns w b n D ∧ Reads D f
theorem Pts.kept {N : Nat} {F : Nat → Prop} {w w' : World} {mp : Value} {f : Int → PV} (h : Pts N w mp f) (hf : Fr F w w') (hn : ∀ b, mp = .map (some b) → ¬ F b) : Pts N w' mp f := by
  rcases h with h | ⟨b, n, D, rfl, h1, h2, h3⟩
  · exact .inl h
  · exact .inr ⟨b, n, D, rfl, h1, Fr.ownsM h2 hf (hn b rfl), h3⟩
theorem Pts.mono {N M : Nat} {w : World} {mp : Value} {f : Int → PV} (h : Pts N w mp f) (hm : N ≤ M) : Pts M w mp f := by
  rcases h with h | ⟨b, n, D, rfl, h1, h2, h3⟩
  · exact .inl h
  · exact .inr ⟨b, n, D, rfl, by omega, h2, h3⟩
/-- A memory of one object, with its bytes and pointers. -/
structure MP (N : Nat) (w : World) (sb ob : Nat) (C : Option Ch) (bs : List BC) (mp : Value) (f : Int → PV) : Prop where
  s : SAt w sb ob bs.length (chV C) mp false
  b : BAt w C bs
  d : ∀ b, Ch.has C b → b ≠ sb ∧ b ≠ ob
  p : Pts N w mp f
  q : ∀ b, mp = .map (some b) → b ≠ sb ∧ b ≠ ob ∧ ¬ Ch.has C b ∧ b < w.heap.size
theorem MP.quiet {N : Nat} {w w' : World} {sb ob : Nat} {C : Option Ch} {bs : List BC} {mp : Value} {f : Int → PV} (h : MP N w sb ob C bs mp f) (hf : Fr (fun _ => False) w w') : MP N w' sb ob C bs mp f :=
  ⟨h.s.quiet hf, h.b.quiet hf, h.d, h.p.kept hf (fun _ _ => id), fun b hb => by obtain ⟨a, c, d, e⟩ := h.q b hb; exact ⟨a, c, d, Nat.lt_of_lt_of_le e hf.size⟩⟩
theorem MP.lt {N : Nat} {w : World} {sb ob : Nat} {C : Option Ch} {bs : List BC} {mp : Value} {f : Int → PV} (h : MP N w sb ob C bs mp f) (h0 : 0 < bs.length) : sb < w.heap.size ∧ ob < w.heap.size ∧ (∀ b, Ch.has C b → b < w.heap.size) ∧ (∀ b, mp = .map (some b) → b < w.heap.size) := by
  obtain ⟨cap, hs⟩ := h.s.s
  refine ⟨World.block_lt_of_cell? w _ hs, World.block_lt_of_cell? w _ h.s.o0, fun b hb => ?_, fun b hb => (h.q b hb).2.2.2⟩
  obtain ⟨D, rfl, hD⟩ := hb
  obtain ⟨h1, _, h3⟩ := h.b
  rcases hD with rfl | rfl
  · exact World.block_lt_of_cell? w _ h1
  · exact World.block_lt_of_cell? w _ (h3 0 h0).1
theorem MP.of_mat {w : World} {sb ob : Nat} {C : Option Ch} {bs : List BC} (h : MAt w sb ob C false bs) : MP 0 w sb ob C bs (.map none) (fun _ => pv0) :=
  ⟨h.s, h.b, h.d, .inl ⟨rfl, fun _ => rfl⟩, fun b hb => by cases hb⟩
theorem forget_mp {N : Nat} {w : World} {sb ob : Nat} {C : Option Ch} {bs : List BC} {mp : Value} {f : Int → PV} (h : MP N w sb ob C bs mp f) (k : Int) (hk : 0 ≤ k ∧ k ≤ 100000) :
    Calls Try.prog 13 #[.pointer (some ⟨ob, 0, none⟩), .int .i64 k, .int .i64 4] w fun r w' => r = .returned (.tuple #[]) ∧ MP N w' sb ob C bs mp (forgF f k) ∧ Fr (fun j => mp = .map (some j)) w w' := by
  rcases h.p with ⟨rfl, h0⟩ | ⟨b, n, D, rfl, h1, h2, h3⟩
  · refine (forget_of h.s k 4 (by omega) (by omega)).mono fun r w' hr => ?_
    obtain ⟨rfl, rfl⟩ := hr
    exact ⟨rfl, ⟨h.s, h.b, h.d, .inl ⟨rfl, fun j => by unfold forgF; split; rfl; exact h0 j⟩, h.q⟩, Fr.refl _ _⟩
  · obtain ⟨q1, q2, q3, q4⟩ := h.q b rfl
    refine (forget_map h.s h2 q2 k (by omega)).mono fun r w' hr => ?_
    obtain ⟨rfl, hF⟩ := hr
    obtain ⟨D', ho, a1, a2, hf⟩ := hF.out
    refine ⟨rfl, ⟨h.s.kept hf (fun e => q1 e.symm) (fun e => q2 e.symm), h.b.kept hf (fun x hx e => q3 (e ▸ hx)), h.d, .inr ⟨b, n, D', rfl, h1, ho, fun j => ?_⟩, fun b' hb' => by obtain ⟨a, c, d, e⟩ := h.q b' hb'; exact ⟨a, c, d, Nat.lt_of_lt_of_le e hf.size⟩⟩, hf.mono (fun j _ e => by rw [e])⟩
    unfold forgF
    by_cases e : k - 3 ≤ j ∧ j < k + 4
    · rw [if_pos e]; exact a1 j e
    · rw [if_neg e, a2 j e]; exact h3 j
theorem set_mp {N : Nat} {w : World} {sb ob : Nat} {C : Option Ch} {bs : List BC} {mp : Value} {f : Int → PV} (h : MP N w sb ob C bs mp f) (hs : bs.length < 512) (k : Nat) (hk : k < bs.length) (v : Int) :
    Calls Try.prog 14 #[.pointer (some ⟨ob, 0, none⟩), .int .i64 k, .int .u8 v] w fun r w' => r = .returned (.tuple #[]) ∧ ∃ C', MP N w' sb ob C' (bs.set k ⟨v, true⟩) mp f ∧ Fr (fun j => j = ob ∨ Ch.has C j) w w' ∧ (∀ b, Ch.has C' b → Ch.has C b ∨ w.heap.size ≤ b) := by
  obtain ⟨l1, l2, _, _⟩ := h.lt (by omega)
  have key : ∀ r w', SetP sb ob bs.length C mp false (bs.set k ⟨v, true⟩) w r w' → r = .returned (.tuple #[]) ∧ ∃ C', MP N w' sb ob C' (bs.set k ⟨v, true⟩) mp f ∧ Fr (fun j => j = ob ∨ Ch.has C j) w w' ∧ (∀ b, Ch.has C' b → Ch.has C b ∨ w.heap.size ≤ b) := fun r w' hr => by
    obtain ⟨e, C', a, b, c, d⟩ := hr
    have nF : ∀ b, mp = .map (some b) → ¬ (b = ob ∨ Ch.has C b) := fun b hb => by obtain ⟨_, q2, q3, _⟩ := h.q b hb; exact fun e => e.elim q2 q3
    refine ⟨e, C', ⟨by rw [List.length_set]; exact a, b, fun x hx => ?_, h.p.kept c nF, fun b hb => ?_⟩, c, d⟩
    · rcases d x hx with q | q
      · exact h.d x q
      · exact ⟨by omega, by omega⟩
    · obtain ⟨q1, q2, q3, q4⟩ := h.q b hb
      refine ⟨q1, q2, fun e => ?_, Nat.lt_of_lt_of_le q4 c.size⟩
      rcases d b e with q | q
      · exact q3 q
      · omega
  cases C with
  | none => exact (set_none h.s h.b hs k hk v).mono key
  | some D => exact (set_some h.s h.b h.d (by omega) k hk v).mono key
theorem isKI (x : Int) : WideAt.IsKeyLit (.int .i64 x) := trivial
def keepF (f : Int → PV) (off : Int) (p : PV) : Int → PV := fun k => if k = off then p else f k
theorem keep_mp {N : Nat} {w : World} {sb ob : Nat} {C : Option Ch} {bs : List BC} {mp : Value} {f : Int → PV} (h : MP N w sb ob C bs mp f) (hN : N ≤ 800) (off : Int) (ho : 0 ≤ off ∧ off ≤ 100000) (p : PV) (h0 : f off = pv0) (hpos : 0 < bs.length) :
    Calls Try.prog 15 #[.pointer (some ⟨ob, 0, none⟩), .int .i64 off, p.v] w fun r w' => r = .returned (.tuple #[]) ∧ ∃ mp', MP (N + 1) w' sb ob C bs mp' (keepF f off p) ∧ Fr (fun j => j = ob ∨ mp = .map (some j)) w w' ∧ (∀ b, mp' = .map (some b) → mp = .map (some b) ∨ w.heap.size ≤ b) := by
  obtain ⟨l1, l2, l3, l4⟩ := h.lt hpos
  cases hz : p.z with
  | true =>
    have e := PV.z_iff.1 hz
    have ef : keepF f off p = f := by funext k; unfold keepF; split; · rename_i e'; rw [e', h0, e]
                                      · rfl
    rw [ef]
    refine (keep_zero (sb := sb) (sz := 0) (ch := .map none) (mp := .map none) p e off).mono fun r w' hr => ?_
    obtain ⟨rfl, hf⟩ := hr
    have hq := h.quiet hf
    exact ⟨rfl, mp, ⟨hq.s, hq.b, hq.d, hq.p.mono (by omega), hq.q⟩, hf.mono (fun _ _ x => x.elim), fun b hb => .inl hb⟩
  | false =>
    rcases h.p with ⟨rfl, h00⟩ | ⟨b, n, D, rfl, h1, h2, h3⟩
    · refine (keep_new h.s p hz off ho).mono fun r w' hr => ?_
      obtain ⟨rfl, b, hb, hs, hown, hf⟩ := hr
      refine ⟨rfl, .map (some b), ⟨hs, h.b.kept hf (fun x hx e => (h.d x hx).2 e), h.d, .inr ⟨b, 1, _, rfl, by omega, hown, fun k => ?_⟩, fun b' hb' => ?_⟩, hf.mono (fun j _ e => .inl e), fun b' hb' => ?_⟩
      · unfold keepF
        by_cases e : k = off
        · subst e; rw [if_pos rfl, Maps.atKey_put_same Maps.isMap_empty (isKI _)]
        · rw [if_neg e, Maps.atKey_put_other (by intro e'; injection e' with _ e'; exact e e'), h00 k]; rfl
      · injection hb' with hb'
        injection hb' with hb'
        subst hb'
        exact ⟨by omega, by omega, fun e => by have := l3 _ e; omega, hown.lt⟩
      · injection hb' with hb'
        injection hb' with hb'
        subst hb'
        exact .inr hb
    · obtain ⟨q1, q2, q3, q4⟩ := h.q b rfl
      refine (keep_map h.s h2 (by omega) ⟨q2, q1⟩ p hz off ho).mono fun r w' hr => ?_
      obtain ⟨rfl, hown, hf⟩ := hr
      refine ⟨rfl, .map (some b), ⟨h.s.kept hf (fun e => q1 e.symm) (fun e => q2 e.symm), h.b.kept hf (fun x hx e => q3 (e ▸ hx)), h.d, .inr ⟨b, n + 1, _, rfl, by omega, hown, fun k => ?_⟩, fun b' hb' => ?_⟩, hf.mono (fun j _ e => .inr (by rw [e])), fun b' hb' => .inl hb'⟩
      · unfold keepF
        by_cases e : k = off
        · subst e; rw [if_pos rfl, Maps.atKey_put_same h2.isMap (isKI _)]
        · rw [if_neg e, Maps.atKey_put_other (by intro e'; injection e' with _ e'; exact e e')]; exact h3 k
      · injection hb' with hb'
        injection hb' with hb'
        subst hb'
        exact ⟨q1, q2, q3, Nat.lt_of_lt_of_le q4 hf.size⟩
end Go.Proofs.Ytonkfgjmienalaa
