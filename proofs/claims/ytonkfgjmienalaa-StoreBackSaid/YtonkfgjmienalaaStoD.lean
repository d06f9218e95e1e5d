/-
  Memories (layer 11): a byte is set.
-/
import Derived.Test.YtonkfgjmienalaaStoC
import Derived.Outline
namespace Go.Proofs.Ytonkfgjmienalaa
open Go.RowKit
set_option linter.unusedVariables false
set_option linter.unusedSimpArgs false
theorem fr_setF {F : Nat → Prop} {w w4 : World} (h : Fr F w w4) {b : Nat} (hb : F b) (o : Nat) (v : Value) : Fr F w (w4.setCell ⟨b, o, none⟩ v) := h.trans (Fr.setCell w4 ⟨b, o, none⟩ v hb)
theorem cell_far {w : World} {a b : Addr} {v x : Value} (h : w.cell? a = some v) (hne : a.block ≠ b.block) : (w.setCell b x).cell? a = some v := by
  have hf : Fr (fun j => j = b.block) w (w.setCell b x) := Fr.setCell w b x rfl
  exact hf.cell h hne
theorem set_getD {bs : List BC} {k i : Nat} (hk : k < bs.length) (x : BC) : (bs.set k x).getD i bc0 = if i = k then x else bs.getD i bc0 := by
  by_cases e : i = k
  · rw [if_pos e, e, List.getD_eq_getElem?_getD, List.getElem?_set_self hk]; rfl
  · rw [if_neg e, List.getD_eq_getElem?_getD, List.getElem?_set_ne (fun q => e q.symm), ← List.getD_eq_getElem?_getD]
/-- The two cells of a byte are written. -/
theorem BAt.put {w : World} {D : Ch} {bs : List BC} (h : BAt w (some D) bs) {k : Nat} (hk : k < bs.length) (v : Int) :
    BAt ((w.setCell ⟨D.kb, k * 2, none⟩ (.int .u8 v)).setCell ⟨D.kb, k * 2 + 1, none⟩ (.bool true)) (some D) (bs.set k ⟨v, true⟩) := by
  obtain ⟨h1, h2, h3⟩ := h
  refine ⟨?_, h2, fun i hi => ?_⟩
  · rw [List.length_set]
    exact cell_far (cell_far h1 h2) h2
  · rw [List.length_set] at hi
    obtain ⟨a, b, c, d⟩ := h3 i hi
    obtain ⟨ak, bk, _, _⟩ := h3 k hk
    rw [set_getD hk]
    by_cases e : i = k
    · subst e
      rw [if_pos rfl]
      refine ⟨set_keep (World.cell?_setCell_same _ _ _ ak) (by omega), World.cell?_setCell_same _ _ _ (set_keep bk (by omega)), ?_, ?_⟩
      · rw [World.frozen?_setCell, World.frozen?_setCell]; exact c
      · rw [World.frozen?_setCell, World.frozen?_setCell]; exact d
    · rw [if_neg e]
      refine ⟨set_keep (set_keep a (by omega)) (by omega), set_keep (set_keep b (by omega)) (by omega), ?_, ?_⟩
      · rw [World.frozen?_setCell, World.frozen?_setCell]; exact c
      · rw [World.frozen?_setCell, World.frozen?_setCell]; exact d
/-- What set leaves. -/
def SetP (sb ob : Nat) (sz : Int) (C : Option Ch) (mp : Value) (dead : Bool) (bs : List BC) (w : World) (r : Ending) (w' : World) : Prop :=
  r = .returned (.tuple #[]) ∧ ∃ C', SAt w' sb ob sz (chV C') mp dead ∧ BAt w' C' bs ∧ Fr (fun j => j = ob ∨ Ch.has C j) w w' ∧ (∀ b, Ch.has C' b → Ch.has C b ∨ w.heap.size ≤ b)
set_option maxHeartbeats 1000000 in
theorem set_some {w : World} {sb ob : Nat} {sz : Int} {D : Ch} {mp : Value} {dead : Bool} {bs : List BC} (h : SAt w sb ob sz (chV (some D)) mp dead) (hb : BAt w (some D) bs) (hd : ∀ b, Ch.has (some D) b → b ≠ sb ∧ b ≠ ob) (hs : bs.length ≤ 512) (k : Nat) (hk : k < bs.length) (v : Int) :
    Calls Try.prog 14 #[.pointer (some ⟨ob, 0, none⟩), .int .i64 k, .int .u8 v] w (SetP sb ob sz (some D) mp dead (bs.set k ⟨v, true⟩) w) := by
  have o1 := h.o1
  obtain ⟨c0, hne, h3⟩ := id hb
  obtain ⟨a0, a1, z0, z1⟩ := h3 k hk
  have n1 := chunk_not
  have n2 := cells_not
  have q1 : (k : Int).tdiv 512 = 0 := Int.tdiv_eq_zero_of_lt (by omega) (by omega)
  have q2 : (k : Int).tmod 512 = k := Int.tmod_eq_of_lt (by omega) (by omega)
  have t0 : (0 : Int) ≤ k := by omega
  have t1 : (k : Int) < bs.length := by omega
  have HE : Hid (SetP sb ob sz (some D) mp dead (bs.set k ⟨v, true⟩) w (.returned (.tuple #[])) ((w.setCell ⟨D.kb, k * 2, none⟩ (.int .u8 v)).setCell ⟨D.kb, k * 2 + 1, none⟩ (.bool true))) := Lib.hid (by
    have hf : Fr (fun j => j = D.kb) w ((w.setCell ⟨D.kb, k * 2, none⟩ (.int .u8 v)).setCell ⟨D.kb, k * 2 + 1, none⟩ (.bool true)) := fr_setF (F := fun j => j = D.kb) (b := D.kb) (fr_setF (F := fun j => j = D.kb) (b := D.kb) (Fr.refl _ _) rfl _ _) rfl _ _
    have hq := hd D.kb ⟨D, rfl, .inr rfl⟩
    exact ⟨rfl, some D, h.kept hf (fun e => hq.1 e.symm) (fun e => hq.2 e.symm), hb.put hk v, hf.mono (fun j _ e => .inr ⟨D, rfl, .inr e⟩), fun b hb => .inl hb⟩)
  unfold chV at o1
  dsimp only at o1
  clear h hb hd hs hk h3 hne
  go_enter Try.func14, Try.ntmps14
  go_wp2
  go_end0
  exact HE.out
end Go.Proofs.Ytonkfgjmienalaa
