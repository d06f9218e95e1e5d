/-
  Memories (layer 11): the first byte of an object is set.
-/
import Derived.Test.YtonkfgjmienalaaStoD
import Derived.Outline
namespace Go.Proofs.Ytonkfgjmienalaa
open Go.RowKit
set_option linter.unusedVariables false
set_option linter.unusedSimpArgs false
def rowZ (n : Nat) : Array Value := madeCells #[.int .u8 0, .bool false] (n * 2)
theorem rowZ_size (n : Nat) : (rowZ n).size = n * 2 := size_madeCells _ _
theorem rowZ_get (n i : Nat) (hi : i < n) : (rowZ n)[i * 2]? = some (.int .u8 0) ∧ (rowZ n)[i * 2 + 1]? = some (.bool false) := by
  unfold rowZ madeCells
  have e0 : (i * 2) % 2 = 0 := by omega
  have e1 : (i * 2 + 1) % 2 = 1 := by omega
  constructor
  · rw [Array.getElem?_map, Array.getElem?_range, if_pos (by omega)]
    simp [e0]
  · rw [Array.getElem?_map, Array.getElem?_range, if_pos (by omega)]
    simp [e1]
theorem info_cell : (Try.prog.info? 58).map (fun i => (i.zero, i.size, i.bytes)) = some (some (.agg #[.int .u8 0, .bool false]), 2, 2) := by kernel_rfl
theorem make_row (n : Nat) (hn : n ≤ 1000) (w : World) : (Instr.makeSlice 63 (.int .i64 n) (.int .i64 n)).run Try.prog w = .ok (.slice (some ⟨w.heap.size, 0, none⟩) n n) (w.alloc (.cells (rowZ n) 58)) := by
  obtain ⟨i, hi, hz, hs, hb⟩ := info_parts info_cell
  have := run_makeSlice (w := w) 63 58 i (.agg #[.int .u8 0, .bool false]) Try.underlying63 hi hz .i64 .i64 n n (by omega) (Int.le_refl _) (by rw [hs]; omega) (by rw [hb]; omega) (by omega)
  rw [hs, show (Value.agg #[.int .u8 0, .bool false]).cells = #[.int .u8 0, .bool false] from rfl, Int.toNat_natCast] at this
  exact this
theorem make_one (w : World) : (Instr.makeSlice 43 (.int .i64 1) (.int .i64 1)).run Try.prog w = .ok (.slice (some ⟨w.heap.size, 0, none⟩) 1 1) (w.alloc (.cells #[.slice none 0 0] 63)) := by kernel_rfl
theorem getD_none {bs : List BC} {w : World} (h : BAt w none bs) (i : Nat) : bs.getD i bc0 = bc0 := by
  by_cases hi : i < bs.length
  · exact h i hi
  · rw [List.getD_eq_getElem?_getD, List.getElem?_eq_none (by omega)]; rfl
theorem rowP_get (n k i : Nat) (hi : i < n) (hk : k < n) (x y : Value) : (((rowZ n).setIfInBounds (k * 2) x).setIfInBounds (k * 2 + 1) y)[i * 2]? = some (if i = k then x else .int .u8 0) ∧ (((rowZ n).setIfInBounds (k * 2) x).setIfInBounds (k * 2 + 1) y)[i * 2 + 1]? = some (if i = k then y else .bool false) := by
  obtain ⟨a, b⟩ := rowZ_get n i hi
  have hs := rowZ_size n
  constructor
  · rw [Array.getElem?_setIfInBounds, if_neg (by omega), Array.getElem?_setIfInBounds]
    by_cases e : i = k
    · rw [if_pos (by omega), if_pos (by omega), if_pos e]
    · rw [if_neg (by omega), if_neg e]; exact a
  · rw [Array.getElem?_setIfInBounds]
    by_cases e : i = k
    · rw [if_pos (by omega), if_pos (by simp; omega), if_pos e]
    · rw [if_neg (by omega), Array.getElem?_setIfInBounds, if_neg (by omega), if_neg e]; exact b
set_option maxRecDepth 100000 in
set_option maxHeartbeats 2000000 in
theorem set_none {w : World} {sb ob : Nat} {mp : Value} {dead : Bool} {bs : List BC} (h : SAt w sb ob bs.length (chV none) mp dead) (hb : BAt w none bs) (hs : bs.length < 512) (k : Nat) (hk : k < bs.length) (v : Int) :
    Calls Try.prog 14 #[.pointer (some ⟨ob, 0, none⟩), .int .i64 k, .int .u8 v] w (SetP sb ob bs.length none mp dead (bs.set k ⟨v, true⟩) w) := by
  have o1 := h.o1
  have o0 := h.o0
  have f1 := h.of 1 (by decide)
  unfold chV at o1
  dsimp only at o1
  have lo := World.block_lt_of_cell? w _ o1
  have ls : sb < w.heap.size := by obtain ⟨cap, hs⟩ := h.s; exact World.block_lt_of_cell? w _ hs
  simp only at lo
  obtain ⟨n, hn⟩ : ∃ n, bs.length = n := ⟨_, rfl⟩
  rw [hn] at hs hk o0
  have hm1 := make_one
  have hm2 := make_row n (by omega)
  have n1 := chunk_nil
  have n2 := chunk_not
  have n3 := cells_nil
  have n4 := cells_not
  have q1 : (k : Int).tdiv 512 = 0 := Int.tdiv_eq_zero_of_lt (by omega) (by omega)
  have q2 : (k : Int).tmod 512 = k := Int.tmod_eq_of_lt (by omega) (by omega)
  have q3 : ((n : Int) + 512 - 1).tdiv 512 = 1 := by rw [Int.tdiv_eq_ediv_of_nonneg (by omega)]; omega
  have t0 : (0 : Int) ≤ k := by omega
  have t1 : (k : Int) < n := by omega
  have hne : w.heap.size ≠ ob := by omega
  obtain ⟨W2, hW2⟩ : ∃ W2, W2 = w.setCell ⟨ob, 1, none⟩ (.slice (some ⟨w.heap.size, 0, none⟩) 1 1) := ⟨_, rfl⟩
  obtain ⟨W3, hW3⟩ : ∃ W3, W3 = W2.alloc (.cells #[.slice (some ⟨w.heap.size + 1, 0, none⟩) n n] 63) := ⟨_, rfl⟩
  have s2 : W2.heap.size = w.heap.size := by rw [hW2]; simp
  have s3 : W3.heap.size = w.heap.size + 1 := by rw [hW3]; simp [s2]
  have g2 : Fr (fun j => j = ob) w W2 := by rw [hW2]; exact fr_setF (F := fun j => j = ob) (b := ob) (Fr.refl _ _) rfl _ _
  have g3 : Fr (fun _ => False) W2 W3 := by rw [hW3]; exact fr_al (Fr.refl _ _) _
  have e5 : (W3.alloc (.cells ((rowZ n).setIfInBounds (k * 2) (.int .u8 v)) 58)).cell? ⟨w.heap.size + 1, k * 2 + 1, none⟩ = some (.bool false) := by
    rw [← s3]
    refine fcell W3 _ _ _ _ ?_
    rw [Array.getElem?_setIfInBounds, if_neg (by omega)]
    exact (rowZ_get n k hk).2
  have e5f : (W3.alloc (.cells ((rowZ n).setIfInBounds (k * 2) (.int .u8 v)) 58)).frozen? ⟨w.heap.size + 1, k * 2 + 1, none⟩ = false := by rw [← s3]; exact World.frozen?_alloc_new _ _ _ _
  have e4 : (W3.alloc (.cells (rowZ n) 58)).cell? ⟨w.heap.size + 1, k * 2, none⟩ = some (.int .u8 0) := by rw [← s3]; exact fcell W3 _ _ _ _ (rowZ_get n k hk).1
  have e4f : (W3.alloc (.cells (rowZ n) 58)).frozen? ⟨w.heap.size + 1, k * 2, none⟩ = false := by rw [← s3]; exact World.frozen?_alloc_new _ _ _ _
  have HE : Hid (SetP sb ob bs.length none mp dead (bs.set k ⟨v, true⟩) w (.returned (.tuple #[])) (W3.alloc (.cells (((rowZ n).setIfInBounds (k * 2) (.int .u8 v)).setIfInBounds (k * 2 + 1) (.bool true)) 58))) := Lib.hid (by
    obtain ⟨W4, hW4⟩ : ∃ W4, W4 = W3.alloc (.cells (((rowZ n).setIfInBounds (k * 2) (.int .u8 v)).setIfInBounds (k * 2 + 1) (.bool true)) 58) := ⟨_, rfl⟩
    have g4 : Fr (fun _ => False) W3 W4 := by rw [hW4]; exact fr_al (Fr.refl _ _) _
    rw [← hW4]
    obtain ⟨cap, hs1⟩ := h.s
    have h2 : SAt W2 sb ob bs.length (.slice (some ⟨w.heap.size, 0, none⟩) 1 1) mp dead := by
      refine ⟨⟨cap, g2.cell hs1 h.ne⟩, by rw [hW2]; exact set_keep h.o0 (by decide), by rw [hW2]; exact World.cell?_setCell_same _ _ _ o1, by rw [hW2]; exact set_keep h.o2 (by decide), by rw [hW2]; exact set_keep h.o3 (by decide), (g2.frozen hs1 h.ne).trans h.sf, fun j hj => by rw [hW2, World.frozen?_setCell]; exact h.of j hj, h.ne⟩
    refine ⟨rfl, some ⟨w.heap.size, w.heap.size + 1, 1, n⟩, (h2.quiet g3).quiet g4, ⟨?_, by show w.heap.size ≠ w.heap.size + 1; omega, fun i hi => ?_⟩, (g2.mono (fun j _ e => .inl e)).trans' (g3.trans g4) (fun _ _ f => f.elim), fun b hb => ?_⟩
    · rw [List.length_set, hn]
      refine g4.cell ?_ id
      rw [hW3, ← s2]
      exact fcell W2 _ _ 0 _ rfl
    · rw [List.length_set, hn] at hi
      rw [set_getD (by rw [hn]; exact hk), getD_none hb i]
      obtain ⟨r1, r2⟩ := rowP_get n k i hi hk (.int .u8 v) (.bool true)
      show W4.cell? ⟨w.heap.size + 1, i * 2, none⟩ = _ ∧ W4.cell? ⟨w.heap.size + 1, i * 2 + 1, none⟩ = _ ∧ W4.frozen? ⟨w.heap.size + 1, i * 2, none⟩ = false ∧ W4.frozen? ⟨w.heap.size + 1, i * 2 + 1, none⟩ = false
      rw [hW4, ← s3]
      refine ⟨(fcell W3 _ _ _ _ r1).trans ?_, (fcell W3 _ _ _ _ r2).trans ?_, World.frozen?_alloc_new _ _ _ _, World.frozen?_alloc_new _ _ _ _⟩
      · by_cases e : i = k
        · rw [if_pos e, if_pos e]
        · rw [if_neg e, if_neg e]; rfl
      · by_cases e : i = k
        · rw [if_pos e, if_pos e]
        · rw [if_neg e, if_neg e]; rfl
    · obtain ⟨D, e, hD⟩ := hb
      injection e with e
      subst e
      rcases hD with e | e
      · exact .inr (by rw [e]; exact Nat.le_refl _)
      · exact .inr (by rw [e]; exact Nat.le_succ _))
  clear h hb g2 g3
  rw [hn] at HE ⊢
  subst hW3 hW2
  go_enter Try.func14, Try.ntmps14
  go_wp2
  go_end0
  exact HE.out
end Go.Proofs.Ytonkfgjmienalaa
