/-
  Frames (layer 25): where everything lies, plainly.
-/
import Derived.Test.YtbldglnfadnkeaaFaI
import Derived.Deep.OwnRows
namespace Go.Proofs.Ytbldglnfadnkeaa
open Go.RowKit
set_option linter.unusedVariables false
set_option linter.unusedSimpArgs false
theorem infoBool : (Try.prog.info? 4).map (fun i => (i.zero, i.size, i.bytes)) = some (some (.bool false), 1, 1) := by kernel_rfl
theorem mk_b (n : Nat) (hn : n ≤ 1000000) (w : World) : (Instr.makeSlice 39 (.int .i64 (n : Int)) (.int .i64 (n : Int))).run Try.prog w = .ok (.slice (some ⟨w.heap.size, 0, none⟩) n n) (w.alloc (.cells (madeCells #[.bool false] n) 4)) :=
  run_make_row' 39 4 (.bool false) 1 Try.underlying39 infoBool rfl .i64 .i64 n (by omega) (by omega) w
/-- Where the so manieth thing begins. -/
def ST (M : Nat) (s : List Int) (i : Nat) : Int := if i < M then 4 * (i : Int) else 4 * (M : Int) + offs s (i - M)
def LN (M : Nat) (s : List Int) (i : Nat) : Int := if i < M then 4 else s.getD (i - M) 0
def rowS (M : Nat) (s : List Int) (m : Nat) : List Int := (List.range m).map (ST M s)
def rowL (M : Nat) (s : List Int) (m : Nat) : List Int := (List.range m).map (LN M s)
theorem rowS_len (M : Nat) (s : List Int) (m : Nat) : (rowS M s m).length = m := by simp [rowS]
theorem rowL_len (M : Nat) (s : List Int) (m : Nat) : (rowL M s m).length = m := by simp [rowL]
theorem rowS_succ (M : Nat) (s : List Int) (m : Nat) : rowS M s (m + 1) = rowS M s m ++ [ST M s m] := by simp [rowS, List.range_succ]
theorem rowL_succ (M : Nat) (s : List Int) (m : Nat) : rowL M s (m + 1) = rowL M s m ++ [LN M s m] := by simp [rowL, List.range_succ]
theorem st_lo {M : Nat} {s : List Int} {i : Nat} (h : i < M) : ST M s i = 4 * (i : Int) := by unfold ST; rw [if_pos h]
theorem ln_lo {M : Nat} {s : List Int} {i : Nat} (h : i < M) : LN M s i = 4 := by unfold LN; rw [if_pos h]
theorem st_hi (M : Nat) (s : List Int) (j : Nat) : ST M s (M + j) = 4 * (M : Int) + offs s j := by unfold ST; rw [if_neg (by omega), Nat.add_sub_cancel_left]
theorem ln_hi (M : Nat) (s : List Int) (j : Nat) : LN M s (M + j) = s.getD j 0 := by unfold LN; rw [if_neg (by omega), Nat.add_sub_cancel_left]
theorem st_step {M : Nat} {s : List Int} (hs : Slm s) {i : Nat} (hi : i < M + s.length) : 0 < LN M s i ∧ LN M s i ≤ 40000 ∧ ST M s i + LN M s i ≤ ST M s (i + 1) := by
  rcases Nat.lt_or_ge i M with h | h
  · rw [ln_lo h, st_lo h]
    rcases Nat.lt_or_ge (i + 1) M with h2 | h2
    · rw [st_lo h2]; omega
    · obtain rfl : M = i + 1 := by omega
      have : ST (i + 1) s (i + 1 + 0) = 4 * ((i + 1 : Nat) : Int) + offs s 0 := st_hi _ _ _
      rw [Nat.add_zero] at this
      have e : offs s 0 = 0 := rfl
      rw [this, e]; omega
  · obtain ⟨j, rfl⟩ := Nat.exists_eq_add_of_le h
    have h1 := hs j (by omega)
    have e : offs s (j + 1) = offs s j + up4 (s.getD j 0) := rfl
    unfold up4 at e
    rw [ln_hi, st_hi, Nat.add_assoc, st_hi]
    omega
theorem st_mod {M : Nat} {s : List Int} (hs : Slm s) {i : Nat} (hi : i ≤ M + s.length) : 0 ≤ ST M s i ∧ ST M s i % 4 = 0 := by
  rcases Nat.lt_or_ge i M with h | h
  · rw [st_lo h]; omega
  · obtain ⟨j, rfl⟩ := Nat.exists_eq_add_of_le h
    have := offs_in hs.slim j (by omega)
    rw [st_hi]; omega
theorem st_le {M : Nat} {s : List Int} (hs : Slm s) : ∀ d i, i + d = M + s.length → ST M s i ≤ ST M s (M + s.length)
  | 0, i, h => by rw [← h, Nat.add_zero]; exact Int.le_refl _
  | d + 1, i, h => by
    have h1 := st_step (M := M) hs (i := i) (by omega)
    have h2 := st_le (M := M) hs d (i + 1) (by omega)
    omega
theorem st_facts {M : Nat} {s : List Int} (hs : Slm s) {i : Nat} (hi : i < M + s.length) : 0 ≤ ST M s i ∧ (ST M s i).tmod 4 = 0 ∧ 0 < LN M s i ∧ LN M s i ≤ 40000 ∧ ST M s i + LN M s i ≤ ST M s (i + 1) ∧ ST M s (i + 1) ≤ ST M s (M + s.length) := by
  obtain ⟨h1, h2, h3⟩ := st_step hs hi
  obtain ⟨h4, h5⟩ := st_mod hs (show i ≤ M + s.length by omega)
  exact ⟨h4, by rw [Int.tmod_eq_emod_of_nonneg h4]; exact h5, h1, h2, h3, st_le hs (M + s.length - (i + 1)) (i + 1) (by omega)⟩
theorem lr_zero {s : List Int} {n kk : Nat} {R : Int} {sv : List Int} {sz sl : Int} {v ob : List Int} (hr : LR s n R (kk : Int) sv = (sz, v, sl, ob, 0)) :
    sz = ST (1 + v.length + kk) s (1 + v.length + kk + s.length) ∧ sl = 4 + 4 * (v.length : Int) ∧ ob = obsL s (4 * ((1 + v.length + kk : Nat) : Int)) s.length ∧ sz ≤ 2000 := by
  unfold LR at hr
  split at hr
  · simp at hr
  · split at hr
    · simp at hr
    · rename_i h1 h2
      simp only [Prod.mk.injEq] at hr
      obtain ⟨rfl, rfl, rfl, rfl, _⟩ := hr
      have e : fstI sv kk = 4 * ((1 + sv.length + kk : Nat) : Int) := by unfold fstI; omega
      refine ⟨by rw [st_hi, e], rfl, by rw [e], by omega⟩
theorem Ints.frO {B : Nat} {w w' : World} {v : Value} {xs : List Int} {F : Nat → Prop} (h : Ints B w v xs) (hf : Fr F w w') (hn : ∀ k, v.ownBlock = some k → ¬F k) : Ints B w' v xs := hf.owns h hn
theorem Ints.lit {B : Nat} {w : World} {g : Nat} {x : Int} (h : Bx w g #[.int .i64 x] 3) (hb : B ≤ g) : Ints B w (.slice (some ⟨g, 0, none⟩) 1 1) [x] :=
  ⟨rfl, .inr ⟨g, 1, _, rfl, hb, h, Nat.le_refl _, by decide, rfl, rfl⟩⟩
theorem row_apart {B B2 : Nat} {w : World} {v1 v2 : Value} {xs ys : List Int} {x y : Int} (h1 : Ints B w v1 xs) (h2 : Ints B2 w v2 ys) (e1 : xs[0]? = some x) (e2 : ys[0]? = some y) (hne : x ≠ y) : ∀ k, v1.ownBlock = some k → v2.ownBlock ≠ some k := fun k hk hk2 => by
  obtain ⟨a, c, rfl, f1⟩ := h1.form
  obtain ⟨a2, c2, rfl, f2⟩ := h2.form
  obtain ⟨g, rfl, _, c1⟩ := f1 0 x e1
  obtain ⟨g2, rfl, _, c2⟩ := f2 0 y e2
  have hg : g = k := by simpa [Value.ownBlock] using hk
  have hg2 : g2 = k := by simpa [Value.ownBlock] using hk2
  subst hg hg2
  rw [c1] at c2
  exact hne (by simpa using c2)
theorem row_bool {B : Nat} {w : World} {v : Value} {xs : List Int} {g : Nat} {z : Array Value} (h : Ints B w v xs) (hb : Bx w g z 4) : ∀ k, v.ownBlock = some k → k ≠ g := fun k hk e => by
  subst e
  rcases h.2 with ⟨rfl, _⟩ | ⟨g, cap, cur, rfl, _, hc, _⟩
  · cases hk
  · have hg : g = k := by simpa [Value.ownBlock] using hk
    subst hg
    unfold Bx at hb
    rw [hb] at hc
    have : 4 = 3 := by
      have := Option.some.inj hc
      injection this
    exact absurd this (by decide)
theorem row0S {M : Nat} {s : List Int} {m : Nat} (hM : 0 < M) (hm : 0 < m) : (rowS M s m)[0]? = some 0 := by
  unfold rowS
  rw [List.getElem?_map, List.getElem?_range hm, Option.map_some, st_lo hM]; rfl
theorem row0L {M : Nat} {s : List Int} {m : Nat} (hM : 0 < M) (hm : 0 < m) : (rowL M s m)[0]? = some 4 := by
  unfold rowL
  rw [List.getElem?_map, List.getElem?_range hm, Option.map_some, ln_lo hM]
theorem rows_apart {B : Nat} {w : World} {v1 v2 : Value} {M : Nat} {s : List Int} {m m2 : Nat} (hM : 0 < M) (hm : 0 < m) (hm2 : 0 < m2) (h1 : Ints B w v1 (rowS M s m)) (h2 : Ints B w v2 (rowL M s m2)) : ∀ k, v1.ownBlock = some k → v2.ownBlock ≠ some k := row_apart h1 h2 (row0S hM hm) (row0L hM hm2) (by decide)
/-- Numbers in a block. -/
def RwAt (w : World) (g N : Nat) (f : Nat → Int) : Prop := ∀ i, i < N → w.cell? ⟨g, 0 + i, none⟩ = some (.int .i64 (f i))
theorem RwAt.fr {w w' : World} {g N : Nat} {f : Nat → Int} {F : Nat → Prop} (h : RwAt w g N f) (hf : Fr F w w') (hn : ¬F g) : RwAt w' g N f := fun i hi => hf.cell (h i hi) hn
theorem row_at {B : Nat} {w : World} {v : Value} {N : Nat} {f : Nat → Int} (hN : 0 < N) (h : Ints B w v ((List.range N).map f)) : ∃ g c, v = .slice (some ⟨g, 0, none⟩) N c ∧ v.ownBlock = some g ∧ RwAt w g N f := by
  obtain ⟨a, c, rfl, hc⟩ := h.form
  obtain ⟨g, rfl, _, _⟩ := hc 0 (f 0) (by rw [List.getElem?_map, List.getElem?_range hN]; rfl)
  refine ⟨g, c, by simp, rfl, fun i hi => ?_⟩
  obtain ⟨g2, e, _, h2⟩ := hc i (f i) (by rw [List.getElem?_map, List.getElem?_range hi]; rfl)
  have : g2 = g := by simpa using e.symm
  subst this
  rw [Nat.zero_add]; exact h2
/-- Bytes that are not yet taken from a place on. -/
def Us (w : World) (g n : Nat) (E : Int) : Prop := ∃ z, Bx w g z 4 ∧ ∀ q : Nat, E ≤ (q : Int) → q < n → z[q]? = some (.bool false)
theorem Us.fr {w w' : World} {g n : Nat} {E : Int} {F : Nat → Prop} (h : Us w g n E) (hf : Fr F w w') (hn : ¬F g) : Us w' g n E := by
  obtain ⟨z, hb, hz⟩ := h
  exact ⟨z, hb.fr hf hn, hz⟩
theorem Us.le {w : World} {g n : Nat} {E E' : Int} (h : Us w g n E) (he : E ≤ E') : Us w g n E' := by
  obtain ⟨z, hb, hz⟩ := h
  exact ⟨z, hb, fun q hq hn => hz q (by omega) hn⟩
theorem Us.made {w : World} {g n : Nat} (h : Bx w g (madeCells #[.bool false] n) 4) : Us w g n 0 := ⟨_, h, fun q _ hq => by
  have := toList_madeCells_one (.bool false) n
  rw [← Array.getElem?_toList, this]
  simp [hq]⟩
theorem us_set {w : World} {g n p : Nat} {z : Array Value} {E E' : Int} (h : Bx w g (z.setIfInBounds p (.bool true)) 4) (hz : ∀ q : Nat, E ≤ (q : Int) → q < n → z[q]? = some (.bool false)) (he : E = (p : Int)) (he2 : E' = E + 1) : Us w g n E' :=
  ⟨_, h, fun q hq hn => by
    rw [Array.getElem?_setIfInBounds_ne (by omega)]
    exact hz q (by omega) hn⟩
end Go.Proofs.Ytbldglnfadnkeaa
