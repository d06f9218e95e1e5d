/-
  Flow (layer 16): spots, sorted rows searched, what is gathered.
-/
import Derived.Test.YtobibplilbchfaaLvC
namespace Go.Proofs.Ytobibplilbchfaa
open Go.RowKit
set_option linter.unusedVariables false
set_option linter.unusedSimpArgs false
set_option linter.unnecessarySimpa false
/-- A spot: a block and a register. -/
def spC (x : Nat × Nat) : List Value := [.int .i64 (x.1 : Int), .int .i64 (x.2 : Int)]
theorem spC_len (x : Nat × Nat) : (spC x).length = 2 := rfl
theorem spC_one (x : Nat × Nat) : ∀ u ∈ spC x, u.oneCell' = true := fun u hu => by
  have : u = .int .i64 (x.1 : Int) ∨ u = .int .i64 (x.2 : Int) := by simpa [spC] using hu
  rcases this with rfl | rfl <;> rfl
theorem infoSp : (Try.prog.info? 92).map (fun i => (i.zero, i.size, i.bytes)) = some (some (.agg #[.int .i64 0, .int .i64 0]), 2, 16) := by kernel_rfl
def Spots (B : Nat) (w : World) (v : Value) (xs : List (Nat × Nat)) : Prop := Row B 92 2 spC w v xs
theorem Spots.app {B : Nat} {W : World} {v : Value} {xs : List (Nat × Nat)} (x : Nat × Nat) (ty : TypeId) (h : Spots B W v xs) (hB : B ≤ W.heap.size) (hl : xs.length ≤ 1000000) : ∃ v' w', (Builtin.append_ #[90, 90] ty #[v, .slice (some ⟨W.heap.size, 0, none⟩) 1 1]).run Try.prog (W.alloc (.cells #[.int .i64 (x.1 : Int), .int .i64 (x.2 : Int)] 92)) = .ok v' w' ∧ (Spots B w' v' (xs ++ [x]) ∧ Fr (fun q => v.ownBlock = some q) W w' ∧ ∀ k, v'.ownBlock = some k → v.ownBlock = some k ∨ W.heap.size ≤ k) :=
  Row.app 90 ty Try.underlying90 infoSp rfl (by decide) (by decide) spC_len spC_one x h hB hl rfl
theorem Spots.at {B : Nat} {w : World} {v : Value} {xs : List (Nat × Nat)} (h : Spots B w v xs) : ∃ a c, v = .slice a xs.length c ∧ ∀ k, k < xs.length → ∃ g, a = some ⟨g, 0, none⟩ ∧ w.cell? ⟨g, 0 + k * 2, none⟩ = some (.int .i64 ((xs.getD k (0, 0)).1 : Int)) ∧ w.cell? ⟨g, 0 + k * 2 + 1, none⟩ = some (.int .i64 ((xs.getD k (0, 0)).2 : Int)) := by
  by_cases hn : 0 < xs.length
  · obtain ⟨g, cap, rfl, _⟩ := Row.own h hn
    refine ⟨_, _, rfl, fun k hk => ⟨g, rfl, ?_, ?_⟩⟩
    · exact Row.cell spC_len h (k := k) (x := xs[k]) (List.getElem?_eq_getElem hk) (j := 0) (u := .int .i64 ((xs.getD k (0, 0)).1 : Int)) (by simp [spC, List.getD_eq_getElem?_getD, hk]) (by omega)
    · exact Row.cell spC_len h (k := k) (x := xs[k]) (List.getElem?_eq_getElem hk) (j := 1) (u := .int .i64 ((xs.getD k (0, 0)).2 : Int)) (by simp [spC, List.getD_eq_getElem?_getD, hk]) (by omega)
  · obtain ⟨a, cap, rfl⟩ := Row.form h
    exact ⟨a, cap, rfl, fun k hk => absurd hk (by omega)⟩
theorem sl_toS (w : World) (a : Option Addr) (n c i : Nat) (hi : i ≤ c) (ha : a = none → c = 0) : (Instr.sliceAt 90 (.slice a n c) none (some (.int .i64 (i : Int))) none).run Try.prog w = .ok (.slice a i c) w := by
  cases a with
  | none =>
    have := ha rfl
    subst this
    obtain rfl : i = 0 := by omega
    simp [go_sem]
  | some a => simp [go_sem]; omega
theorem t_bs {B : Nat} {w : World} {v : Value} {xs : List Int} (h : Ints B w v xs) (hl : xs.length ≤ 1000000) (hs : xs.Pairwise (· ≤ ·)) (x : Int) : Calls Try.prog 48 #[v, .int .i64 x] w fun e w' => e = .returned (.tuple #[.int .i64 ((xs.countP (· < x) : Nat) : Int), .bool (xs.contains x)]) ∧ Fr (fun _ => False) w w' := by
  obtain ⟨a, c, rfl, hat⟩ := h.at
  by_cases hn : 0 < xs.length
  · obtain ⟨g, o, rfl, _⟩ := hat 0 hn
    refine (Try.slices_BinarySearch_int g o xs.length c xs x w (Nat.le_refl _) (by omega) (fun j hj => ?_) (by rw [List.take_length]; exact hs)).mono fun e w' q => ?_
    · obtain ⟨g', o', e, hc⟩ := hat j hj
      cases e
      exact hc
    · obtain ⟨rfl, m, rfl⟩ := q
      rw [List.take_length]
      exact ⟨rfl, (Fr.refl _ _).drewN m⟩
  · have : xs = [] := List.eq_nil_of_length_eq_zero (by omega)
    subst this
    refine (Try.slices_BinarySearch_int_empty a c x w).mono fun e w' q => ?_
    obtain ⟨rfl, rfl⟩ := q
    exact ⟨rfl, Fr.refl _ _⟩
theorem cell_hs {B ts : Nat} {w : World} {S n : Nat} {vs : List Value} (h : Row B ts 1 sC w (.slice (some ⟨S, 0, none⟩) n n) vs) (hl : vs.length = n) {k : Nat} (hk : k < n) : w.cell? ⟨S, 0 + k, none⟩ = some (vs.getD k nilS) :=
  Row.cell sC_len h (k := k) (x := vs.getD k nilS) (by rw [List.getD_eq_getElem?_getD, List.getElem?_eq_getElem (by rw [hl]; exact hk)]; rfl) (j := 0) (u := vs.getD k nilS) (by simp [sC]) (by omega)
theorem Tbl.frB {α : Type} {B : Nat} {te ts tb : TypeId} {f : α → List Value} {w w' : World} {S n : Nat} {vs : List Value} {xss : List (List α)} {g : Nat} {z : Array Value} (h : Tbl B te ts f w S n vs xss) (hf : Fr (fun q => q = g) w w') (hb : w.heap[g]? = some (.cells z tb (0, 0))) (h1 : te ≠ tb) (h2 : ts ≠ tb) : Tbl B te ts f w' S n vs xss :=
  h.fr hf (fun e => (h.hs.apart_typ hb h2) (by rw [← e]; rfl)) (fun k hk q e e2 => (h.hr k hk).apart_typ hb h1 (e.trans (congrArg some e2)))
theorem Tbl.frR {α : Type} {B : Nat} {te ts tb : TypeId} {f : α → List Value} {w w' : World} {S n : Nat} {vs : List Value} {xss : List (List α)} {g : Nat} {z : Array Value} (h : Tbl B te ts f w S n vs xss) (hf : Fr (fun q => q = g) w w') (hb : w.heap[g]? = some (.cells z tb (0, 0))) (h2 : ts ≠ tb) (hn : ∀ k, k < n → (vs.getD k nilS).ownBlock ≠ some g) : Tbl B te ts f w' S n vs xss :=
  h.fr hf (fun e => (h.hs.apart_typ hb h2) (by rw [← e]; rfl)) (fun k hk q e e2 => hn k hk (e.trans (congrArg some e2)))
theorem Tbl.below {α : Type} {B Z : Nat} {te ts : TypeId} {f : α → List Value} {w w' : World} {S n : Nat} {vs : List Value} {xss : List (List α)} {F : Nat → Prop} (h : Tbl B te ts f w S n vs xss) (hf : Fr F w w') (hz : S < Z ∧ ∀ k, k < n → ∀ q, (vs.getD k nilS).ownBlock = some q → q < Z) (hF : ∀ q, F q → Z ≤ q) : Tbl B te ts f w' S n vs xss :=
  h.fr hf (fun e => by have := hF _ e; omega) (fun k hk q e e2 => by have := hF _ e2; have := hz.2 k hk q e; omega)
theorem Tbl.lts {α : Type} {B : Nat} {te ts : TypeId} {f : α → List Value} {w : World} {S n : Nat} {vs : List Value} {xss : List (List α)} (h : Tbl B te ts f w S n vs xss) : S < w.heap.size ∧ ∀ k, k < n → ∀ q, (vs.getD k nilS).ownBlock = some q → q < w.heap.size := ⟨(h.hs.lt S rfl).2, fun k hk q e => ((h.hr k hk).lt q e).2⟩
theorem setB_eq (l : List (List Bool)) (b r : Nat) : l.set b ((l.getD b []).set r true) = setB l b r := rfl
/-- All spots of the rows ahead, and of a part of the next. -/
def gat (l : List (List Bool)) (m j i : Nat) (wk : List (Nat × Nat)) : Prop := ∀ b r, (b, r) ∈ wk ↔ ((b < j ∧ r < m) ∨ (b = j ∧ r < i)) ∧ bit l b r = true
theorem gat_yes {l : List (List Bool)} {m j i : Nat} {wk : List (Nat × Nat)} (h : gat l m j i wk) (hb : bit l j i = true) : gat l m j (i + 1) (wk ++ [(j, i)]) := fun b r => by
  rw [List.mem_append, List.mem_singleton, h b r]
  constructor
  · rintro (⟨q | q, q2⟩ | q)
    · exact ⟨.inl q, q2⟩
    · exact ⟨.inr ⟨q.1, by omega⟩, q2⟩
    · injection q with e1 e2
      subst e1 e2
      exact ⟨.inr ⟨rfl, by omega⟩, hb⟩
  · rintro ⟨q | q, q2⟩
    · exact .inl ⟨.inl q, q2⟩
    · by_cases e : r = i
      · exact .inr (by rw [q.1, e])
      · exact .inl ⟨.inr ⟨q.1, by omega⟩, q2⟩
theorem gat_no {l : List (List Bool)} {m j i : Nat} {wk : List (Nat × Nat)} (h : gat l m j i wk) (hb : bit l j i = false) : gat l m j (i + 1) wk := fun b r => by
  rw [h b r]
  constructor
  · rintro ⟨q | q, q2⟩
    · exact ⟨.inl q, q2⟩
    · exact ⟨.inr ⟨q.1, by omega⟩, q2⟩
  · rintro ⟨q | q, q2⟩
    · exact ⟨.inl q, q2⟩
    · by_cases e : r = i
      · rw [q.1, e, hb] at q2; cases q2
      · exact ⟨.inr ⟨q.1, by omega⟩, q2⟩
theorem gat_next {l : List (List Bool)} {m j : Nat} {wk : List (Nat × Nat)} (h : gat l m j m wk) : gat l m (j + 1) 0 wk := fun b r => by
  rw [h b r]
  constructor
  · rintro ⟨q | q, q2⟩
    · exact ⟨.inl ⟨by omega, q.2⟩, q2⟩
    · exact ⟨.inl ⟨by omega, q.2⟩, q2⟩
  · rintro ⟨q | q, q2⟩
    · by_cases e : b = j
      · exact ⟨.inr ⟨e, q.2⟩, q2⟩
      · exact ⟨.inl ⟨by omega, q.2⟩, q2⟩
    · omega
theorem getD_memZ {l : List Int} {k : Nat} (h : k < l.length) : l.getD k 0 ∈ l := by
  rw [List.getD_eq_getElem?_getD, List.getElem?_eq_getElem h]; exact List.getElem_mem h
theorem bit_mono {n m : Nat} {pl sl : List (List Int)} {il0 ol0 il ol : List (List Bool)} {wk : List (Nat × Nat)} {cur : Option (Nat × Nat × Nat)} {b r s : Nat} (hst : SpI n m pl sl il0 ol0 il ol wk cur) (hbn : b < n) (hr : r < m) (hl : (il.getD b []).length = m) (h : bit il s r = true) : bit (setB il b r) s r = true := by
  rw [bit_set (by rw [hst.ni]; exact hbn) (by rw [hl]; exact hr)]
  split
  · rfl
  · exact h
end Go.Proofs.Ytobibplilbchfaa
