/-
  Rows of a call's own, of elements of any number of cells: grown, cut, written.
-/
import Derived.Test.YthdkmjbeemfbbaaQWr
namespace Go.Proofs.Ythdkmjbeemfbbaa
open Go.RowKit
set_option linter.unusedVariables false
set_option linter.unusedSimpArgs false
theorem info_row {o : Option TypeInfo} {z : Option Value} {s b : Nat} (h : o.map (fun i => (i.zero, i.size, i.bytes)) = some (z, s, b)) : ∃ i, o = some i ∧ i.zero = z ∧ i.size = s ∧ i.bytes = b := by
  cases o with
  | none => simp at h
  | some i => simp at h; exact ⟨i, rfl, h.1, h.2.1, h.2.2⟩
theorem run_clear {P : Program} {w : World} (t ty : TypeId) (e : TypeId) (i : TypeInfo) (z : Value) (ht : P.underlying t = some (.slice e)) (hi : P.info? e = some i) (hz : i.zero = some z) (hzs : z.cells = #[z]) (hz1 : z.oneCell' = true)
    (g b n c : Nat) (cur : Array Value) (hg : w.heap[g]? = some (.cells cur e (0, 0))) (hfit : b + n ≤ cur.size) :
    ∃ w' cur', (Builtin.clear_ #[t] ty #[.slice (some ⟨g, b, none⟩) n c]).run P w = .ok (.tuple #[]) w' ∧ w'.heap[g]? = some (.cells cur' e (0, 0)) ∧ cur'.size = cur.size ∧ (∀ j, j < b → cur'[j]? = cur[j]?) ∧ Fr (fun k => k = g) w w' := by
  by_cases hn : n = 0
  · subst hn
    exact ⟨w, cur, by simp [Builtin.clear_, run_underlying ht], hg, rfl, fun _ _ => rfl, Fr.refl _ _⟩
  · have hsz : (Builtin.zeroCells #[z] n).toList.length = n := by
      rw [Array.length_toList, size_zeroCells]; simp
    have h1 : ∀ v ∈ (Builtin.zeroCells #[z] n).toList, v.oneCell' = true := by
      intro v hv
      simp [Builtin.zeroCells] at hv
      obtain ⟨j, hj, rfl⟩ := hv
      simpa [Nat.mod_one] using hz1
    have hst := run_storeCells_at P g b e (Builtin.zeroCells #[z] n).toList 0 cur w hg (by rw [hsz]; simpa using hfit) h1
    have hr : (Builtin.clear_ #[t] ty #[.slice (some ⟨g, b, none⟩) n c]).run P w = .ok (.tuple #[]) (w.setRow g (cur.toList.take (b + 0) ++ (Builtin.zeroCells #[z] n).toList ++ cur.toList.drop (b + 0 + (Builtin.zeroCells #[z] n).toList.length)).toArray) := by
      cases n with
      | zero => exact absurd rfl hn
      | succ n => simp [Builtin.clear_, run_underlying ht, zeroValue, typeInfo, hi, hz, hzs] ; simp at hst; rw [hst]; rfl
    refine ⟨_, _, hr, setRow_heap w g cur _ e _ hg, ?_, ?_, ⟨rfl, rfl, by simp, fun k hk hn => setRow_other w g k _ hn⟩⟩
    · rw [List.size_toArray, List.length_append, List.length_append, hsz, List.length_take, List.length_drop, Array.length_toList]
      omega
    · intro j hj
      rw [List.getElem?_toArray, List.append_assoc, List.getElem?_append_left (by simp; omega), List.getElem?_take, if_pos (by omega), Array.getElem?_toList]
section
variable {α : Type} {P : Program} {B : Nat} {e : TypeId} {c : Nat} {f : α → List Value} {w w' W : World} {v : Value} {xs : List α}
def Row (B : Nat) (e : TypeId) (c : Nat) (f : α → List Value) (w : World) (v : Value) (xs : List α) : Prop := w.ownsRow B e c v xs.length (xs.flatMap f)
theorem flat_len (hf : ∀ x, (f x).length = c) : ∀ xs : List α, (xs.flatMap f).length = xs.length * c
  | [] => by simp
  | x :: xs => by rw [List.flatMap_cons, List.length_append, hf, flat_len hf xs, List.length_cons, Nat.succ_mul, Nat.add_comm]
theorem flat_get (hf : ∀ x, (f x).length = c) : ∀ (xs : List α) (k : Nat) (x : α), xs[k]? = some x → ∀ (j : Nat) (u : Value), (f x)[j]? = some u → (xs.flatMap f)[k * c + j]? = some u
  | [], k, x, hk, j, u, hu => by simp at hk
  | y :: xs, 0, x, hk, j, u, hu => by
    obtain rfl : y = x := by simpa using hk
    have hj := (List.getElem?_eq_some_iff.1 hu).1
    rw [List.flatMap_cons, Nat.zero_mul, Nat.zero_add, List.getElem?_append_left hj]
    exact hu
  | y :: xs, k + 1, x, hk, j, u, hu => by
    rw [List.flatMap_cons, List.getElem?_append_right (by rw [hf, Nat.succ_mul]; omega), hf, show (k + 1) * c + j - c = k * c + j by rw [Nat.succ_mul]; omega]
    exact flat_get hf xs k x (by simpa using hk) j u hu
theorem Row.nil (B : Nat) (w : World) (e : TypeId) (c : Nat) (f : α → List Value) : Row B e c f w (.slice none 0 0) [] := World.ownsRow_nil _ _ _ _
theorem Row.fr {F : Nat → Prop} (h : Row B e c f w v xs) (hf : Fr F w w') (hn : ∀ k, v.ownBlock = some k → ¬F k) : Row B e c f w' v xs := hf.owns h hn
theorem Row.lt (h : Row B e c f w v xs) : ∀ k, v.ownBlock = some k → B ≤ k ∧ k < w.heap.size := World.ownsRow.lt h
theorem Row.base {B' : Nat} (h : Row B e c f w v xs) (hb : ∀ k, v.ownBlock = some k → B' ≤ k) : Row B' e c f w v xs := by
  refine ⟨h.1, ?_⟩
  rcases h.2 with q | ⟨g, cap, cur, rfl, hg, rest⟩
  · exact .inl q
  · exact .inr ⟨g, cap, cur, rfl, hb g rfl, rest⟩
theorem Row.typ (h : Row B e c f w v xs) : ∀ k, v.ownBlock = some k → ∃ cur, w.heap[k]? = some (.cells cur e (0, 0)) := fun k hk => by
  rcases h.2 with ⟨rfl, _⟩ | ⟨g, cap, cur, rfl, _, hc, _⟩
  · cases hk
  · have hg : g = k := by simpa [Value.ownBlock] using hk
    subst hg
    exact ⟨cur, hc⟩
theorem Row.apart_typ {e2 : TypeId} {z : Array Value} {g : Nat} (h : Row B e c f w v xs) (hb : w.heap[g]? = some (.cells z e2 (0, 0))) (hne : e ≠ e2) : v.ownBlock ≠ some g := fun hk => by
  obtain ⟨cur, hc⟩ := h.typ g hk
  rw [hb] at hc
  exact hne (by have := Option.some.inj hc; injection this with _ h2 _; exact h2.symm)
theorem Row.form (h : Row B e c f w v xs) : ∃ a cap, v = .slice a xs.length cap := by
  rcases h.2 with ⟨rfl, hn⟩ | ⟨g, cap, cur, rfl, _⟩
  · exact ⟨none, 0, by rw [hn]⟩
  · exact ⟨_, cap, rfl⟩
theorem Row.own (h : Row B e c f w v xs) (hn : 0 < xs.length) : ∃ g cap, v = .slice (some ⟨g, 0, none⟩) xs.length cap ∧ v.ownBlock = some g := by
  rcases h.2 with ⟨rfl, hn'⟩ | ⟨g, cap, cur, rfl, _⟩
  · omega
  · exact ⟨g, cap, rfl, rfl⟩
theorem Row.cell (hf : ∀ x, (f x).length = c) {g n cap : Nat} (h : Row B e c f w (.slice (some ⟨g, 0, none⟩) n cap) xs) {k : Nat} {x : α} (hk : xs[k]? = some x) {j q : Nat} {u : Value} (hu : (f x)[j]? = some u) (hq : q = k * c + j) : w.cell? ⟨g, q, none⟩ = some u := by
  have := World.ownsRow.cells h (g := g) rfl (k * c + j) u (flat_get hf xs k x hk j u hu)
  rw [Addr.add_lit] at this
  rw [hq]
  simpa using this
theorem Row.free {g n cap q : Nat} (h : Row B e c f w (.slice (some ⟨g, 0, none⟩) n cap) xs) : w.frozen? ⟨g, q, none⟩ = false := by
  obtain ⟨cur, hc⟩ := h.typ g rfl
  simp [World.frozen?, hc]
theorem Row.lit {g : Nat} {x : α} (h : w.heap[g]? = some (.cells (f x).toArray e (0, 0))) (hf : (f x).length = c) (hb : B ≤ g) : Row B e c f w (.slice (some ⟨g, 0, none⟩) 1 1) [x] :=
  ⟨by simp [hf], .inr ⟨g, 1, _, rfl, hb, h, Nat.le_refl _, by decide, by simp [hf], by simp [← hf]⟩⟩
theorem Row.take (hf : ∀ x, (f x).length = c) {a : Option Addr} {m cap : Nat} (h : Row B e c f w (.slice a m cap) xs) (n : Nat) (hn : n ≤ xs.length) : Row B e c f w (.slice a n cap) (xs.take n) := by
  have hl : (xs.take n).length = n := by simp; omega
  refine ⟨by rw [flat_len hf], ?_⟩
  rcases h.2 with ⟨he, hz⟩ | ⟨g, cp, cur, he, hb, hc, hle, hm, hs, ht⟩
  · injection he with h1 h2 h3
    refine .inl ⟨by rw [h1, h3, show n = 0 by omega], by rw [hl]; omega⟩
  · injection he with h1 h2 h3
    subst h1 h2 h3
    refine .inr ⟨g, cap, cur, by rw [hl], hb, hc, by rw [hl]; omega, hm, hs, ?_⟩
    rw [hl]
    have e0 : xs.flatMap f = (xs.take n).flatMap f ++ (xs.drop n).flatMap f := by rw [← List.flatMap_append, List.take_append_drop]
    have e2 : ((xs.take n).flatMap f).length = n * c := by rw [flat_len hf, hl]
    have e1 : (xs.take n).flatMap f = (xs.flatMap f).take (n * c) := by
      rw [e0, ← e2]
      exact List.take_left.symm
    rw [e1, ← ht, List.take_take, Nat.min_eq_left (Nat.mul_le_mul_right _ hn)]
theorem Row.app (t ty : TypeId) {z : Value} {b : Nat} (hty : P.underlying t = some (.slice e)) (info : (P.info? e).map (fun i => (i.zero, i.size, i.bytes)) = some (some z, c, b)) (hz : z.cells.size = c) (hc : 0 < c) (hb : b ≤ 1000) (hf : ∀ x, (f x).length = c) (h1 : ∀ x u, u ∈ f x → u.oneCell' = true)
    (x : α) (h : Row B e c f W v xs) (hB : B ≤ W.heap.size) (hl : xs.length ≤ 1000000) {lit : Array Value} (hlit : lit = (f x).toArray) : ∃ v' w', (Builtin.append_ #[t, t] ty #[v, .slice (some ⟨W.heap.size, 0, none⟩) 1 1]).run P (W.alloc (.cells lit e)) = .ok v' w' ∧ (Row B e c f w' v' (xs ++ [x]) ∧ Fr (fun q => v.ownBlock = some q) W w' ∧ ∀ k, v'.ownBlock = some k → v.ownBlock = some k ∨ W.heap.size ≤ k) := by
  obtain ⟨i0, hi, hz0, hz1, hz2⟩ := info_row info
  have ha := fr_al (Fr.refl (fun _ => False) W) (.cells lit e)
  have h0 : (W.alloc (.cells lit e)).ownsRow B e c v xs.length (xs.flatMap f) := ha.owns h (fun _ _ => id)
  have hnews : ∀ j u, (f x)[j]? = Option.some u → (W.alloc (.cells lit e)).cell? ((⟨W.heap.size, 0, none⟩ : Addr).add j) = Option.some u := fun j u hj => by
    rw [Addr.add_lit, Nat.zero_add, hlit]
    exact fcell W _ _ j _ (by simpa using hj)
  have hb48 : (xs.length + 1) * b ≤ 140737488355328 := Nat.le_trans (Nat.mul_le_mul (show xs.length + 1 ≤ 1000001 by omega) hb) (by decide)
  obtain ⟨v', w', hr, h2, h3, h4⟩ := run_append_own (P := P) (W.alloc (.cells lit e)) B t ty e i0 z c b hty hi hz0 hz1 hz2 hz hc v xs.length (xs.flatMap f) h0 ⟨W.heap.size, 0, none⟩ 1 1 (f x) (by rw [hf]; omega) hnews (h1 x) (by unfold maxLen; omega) hb48 (Nat.le_trans hB ha.size)
  refine ⟨v', w', hr, ?_, (fr_al (Fr.refl _ W) _).trans (Fr.of_by h3), fun k hk => ?_⟩
  · unfold Row
    rw [List.length_append, List.flatMap_append, List.flatMap_cons, List.flatMap_nil, List.append_nil]
    exact h2
  · have hsz : (W.alloc (.cells lit e)).heap.size = W.heap.size + 1 := by simp
    have hsmall : xs.length + 1 ≤ 9223372036854775807 := by omega
    rcases h0.2 with ⟨hv, hn⟩ | ⟨g, cap, cur, hv, hbg, hg, hnc, hcm, hcs, htake⟩
    · subst hv
      have hr2 := run_append_nil (P := P) (W.alloc (.cells lit e)) t ty e i0 z hty hi hz0 ⟨W.heap.size, 0, none⟩ 1 1 (f x) (by rw [hf]; omega) hnews (by omega) (by omega) (by rw [hz2]; omega)
      rw [hr] at hr2
      obtain rfl := (Result.ok.inj hr2).1
      have : (W.alloc (.cells lit e)).heap.size = k := by simpa [Value.ownBlock] using hk
      exact .inr (by omega)
    · subst hv
      by_cases hroom : xs.length + 1 ≤ cap
      · have hfit : xs.length * i0.size + (f x).length ≤ cur.size := by rw [hf, hcs, hz1, ← Nat.succ_mul]; exact Nat.mul_le_mul_right _ hroom
        have hr2 := run_append_room (P := P) (W.alloc (.cells lit e)) t ty e i0 hty hi g xs.length cap cur hg ⟨W.heap.size, 0, none⟩ 1 1 (f x) (by rw [hf]; omega) hnews (h1 x) hroom hfit
        rw [hr] at hr2
        obtain rfl := (Result.ok.inj hr2).1
        exact .inl (by simpa [Value.ownBlock] using hk)
      · have holds : ∀ j u, (xs.flatMap f)[j]? = Option.some u → (W.alloc (.cells lit e)).cell? ((⟨g, 0, none⟩ : Addr).add j) = Option.some u := World.ownsRow.cells h0 (g := g) rfl
        have hr2 := run_append_grow (P := P) (W.alloc (.cells lit e)) t ty e i0 z hty hi hz0 ⟨g, 0, none⟩ xs.length cap (xs.flatMap f) (by rw [flat_len hf, hz1]) holds ⟨W.heap.size, 0, none⟩ 1 1 (f x) (by rw [hf]; omega) hnews (by omega) (by omega) (growslice_fits (by omega) (by rw [hz2]; exact hb48))
        rw [hr] at hr2
        obtain rfl := (Result.ok.inj hr2).1
        have : (W.alloc (.cells lit e)).heap.size = k := by simpa [Value.ownBlock] using hk
        exact .inr (by omega)
/-- A part of a row that is written over with zeros. -/
theorem Row.clear (t ty : TypeId) {z : Value} {b : Nat} (hty : P.underlying t = some (.slice e)) (info : (P.info? e).map (fun i => (i.zero, i.size, i.bytes)) = some (some z, 1, b)) (hzc : z.cells = #[z]) (hz1 : z.oneCell' = true) (hf : ∀ x, (f x).length = 1) {g cap : Nat} (h : Row B e 1 f w (.slice (some ⟨g, 0, none⟩) xs.length cap) xs) (k : Nat) (hk : k ≤ xs.length) : ∃ w', (Builtin.clear_ #[t] ty #[.slice (some ⟨g, if cap = k then 0 else 0 + k, none⟩) (xs.length - k) (cap - k)]).run P w = .ok (.tuple #[]) w' ∧ (Row B e 1 f w' (.slice (some ⟨g, 0, none⟩) k cap) (xs.take k) ∧ Fr (fun q => q = g) w w') := by
  obtain ⟨i0, hi, hz0, _, _⟩ := info_row info
  by_cases hz : xs.length - k = 0
  · refine ⟨w, by rw [hz]; simp [Builtin.clear_, run_underlying hty], ?_, Fr.refl _ _⟩
    have : k = xs.length := by omega
    subst this
    rw [List.take_length]
    exact h
  have hl : (xs.take k).length = k := by simp; omega
  have hfl : (xs.flatMap f).length = xs.length := by rw [flat_len hf, Nat.mul_one]
  rcases h.2 with ⟨he, _⟩ | ⟨g', cp, cur, he, hb, hc, hle, hm, hs, ht⟩
  · cases he
  · injection he with h1 h2 h3
    injection h1 with h1
    injection h1 with h1
    subst h1 h3
    rw [if_neg (show ¬ cap = k by omega), Nat.zero_add]
    obtain ⟨w', cur', hr, hg', hs', hsame, hF⟩ := run_clear (P := P) (w := w) t ty e i0 z hty hi hz0 hzc hz1 g k (xs.length - k) (cap - k) cur hc (by omega)
    refine ⟨w', hr, ⟨by rw [flat_len hf], .inr ⟨g, cap, cur', by rw [hl], hb, hg', by rw [hl]; omega, hm, by rw [hs', hs], ?_⟩⟩, hF⟩
    rw [hl, Nat.mul_one]
    have e0 : xs.flatMap f = (xs.take k).flatMap f ++ (xs.drop k).flatMap f := by rw [← List.flatMap_append, List.take_append_drop]
    have e2 : ((xs.take k).flatMap f).length = k := by rw [flat_len hf, hl, Nat.mul_one]
    have e1 : (xs.take k).flatMap f = (xs.flatMap f).take k := by
      have e3 := List.take_append_of_le_length (l₂ := (xs.drop k).flatMap f) (show k ≤ ((xs.take k).flatMap f).length by omega)
      have e4 : ((xs.take k).flatMap f).take k = (xs.take k).flatMap f := List.take_of_length_le (by omega)
      rw [e0, e3, e4]
    rw [e1, ← ht, List.take_take, Nat.mul_one, Nat.min_eq_left hk]
    apply List.ext_getElem?
    intro j
    rw [List.getElem?_take, List.getElem?_take]
    split
    · rename_i hj
      rw [Array.getElem?_toList, Array.getElem?_toList]
      exact hsame j hj
    · rfl
/-- One cell of an element written. -/
theorem Row.upd (hf : ∀ x, (f x).length = c) {g n cap : Nat} (h : Row B e c f w (.slice (some ⟨g, 0, none⟩) n cap) xs) {k : Nat} (hk : k < xs.length) {j q : Nat} (hj : j < c) (hq : q = k * c + j) (u : Value) (x' : α) (hx : ∀ x, xs[k]? = some x → f x' = (f x).set j u) : Row B e c f (w.setCell ⟨g, q, none⟩ u) (.slice (some ⟨g, 0, none⟩) n cap) (xs.set k x') := by
  have hn : n = xs.length := by
    obtain ⟨a, cp, he⟩ := h.form
    injection he
  refine ⟨by rw [flat_len hf], ?_⟩
  rcases h.2 with ⟨he, _⟩ | ⟨g', cp, cur, he, hb, hc, hle, hm, hs, ht⟩
  · cases he
  · injection he with h1 h2 h3
    injection h1 with h1
    injection h1 with h1
    subst h1 h3
    have hqc : q < xs.length * c := by
      have := Nat.mul_le_mul_right c (show k + 1 ≤ xs.length from hk)
      rw [Nat.succ_mul] at this
      omega
    have hqs : q < cur.size := by rw [hs]; exact Nat.lt_of_lt_of_le hqc (Nat.mul_le_mul_right c hle)
    refine .inr ⟨g, cap, _, by rw [List.length_set, hn], hb, heap_setCell_same w g q cur _ _ hc, by rw [List.length_set]; exact hle, hm, by simp [hs], ?_⟩
    rw [List.length_set]
    apply List.ext_getElem?
    intro m
    rw [List.getElem?_take]
    by_cases hmn : m < xs.length * c
    · rw [if_pos hmn, Array.getElem?_toList, Array.getElem?_setIfInBounds]
      have hold : (xs.flatMap f)[m]? = cur[m]? := by
        rw [← ht, List.getElem?_take, if_pos hmn, Array.getElem?_toList]
      have hxs : xs[k]? = Option.some xs[k] := List.getElem?_eq_getElem hk
      have hx' := hx _ hxs
      -- where m lies
      have hc0 : 0 < c := by omega
      have hdiv := Nat.div_add_mod m c
      have hmod := Nat.mod_lt m hc0
      have hdl : m / c < xs.length := Nat.div_lt_of_lt_mul (by rw [Nat.mul_comm]; exact hmn)
      have hm2 : m = (m / c) * c + m % c := by rw [Nat.mul_comm]; exact hdiv.symm
      by_cases hd : m / c = k
      · have hkm : (xs.set k x')[k]? = Option.some x' := by simp [hk]
        have hu : m % c < (f x').length := by rw [hf]; exact hmod
        have r := flat_get hf (xs.set k x') k x' hkm (m % c) (f x')[m % c] (List.getElem?_eq_getElem hu)
        rw [hd] at hm2
        rw [← hm2] at r
        rw [r]
        by_cases hqm : q = m
        · have hjm : m % c = j := by omega
          rw [if_pos hqm, if_pos hqs]
          congr 1
          simp only [hx', hjm, List.getElem_set_self]
        · have hjm : m % c ≠ j := by omega
          rw [if_neg hqm, ← hold]
          have r2 := flat_get hf xs k xs[k] hxs (m % c) ((f xs[k])[m % c]'(by rw [hf]; exact hmod)) (List.getElem?_eq_getElem _)
          rw [← hm2] at r2
          rw [r2]
          congr 1
          simp only [hx']
          rw [List.getElem_set_ne (fun e => hjm e.symm)]
      · have hkm : (xs.set k x')[m / c]? = Option.some xs[m / c] := by
          rw [List.getElem?_set_ne (fun e => hd e.symm), List.getElem?_eq_getElem hdl]
        have hu : m % c < (f xs[m / c]).length := by rw [hf]; exact hmod
        have r := flat_get hf (xs.set k x') (m / c) xs[m / c] hkm (m % c) (f xs[m / c])[m % c] (List.getElem?_eq_getElem hu)
        have r2 := flat_get hf xs (m / c) xs[m / c] (List.getElem?_eq_getElem hdl) (m % c) (f xs[m / c])[m % c] (List.getElem?_eq_getElem hu)
        rw [← hm2] at r r2
        have hqm : q ≠ m := fun e => hd (by
          rw [← e, hq, Nat.mul_comm, Nat.mul_add_div hc0, Nat.div_eq_of_lt hj, Nat.add_zero])
        rw [r, if_neg hqm, ← hold, r2]
    · rw [if_neg hmn, List.getElem?_eq_none (by rw [flat_len hf, List.length_set]; omega)]
end
theorem O.clr {P : Program} {ops : Array Oper} {N : Nat} {Q : Exit → Act → World → Prop} {s : List (Nat × Value)} {l : List Oper} {o : Oper} {w : World} {x : Operand} {t : TypeId} {u : Value} {R : World → Prop} (hop : o.op = .call ⟨.builtin .clear, #[x], #[t]⟩) (hd : o.dst = none) (hg : gd ops s o = some true) (hu : ev s x = some u) (hr : ∃ w', (Builtin.clear_ #[t] o.type #[u]).run P w = .ok (.tuple #[]) w' ∧ R w') (h : ∀ w', R w' → WL P ops N Q s l w') : WL P ops N Q s (o :: l) w := fun a k => by
  obtain ⟨w', h1, h2⟩ := hr
  have hv := k.eval hu
  unfold wpList
  rw [gd_wanted k hg, if_pos rfl]
  refine .inl ?_
  unfold Oper.wp
  have he : (execOp a.eval o).run P w = .ok (.value (.tuple #[])) w' := by
    unfold execOp
    rw [hop]
    generalize a.eval = e at *
    simp [go_sem, hv, h1]
  rw [he]
  unfold Oper.upon
  rw [hd]
  exact h w' h2 a k
theorem run_nck {P : Program} {e : Operand → Value} {o : Oper} {x : Operand} {p : Addr} {w : World} (hop : o.op = .nilCheck x) (h1 : e x = .pointer (some p)) : (execOp e o).run P w = .ok (.value (.pointer (some p))) w := by
  unfold execOp
  rw [hop]
  simp [go_sem, h1]
theorem O.nck {P : Program} {ops : Array Oper} {N : Nat} {Q : Exit → Act → World → Prop} {s : List (Nat × Value)} {l : List Oper} {o : Oper} {d : Nat} {w : World} {x : Operand} {p : Addr} (hop : o.op = .nilCheck x) (hd : o.dst = some d) (hN : Nat.blt d N = true) (hg : gd ops s o = some true) (hu : ev s x = some (.pointer (some p))) (h : WL P ops N Q ((d, .pointer (some p)) :: s) l w) : WL P ops N Q s (o :: l) w :=
  WL.run hd hN hg (fun a k => run_nck hop (k.eval hu)) h
theorem RH.nck {P : Program} {S : World → Prop} {N : Nat} {s : List (Nat × Value)} {o : Oper} {x : Operand} {p : Addr} (hop : o.op = .nilCheck x) (hu : ev s x = some (.pointer (some p))) : ∀ a, Kn N s a → ∀ w, S w → (execOp a.eval o).run P w = .ok (.value (.pointer (some p))) w := fun a k w _ => run_nck hop (k.eval hu)
theorem Q.nck {P : Program} {C : World → Prop} {N : Nat} {s : List (Nat × Value)} {o : Oper} {x : Operand} {p : Addr} (hop : o.op = .nilCheck x) (hu : ev s x = some (.pointer (some p))) : ∀ a, Kn N s a → ∀ w, C w → o.quietAt P a C w (.pointer (some p)) := fun a k w _ => quietAt_of (run_nck hop (k.eval hu))
end Go.Proofs.Ythdkmjbeemfbbaa
