/-
  Rows of a call's own: several elements appended.
-/
import Derived.Test.YtoffbjfgledjfaaDoorWs
import Derived.Laws.CopyRow
namespace Go.Proofs.YtoffbjfgledjfaaDoor
open Go.RowKit
set_option linter.unusedVariables false
set_option linter.unusedSimpArgs false
set_option linter.unnecessarySimpa false
section
variable {α : Type} {P : Program} {B : Nat} {e : TypeId} {c : Nat} {f : α → List Value} {w w' W : World} {v : Value} {xs : List α}
theorem run_append_zero {P : Program} {w : World} (base : Nat) (t ty e : TypeId) (i : TypeInfo) (size : Nat) (ht : P.underlying t = some (.slice e)) (hi : P.info? e = some i)
    (v : Value) (n : Nat) (xs : List Value) (hown : w.ownsRow base e size v n xs) (sa : Option Addr) (sc : Nat) : (Builtin.append_ #[t, t] ty #[v, .slice sa 0 sc]).run P w = .ok v w := by
  rcases hown.2 with ⟨rfl, rfl⟩ | ⟨g, cap, cur, rfl, _, _, hnc, _⟩
  · cases sa <;> simp [Builtin.append_, run_underlying ht, sizeOf, typeInfo, hi, Builtin.lenOf, Builtin.firstCells, loadCells, loadCellsFrom]
  · cases sa <;> simp [Builtin.append_, run_underlying ht, sizeOf, typeInfo, hi, Builtin.lenOf, Builtin.firstCells, hnc, storeCells, loadCells, loadCellsFrom]
theorem Row.appN (t ty : TypeId) {z : Value} {b : Nat} (hty : P.underlying t = some (.slice e)) (info : (P.info? e).map (fun i => (i.zero, i.size, i.bytes)) = some (some z, c, b)) (hz : z.cells.size = c) (hc : 0 < c) (hb : b ≤ 1000) (hf : ∀ x, (f x).length = c) (h1 : ∀ x u, u ∈ f x → u.oneCell' = true)
    (ys : List α) (h : Row B e c f W v xs) (hB : B ≤ W.heap.size) (hl : xs.length ≤ 1000000) (hy : ys.length ≤ 1000000) {sa : Option Addr} {sc : Nat} (hsrc : ∀ k x, ys[k]? = some x → ∃ g o, sa = some ⟨g, o, none⟩ ∧ ∀ j u, (f x)[j]? = some u → W.cell? ⟨g, o + (k * c + j), none⟩ = some u) : ∃ v' w', (Builtin.append_ #[t, t] ty #[v, .slice sa ys.length sc]).run P W = .ok v' w' ∧ (Row B e c f w' v' (xs ++ ys) ∧ Fr (fun q => v.ownBlock = some q) W w' ∧ ∀ k, v'.ownBlock = some k → v.ownBlock = some k ∨ W.heap.size ≤ k) := by
  obtain ⟨i0, hi, hz0, hz1, hz2⟩ := info_row info
  have h0 : W.ownsRow B e c v xs.length (xs.flatMap f) := h
  cases ys with
  | nil =>
    refine ⟨v, W, run_append_zero B t ty e i0 c hty hi v _ _ h0 sa sc, ?_, Fr.refl _ _, fun k hk => .inl hk⟩
    rw [List.append_nil]
    exact h
  | cons y ys =>
  obtain ⟨sg, so, rfl, _⟩ := hsrc 0 y rfl
  have hyl : ((y :: ys).flatMap f).length = (y :: ys).length * c := flat_len hf _
  have hnews : ∀ j u, ((y :: ys).flatMap f)[j]? = Option.some u → W.cell? ((⟨sg, so, none⟩ : Addr).add j) = Option.some u := fun j u hj => by
    have hlt : j < (y :: ys).length * c := by rw [← hyl]; exact (List.getElem?_eq_some_iff.1 hj).1
    have hk : j / c < (y :: ys).length := Nat.div_lt_of_lt_mul (by rw [Nat.mul_comm]; exact hlt)
    have hdm : j / c * c + j % c = j := by rw [Nat.mul_comm]; exact Nat.div_add_mod j c
    obtain ⟨g, o, e1, hcell⟩ := hsrc (j / c) ((y :: ys)[j / c]) (List.getElem?_eq_getElem hk)
    cases e1
    have hju : (f ((y :: ys)[j / c]))[j % c]? = some u := by
      have hlt2 : j % c < (f ((y :: ys)[j / c])).length := by rw [hf]; exact Nat.mod_lt _ hc
      have := flat_get hf (y :: ys) (j / c) _ (List.getElem?_eq_getElem hk) (j % c) _ (List.getElem?_eq_getElem hlt2)
      rw [hdm, hj] at this
      rw [List.getElem?_eq_getElem hlt2]
      exact this.symm
    have := hcell (j % c) u hju
    rw [hdm] at this
    rw [Addr.add_lit]
    exact this
  have h1s : ∀ u ∈ (y :: ys).flatMap f, u.oneCell' = true := fun u hu => by
    obtain ⟨x, _, hx⟩ := List.mem_flatMap.1 hu
    exact h1 x u hx
  generalize hys : y :: ys = zs at *
  have hpos : 0 < zs.length := by rw [← hys]; simp
  have hb48 : (xs.length + zs.length) * b ≤ 140737488355328 := Nat.le_trans (Nat.mul_le_mul (show xs.length + zs.length ≤ 2000000 by omega) hb) (by decide)
  obtain ⟨v', w', hr, h2, h3, h4⟩ := run_append_own (P := P) W B t ty e i0 z c b hty hi hz0 hz1 hz2 hz hc v xs.length (xs.flatMap f) h0 ⟨sg, so, none⟩ zs.length sc (zs.flatMap f) hyl hnews h1s (by unfold maxLen; omega) hb48 hB
  refine ⟨v', w', hr, ?_, Fr.of_by h3, fun k hk => ?_⟩
  · unfold Row
    rw [List.length_append, List.flatMap_append]
    exact h2
  · rcases h0.2 with ⟨hv, hn⟩ | ⟨g, cap, cur, hv, hbg, hg, hnc, hcm, hcs, htake⟩
    · subst hv
      have hr2 := run_append_nil (P := P) W t ty e i0 z hty hi hz0 ⟨sg, so, none⟩ zs.length sc (zs.flatMap f) (by rw [hz1]; exact hyl) hnews hpos (by omega) (by rw [hz2]; exact Nat.le_trans (Nat.mul_le_mul (show zs.length ≤ 1000000 by omega) hb) (by decide))
      rw [hr] at hr2
      obtain rfl := (Result.ok.inj hr2).1
      have : W.heap.size = k := by simpa [Value.ownBlock] using hk
      exact .inr (by omega)
    · subst hv
      by_cases hroom : xs.length + zs.length ≤ cap
      · have hfit : xs.length * i0.size + (zs.flatMap f).length ≤ cur.size := by rw [hyl, hcs, hz1, ← Nat.add_mul]; exact Nat.mul_le_mul_right _ hroom
        have hr2 := run_append_room (P := P) W t ty e i0 hty hi g xs.length cap cur hg ⟨sg, so, none⟩ zs.length sc (zs.flatMap f) (by rw [hz1]; exact hyl) hnews h1s hroom hfit
        rw [hr] at hr2
        obtain rfl := (Result.ok.inj hr2).1
        exact .inl (by simpa [Value.ownBlock] using hk)
      · have holds : ∀ j u, (xs.flatMap f)[j]? = Option.some u → W.cell? ((⟨g, 0, none⟩ : Addr).add j) = Option.some u := World.ownsRow.cells h0 (g := g) rfl
        have hr2 := run_append_grow (P := P) W t ty e i0 z hty hi hz0 ⟨g, 0, none⟩ xs.length cap (xs.flatMap f) (by rw [flat_len hf, hz1]) holds ⟨sg, so, none⟩ zs.length sc (zs.flatMap f) (by rw [hz1]; exact hyl) hnews (by omega) (by omega) (growslice_fits (by omega) (by rw [hz2]; exact hb48))
        rw [hr] at hr2
        obtain rfl := (Result.ok.inj hr2).1
        have : W.heap.size = k := by simpa [Value.ownBlock] using hk
        exact .inr (by omega)
/-- A row copied over another one. -/
theorem Row.copy (dT ty : TypeId) (hu : P.underlying dT = some (.slice e)) (hs : (P.info? e).map (·.size) = some 1) (hf : ∀ x, (f x).length = 1) (h1 : ∀ x u, u ∈ f x → u.oneCell' = true) {B2 : Nat} {ys : List α} {g h cp cp2 : Nat} (hd : Row B e 1 f w (.slice (some ⟨g, 0, none⟩) xs.length cp) xs) (hy : Row B2 e 1 f w (.slice (some ⟨h, 0, none⟩) ys.length cp2) ys) (hl : ys.length = xs.length) : ∃ v' w', (Builtin.copy_ #[dT, dT] ty #[.slice (some ⟨g, 0, none⟩) xs.length cp, .slice (some ⟨h, 0, none⟩) ys.length cp2]).run P w = .ok v' w' ∧ (Row B e 1 f w' (.slice (some ⟨g, 0, none⟩) xs.length cp) ys ∧ Fr (fun q => q = g) w w') := by
  have hfl : (ys.flatMap f).length = ys.length := by rw [flat_len hf, Nat.mul_one]
  rcases hd.2 with ⟨he, _⟩ | ⟨g', c', cur, he, hb, hc, hle, hm, hsz, ht⟩
  · cases he
  · injection he with e1 e2 e3
    injection e1 with e1
    injection e1 with e1
    subst e1 e3
    have hone : ∀ v ∈ ys.flatMap f, v.oneCell' = true := fun u hu => by
      obtain ⟨x, _, hx⟩ := List.mem_flatMap.1 hu
      exact h1 x u hx
    have hsrc : ∀ j v, (ys.flatMap f)[j]? = some v → w.cell? ((⟨h, 0, none⟩ : Addr).add j) = some v := World.ownsRow.cells hy (g := h) rfl
    have hr := run_copy_row (P := P) w dT dT ty e g 0 xs.length cp ⟨h, 0, none⟩ ys.length cp2 cur e (ys.flatMap f) hu hs hc (by rw [hfl, hl]; exact (Nat.min_self _).symm) hsrc (by rw [hfl, hsz]; omega) hone
    refine ⟨_, _, hr, ⟨by rw [flat_len hf], .inr ⟨g, cp, _, by rw [hl], hb, setRow_heap w g cur _ e _ hc, by rw [hl]; exact hle, hm, ?_, ?_⟩⟩, ⟨rfl, rfl, by simp [World.setRow], fun k hk hn => setRow_other w g k _ hn⟩⟩
    · simp only [List.size_toArray, List.length_append, List.length_take, List.length_drop, Array.length_toList, hfl, hsz]
      omega
    · simp only [List.take_zero, List.nil_append, Nat.mul_one]
      rw [List.take_left' hfl]
end
theorem O.copy {P : Program} {ops : Array Oper} {N : Nat} {Q : Exit → Act → World → Prop} {s : List (Nat × Value)} {l : List Oper} {o : Oper} {d : Nat} {w : World} {x y : Operand} {t t' : TypeId} {u v : Value} {R : Value → World → Prop} (hop : o.op = .call { callee := .builtin .copy, args := #[x, y], argTypes := #[t, t'] }) (hd : o.dst = some d) (hN : Nat.blt d N = true) (hg : gd ops s o = some true) (hu : ev s x = some u) (hv : ev s y = some v) (hr : ∃ v' w', (Builtin.copy_ #[t, t'] o.type #[u, v]).run P w = .ok v' w' ∧ R v' w') (h : ∀ v' w', R v' w' → WL P ops N Q ((d, v') :: s) l w') : WL P ops N Q s (o :: l) w := fun a k => by
  have h1 := k.eval hu
  have h2 := k.eval hv
  obtain ⟨v', w', hq, hR⟩ := hr
  unfold wpList
  rw [gd_wanted k hg, if_pos rfl]
  refine .inl ?_
  unfold Oper.wp execOp
  simp only [hop, resolve, invoke, builtin, Sem.run_bind, Sem.run_pure, Result.andThen_ok, List.map_toArray, List.map_cons, List.map_nil, h1, h2, hq]
  unfold Oper.upon
  rw [hd]
  exact h v' w' hR _ (k.put hN _)
end Go.Proofs.YtoffbjfgledjfaaDoor
