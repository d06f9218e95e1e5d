/-
  Rows of a call's own: several elements appended.
-/
import Derived.Test.YthdkmjbeemfbbaaQWs
import Derived.Laws.CopyRow
namespace Go.Proofs.Ythdkmjbeemfbbaa
open Go.RowKit
set_option linter.unusedVariables false
set_option linter.unusedSimpArgs false
set_option linter.unnecessarySimpa false
section
variable {α : Type} {P : Program} {B : Nat} {e : TypeId} {c : Nat} {f : α → List Value} {w w' W : World} {v : Value} {xs : List α}
/-- A row copied over another one. -/
theorem Row.copy (dT ty : TypeId) (hu : P.underlying dT = some (.slice e)) (hs : (P.info? e).map (·.size) = some 1) (hf : ∀ x, (f x).length = 1) (h1 : ∀ x u, u ∈ f x → u.oneCell' = true) {B2 : Nat} {ys : List α} {g h cp cp2 : Nat} (hd : Row B e 1 f w (.slice (some ⟨g, 0, none⟩) xs.length cp) xs) (hy : Row B2 e 1 f w (.slice (some ⟨h, 0, none⟩) ys.length cp2) ys) (hl : ys.length = xs.length) : ∃ v' w', (Builtin.copy_ #[dT, dT] ty #[.slice (some ⟨g, 0, none⟩) xs.length cp, .slice (some ⟨h, 0, none⟩) ys.length cp2]).run P w = .ok v' w' ∧ (Row B e 1 f w' (.slice (some ⟨g, 0, none⟩) xs.length cp) ys ∧ Fr (fun q => q = g) w w') := by
  have hfl : (ys.flatMap f).length = ys.length := by rw [flat_len hf, Nat.mul_one]
  rcases hd.2 with ⟨he, _⟩ | ⟨g', c', cur, he, hb, hc, hle, hm, hsz, ht⟩
  · cases he
  · injection he with e1 e2 e3
    injection e1 with e1
    injection e1 with e1
    subst e1 e3
    have hone : ∀ v ∈ ys.flatMap f, v.oneCell' = true := fun u hu => by
      obtain ⟨x, _, hx⟩ := List.mem_flatMap.1 hu
      exact h1 x u hx
    have hsrc : ∀ j v, (ys.flatMap f)[j]? = some v → w.cell? ((⟨h, 0, none⟩ : Addr).add j) = some v := World.ownsRow.cells hy (g := h) rfl
    have hr := run_copy_row (P := P) w dT dT ty e g 0 xs.length cp ⟨h, 0, none⟩ ys.length cp2 cur e (ys.flatMap f) hu hs hc (by rw [hfl, hl]; exact (Nat.min_self _).symm) hsrc (by rw [hfl, hsz]; omega) hone
    refine ⟨_, _, hr, ⟨by rw [flat_len hf], .inr ⟨g, cp, _, by rw [hl], hb, setRow_heap w g cur _ e _ hc, by rw [hl]; exact hle, hm, ?_, ?_⟩⟩, ⟨rfl, rfl, by simp [World.setRow], fun k hk hn => setRow_other w g k _ hn⟩⟩
    · simp only [List.size_toArray, List.length_append, List.length_take, List.length_drop, Array.length_toList, hfl, hsz]
      omega
    · simp only [List.take_zero, List.nil_append, Nat.mul_one]
      rw [List.take_left' hfl]
end
theorem O.copy {P : Program} {ops : Array Oper} {N : Nat} {Q : Exit → Act → World → Prop} {s : List (Nat × Value)} {l : List Oper} {o : Oper} {d : Nat} {w : World} {x y : Operand} {t t' : TypeId} {u v : Value} {R : Value → World → Prop} (hop : o.op = .call { callee := .builtin .copy, args := #[x, y], argTypes := #[t, t'] }) (hd : o.dst = some d) (hN : Nat.blt d N = true) (hg : gd ops s o = some true) (hu : ev s x = some u) (hv : ev s y = some v) (hr : ∃ v' w', (Builtin.copy_ #[t, t'] o.type #[u, v]).run P w = .ok v' w' ∧ R v' w') (h : ∀ v' w', R v' w' → WL P ops N Q ((d, v') :: s) l w') : WL P ops N Q s (o :: l) w := fun a k => by
  have h1 := k.eval hu
  have h2 := k.eval hv
  obtain ⟨v', w', hq, hR⟩ := hr
  unfold wpList
  rw [gd_wanted k hg, if_pos rfl]
  refine .inl ?_
  unfold Oper.wp execOp
  simp only [hop, resolve, invoke, builtin, Sem.run_bind, Sem.run_pure, Result.andThen_ok, List.map_toArray, List.map_cons, List.map_nil, h1, h2, hq]
  unfold Oper.upon
  rw [hd]
  exact h v' w' hR _ (k.put hN _)
end Go.Proofs.Ythdkmjbeemfbbaa
