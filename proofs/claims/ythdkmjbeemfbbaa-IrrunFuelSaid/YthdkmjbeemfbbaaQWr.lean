/-
  A walk over a region that draws its order and writes: what may be taken first, whatever its kind.
-/
import Derived.Test.YthdkmjbeemfbbaaQWp
namespace Go.Proofs.Ythdkmjbeemfbbaa
open Go.RowKit
set_option linter.unusedVariables false
set_option linter.unusedSimpArgs false
theorem RH.not {P : Program} {S : World → Prop} {N : Nat} {s : List (Nat × Value)} {o : Oper} {t : TypeId} {x : Operand} {b : Bool} (hop : o.op = .unOp .not t x) (hu : ev s x = some (.bool b)) : ∀ a, Kn N s a → ∀ w, S w → (execOp a.eval o).run P w = .ok (.value (.bool (!b))) w := fun a k w _ => by
  unfold execOp
  rw [hop]
  simp only [k.eval hu]
  simp [go_sem]
theorem RH.bin {P : Program} {S : World → Prop} {N : Nat} {s : List (Nat × Value)} {o : Oper} {b : BinOp} {t r : TypeId} {x y : Operand} {u u' v : Value} (hop : o.op = .binOp b t x y r) (hu : ev s x = some u) (hu' : ev s y = some u') (hr : ∀ w, (do eqGuard b t x y u u'; binOp b t u u' : Sem Value).run P w = .ok v w) : ∀ a, Kn N s a → ∀ w, S w → (execOp a.eval o).run P w = .ok (.value v) w := fun a k w _ => by
  unfold execOp
  rw [hop]
  have := hr w
  simp only [k.eval hu, k.eval hu', Sem.run_bind] at this ⊢
  rw [this]
  simp [go_sem]
theorem RH.len {P : Program} {S : World → Prop} {N : Nat} {s : List (Nat × Value)} {o : Oper} {x : Operand} {t : TypeId} {g : Option Addr} {n c : Nat} (hop : o.op = .call ⟨.builtin .len, #[x], #[t]⟩) (hu : ev s x = some (.slice g n c)) (hr : ∀ w, (Builtin.len_ #[t] o.type #[.slice g n c]).run P w = .ok (.int .i64 n) w) : ∀ a, Kn N s a → ∀ w, S w → (execOp a.eval o).run P w = .ok (.value (.int .i64 n)) w := fun a k w _ => by
  have h1 := k.eval hu
  unfold execOp
  rw [hop]
  generalize a.eval = e at *
  simp [go_sem, h1, hr]
theorem RH.cv {P : Program} {S : World → Prop} {N : Nat} {s : List (Nat × Value)} {o : Oper} {t t2 : TypeId} {x : Operand} {u v : Value} (hop : o.op = .convert t t2 x) (h0 : ev s x = some u) (hr : ∀ w, S w → (convert t t2 u).run P w = .ok v w) : ∀ a, Kn N s a → ∀ w, S w → (execOp a.eval o).run P w = .ok (.value v) w := fun a k w hw => by
  have k0 := k.eval h0
  unfold execOp
  rw [hop]
  simp only [k0, Sem.run_bind, hr w hw, Result.andThen_ok, Sem.run_pure]
theorem RH.fd {P : Program} {S : World → Prop} {N : Nat} {s : List (Nat × Value)} {o : Oper} {t : TypeId} {j : Nat} {x : Operand} {u v : Value} (hop : o.op = .field t x j) (h0 : ev s x = some u) (hr : ∀ w, S w → (Instr.field t u j).run P w = .ok v w) : ∀ a, Kn N s a → ∀ w, S w → (execOp a.eval o).run P w = .ok (.value v) w := fun a k w hw => by
  have k0 := k.eval h0
  unfold execOp
  rw [hop]
  simp only [k0, Sem.run_bind, hr w hw, Result.andThen_ok, Sem.run_pure]
theorem RH.sl1 {P : Program} {S : World → Prop} {N : Nat} {s : List (Nat × Value)} {o : Oper} {t : TypeId} {x y : Operand} {u u2 v : Value} (hop : o.op = .slice t x (some y) none none) (h0 : ev s x = some u) (h1 : ev s y = some u2) (hr : ∀ w, S w → (Instr.sliceAt t u (some u2) none none).run P w = .ok v w) : ∀ a, Kn N s a → ∀ w, S w → (execOp a.eval o).run P w = .ok (.value v) w := fun a k w hw => by
  have k0 := k.eval h0
  have k1 := k.eval h1
  unfold execOp
  rw [hop]
  simp only [Option.map_some, Option.map_none, k0, k1, Sem.run_bind, hr w hw, Result.andThen_ok, Sem.run_pure]
theorem RH.sl2 {P : Program} {S : World → Prop} {N : Nat} {s : List (Nat × Value)} {o : Oper} {t : TypeId} {x y : Operand} {u u2 v : Value} (hop : o.op = .slice t x none (some y) none) (h0 : ev s x = some u) (h1 : ev s y = some u2) (hr : ∀ w, S w → (Instr.sliceAt t u none (some u2) none).run P w = .ok v w) : ∀ a, Kn N s a → ∀ w, S w → (execOp a.eval o).run P w = .ok (.value v) w := fun a k w hw => by
  have k0 := k.eval h0
  have k1 := k.eval h1
  unfold execOp
  rw [hop]
  simp only [Option.map_some, Option.map_none, k0, k1, Sem.run_bind, hr w hw, Result.andThen_ok, Sem.run_pure]
theorem RH.sl12 {P : Program} {S : World → Prop} {N : Nat} {s : List (Nat × Value)} {o : Oper} {t : TypeId} {x y z : Operand} {u u2 u3 v : Value} (hop : o.op = .slice t x (some y) (some z) none) (h0 : ev s x = some u) (h1 : ev s y = some u2) (h2 : ev s z = some u3) (hr : ∀ w, S w → (Instr.sliceAt t u (some u2) (some u3) none).run P w = .ok v w) : ∀ a, Kn N s a → ∀ w, S w → (execOp a.eval o).run P w = .ok (.value v) w := fun a k w hw => by
  have k0 := k.eval h0
  have k1 := k.eval h1
  have k2 := k.eval h2
  unfold execOp
  rw [hop]
  simp only [Option.map_some, Option.map_none, k0, k1, k2, Sem.run_bind, hr w hw, Result.andThen_ok, Sem.run_pure]
theorem RH.bld {P : Program} {S : World → Prop} {N : Nat} {s : List (Nat × Value)} {o : Oper} {t : TypeId} {ps : Array (Nat × Operand)} {vs : Array (Nat × Value)} {v : Value} (hop : o.op = .build t ps) (hu : ps.toList.map (fun p => (p.1, ev s p.2)) = vs.toList.map (fun p => (p.1, some p.2))) (hr : ∀ w, S w → (Instr.build t vs).run P w = .ok v w) : ∀ a, Kn N s a → ∀ w, S w → (execOp a.eval o).run P w = .ok (.value v) w := fun a k w hw => by
  have hm : ps.map (fun p => (p.1, a.eval p.2)) = vs := O.parts k hu
  unfold execOp
  rw [hop]
  simp only [hm, Sem.run_bind, hr w hw, Result.andThen_ok, Sem.run_pure]
theorem RH.pick {P : Program} {S : World → Prop} {N : Nat} {s : List (Nat × Value)} {o : Oper} {x y z : Operand} {b : Bool} {v : Value} (hop : o.op = .pick x y z) (hb : ev s x = some (.bool b)) (hv : ev s (if b then y else z) = some v) : ∀ a, Kn N s a → ∀ w, S w → (execOp a.eval o).run P w = .ok (.value v) w := fun a k w _ => by
  have h1 := k.eval hb
  have h2 := k.eval hv
  unfold execOp
  rw [hop]
  generalize a.eval = e at *
  cases b
  · simp only [Bool.false_eq_true, if_false] at h2
    simp [go_sem, h1, h2]
  · simp only [if_true] at h2
    simp [go_sem, h1, h2]
section
variable {P : Program} {ops : Array Oper} {S : World → Prop} {N : Nat} {Q : Exit → Act → World → Prop} {s : List (Nat × Value)} {l : List Oper} {o o' o'' : Oper} {d i i' i'' fuel : Nat} {listed : Array Bool} {w : World}
theorem WH.skip (i : Nat) (hi : ops[i]? = some o) (hsel : Region.noSelect ops = true) (hf : Region.free .any ops listed i = true) (hr : (Region.ready .any ops listed).contains i = true) (hQ : ∀ c a (d : Nat) v w, Q (.panic c) (a.put (some d) v) w → Q (.panic c) a w) (hd : o.dst = some d) (hN : Nat.blt d N = true) (hg : gd ops s o = some false) (hS : S w)
    (h : WH P ops S N Q fuel (listed.setIfInBounds i true) ((d, undef) :: s) w) : WH P ops S N Q (fuel + 1) listed s w := fun a k =>
  wpAnyH_take hi hsel hf hr (fun c a2 w h => hQ c a2 d _ w (by rw [hd] at h; exact h)) (.inr ⟨gd_wanted k hg, rfl⟩) hS (by rw [hd]; exact h _ (k.put hN _))
theorem WH.split {b : Bool} (ht : b = true → WH P ops S N Q fuel listed ((d, .bool true) :: s) w) (hf : b = false → WH P ops S N Q fuel listed ((d, .bool false) :: s) w) : WH P ops S N Q fuel listed ((d, .bool b) :: s) w := by
  cases b
  · exact hf rfl
  · exact ht rfl
theorem WH.three (i i' i'' : Nat) (hr : Region.ready .any ops listed = [i, i', i'']) (hi : ops[i]? = some o) (hi' : ops[i']? = some o') (hi'' : ops[i'']? = some o'') (h : WL P ops N (Go1 P ops S Q fuel (listed.setIfInBounds i true)) s [o] w) (h' : WL P ops N (Go1 P ops S Q fuel (listed.setIfInBounds i' true)) s [o'] w) (h'' : WL P ops N (Go1 P ops S Q fuel (listed.setIfInBounds i'' true)) s [o''] w) : WH P ops S N Q (fuel + 1) listed s w := fun a k =>
  wpAnyH_all hr (by simp) (fun j hj => by
    have : j = i ∨ j = i' ∨ j = i'' := by simpa using hj
    rcases this with e | e | e
    · subst e; exact wpOp_of_list hi (h a k)
    · subst e; exact wpOp_of_list hi' (h' a k)
    · subst e; exact wpOp_of_list hi'' (h'' a k))
end
theorem Bx.store {P : Program} {w : World} {g : Nat} {z : Array Value} {t : TypeId} (h : Bx w g z t) (ty : TypeId) (cells : Array Value) (hi : (P.info? ty).map (·.size) = some cells.size) (ho : z.size = cells.size) (h1 : cells.all (·.oneCell') = true) : ∃ w', (Instr.storeAt ty (.pointer (some ⟨g, 0, none⟩)) (.agg cells)).run P w = .ok () w' ∧ (Fr (fun q => q = g) w w' ∧ Bx w' g cells t) := by
  refine ⟨w.setRow g cells, ?_, ⟨rfl, rfl, ?_, fun k hk hn => ?_⟩, setRow_heap w g z cells t (0, 0) h⟩
  · simp only [Instr.storeAt, Instr.sureAddr, Sem.run_bind, Sem.run_pure, Result.andThen_ok, run_storeVar_row w g t ty z cells h hi ho h1]
  · simp [World.setRow]
  · exact setRow_other w g k cells hn
theorem O.mkR {P : Program} {ops : Array Oper} {N : Nat} {Q : Exit → Act → World → Prop} {s : List (Nat × Value)} {l : List Oper} {o : Oper} {d : Nat} {w : World} {t ty : TypeId} {x y : Operand} {u u2 v : Value} {z : Array Value} (hop : o.op = .makeSlice t x y) (hd : o.dst = some d) (hN : Nat.blt d N = true) (hg : gd ops s o = some true) (h0 : ev s x = some u) (h1 : ev s y = some u2) (hr : (Instr.makeSlice t u u2).run P w = .ok v (w.alloc (.cells z ty))) (h : ∀ w', Fr (fun _ => False) w w' ∧ Bx w' w.heap.size z ty → WL P ops N Q ((d, v) :: s) l w') : WL P ops N Q s (o :: l) w := O.mk hop hd hN hg h0 h1 hr (h _ ⟨fr_al (Fr.refl _ _) _, Bx.new _ _ _⟩)
theorem least_of {p : Nat → Prop} : ∀ n, p n → ∃ d, p d ∧ ∀ k, k < d → ¬ p k := by
  intro n
  induction n using Nat.strongRecOn with
  | ind n ih =>
    intro h
    by_cases q : ∃ k, k < n ∧ p k
    · obtain ⟨k, hk, hp⟩ := q
      exact ih k hk hp
    · exact ⟨n, h, fun k hk hp => q ⟨k, hk, hp⟩⟩
open Classical in
noncomputable def leastD (p : Nat → Prop) : Nat := if h : ∃ d, p d ∧ ∀ k, k < d → ¬ p k then Classical.choose h else 0
theorem leastD_spec {p : Nat → Prop} {n : Nat} (h : p n) : p (leastD p) ∧ ∀ k, k < leastD p → ¬ p k := by
  unfold leastD
  rw [dif_pos (least_of n h)]
  exact Classical.choose_spec (least_of n h)
theorem leastD_le {p : Nat → Prop} {n : Nat} (h : p n) : leastD p ≤ n := by
  have := (leastD_spec h).2 n
  exact Nat.le_of_not_lt fun q => this q h
/-- A loop whose rounds are counted by the proof alone. -/
theorem O.loopX {P : Program} {N : Nat} {Q : Exit → Act → World → Prop} {s : List (Nat × Value)} {x : Code} {w : World} {n : Nat} (I : Nat → Act → World → Prop) (j0 : Nat) (hj0 : j0 ≤ n) (h0 : ∀ a, Kn N s a → I j0 a w)
    (round : ∀ j a w, j ≤ n → I j a w → x.wp P (Exit.then (fun a w => ∃ j', j < j' ∧ j' ≤ n ∧ I j' a w) Q) a w) : TW P N Q s (.loop x) w := fun a k => by
  refine wp_loop (fun a w => ∃ j, j ≤ n ∧ I j a w) (fun a w => leastD fun d => d ≤ n ∧ I (n - d) a w) ⟨j0, hj0, h0 a k⟩ ?_
  rintro a w ⟨j, hj, hI⟩
  have hp : (fun d => d ≤ n ∧ I (n - d) a w) (n - j) := ⟨by omega, by rw [Nat.sub_sub_self hj]; exact hI⟩
  obtain ⟨hm, _⟩ := leastD_spec (p := fun d => d ≤ n ∧ I (n - d) a w) hp
  generalize hd : leastD (fun d => d ≤ n ∧ I (n - d) a w) = d at *
  refine wp_mono (round (n - d) a w (by omega) hm.2) ?_
  intro e a' w' q
  cases e with
  | normal =>
    obtain ⟨j', h1, h2, h3⟩ := q
    refine ⟨⟨j', h2, h3⟩, ?_⟩
    have hp' : (fun d => d ≤ n ∧ I (n - d) a' w') (n - j') := ⟨by omega, by rw [Nat.sub_sub_self h2]; exact h3⟩
    have := leastD_le (p := fun d => d ≤ n ∧ I (n - d) a' w') hp'
    have := hm.1
    show leastD (fun d => d ≤ n ∧ I (n - d) a' w') < d
    omega
  | exit id => exact q
  | goto l => exact q
  | ret => exact q
  | panic ch => exact q
  | outgrown => exact q
theorem O.bslR {P : Program} {ops : Array Oper} {N : Nat} {Q : Exit → Act → World → Prop} {s : List (Nat × Value)} {l : List Oper} {o : Oper} {d : Nat} {w : World} {t ty : TypeId} {m : Nat} {ps : Array (Nat × Operand)} {vs : Array (Nat × Value)} {v : Value} {z : Array Value} (hop : o.op = .buildSlice t m ps) (hd : o.dst = some d) (hN : Nat.blt d N = true) (hg : gd ops s o = some true) (hu : ps.toList.map (fun p => (p.1, ev s p.2)) = vs.toList.map (fun p => (p.1, some p.2))) (hr : (Instr.buildSlice t m vs).run P w = .ok v (w.alloc (.cells z ty))) (h : ∀ w', Fr (fun _ => False) w w' ∧ Bx w' w.heap.size z ty → WL P ops N Q ((d, v) :: s) l w') : WL P ops N Q s (o :: l) w := O.bsl hop hd hN hg hu hr (h _ ⟨fr_al (Fr.refl _ _) _, Bx.new _ _ _⟩)
end Go.Proofs.Ythdkmjbeemfbbaa
